import Derived.Test.YtkijpphmiogbbabDa
import Derived.Test.YtkijpphmiogbbabL3
namespace Go.Proofs.Ytkijpphmiogbbab
open Go.RowKit
attribute [local go_sem ↓] Go.wp_at_zero Go.wp_at_succ
attribute [local go_sem] Try.zv24 Try.zv42

/-- A load, and a store, of a whole polynomial, kept from being laid open by the walk. -/
def d32Ld (p : Value) : Sem Value := Instr.loadAt 42 p
def d32St (p v : Value) := Instr.storeAt 42 p v
def d64St (p v : Value) := Instr.storeAt 24 p v
theorem d32Ld_hide (p : Value) : Instr.loadAt 42 p = d32Ld p := rfl
theorem d32St_hide (p v : Value) : Instr.storeAt 42 p v = d32St p v := rfl
theorem d64St_hide (p v : Value) : Instr.storeAt 24 p v = d64St p v := rfl
theorem run_d32Ld (W : World) (b : Nat) (L : Nat → Int) (hr : PRow .u32 W b 0 L) : (d32Ld (.pointer (some ⟨b, 0, none⟩))).run Try.prog W = .ok (.agg (polyA .u32 L)) W := by
  unfold d32Ld
  simp only [Instr.loadAt, Instr.sureAddr, Sem.run_bind, Sem.run_pure, Result.andThen_ok, run_loadRow .u32 W 42 b 0 L hr Try.oQ32 Try.sQ32]
theorem run_d32St (W : World) (b : Nat) (L M : Nat → Int) (hr : PRow .u32 W b 0 M) : (d32St (.pointer (some ⟨b, 0, none⟩)) (.agg (polyA .u32 L))).run Try.prog W = .ok () (W.setCells b 0 (polyA .u32 L).toList) :=
  run_storeAt_mid W b 0 42 (polyA .u32 L) (hr.there .u32 L) (by rw [polyA_size]; exact Try.sQ32) (polyA_one .u32 L)
theorem run_d64St (W : World) (b : Nat) (L M : Nat → Int) (hr : PRow .i64 W b 0 M) : (d64St (.pointer (some ⟨b, 0, none⟩)) (.agg (polyA .i64 L))).run Try.prog W = .ok () (W.setCells b 0 (polyA .i64 L).toList) :=
  run_storeAt_mid W b 0 24 (polyA .i64 L) (hr.there .i64 L) (by rw [polyA_size]; exact Try.sP) (polyA_one .i64 L)
theorem res22 {P : Program} {fn : Func} {p s : Tmp} {ty : TypeId} (h : fn.results = #[.cell p ty, .cell s ty]) (k : IntKind) (tmps : Array Value) (w : World) (b c : Nat) (L M : Nat → Int)
    (hp : tmps.getD p undef = .pointer (some ⟨b, 0, none⟩)) (hs : tmps.getD s undef = .pointer (some ⟨c, 0, none⟩)) (hr : PRow k w b 0 L) (hr' : PRow k w c 0 M)
    (hu : ∃ e, P.underlying ty = some (.array 256 e)) (hi : (P.info? ty).map (·.size) = some 256) :
    (results fn tmps).run P w = .ok (.tuple #[.agg (polyA k L), .agg (polyA k M)]) w := by
  have hp' : tmps[p]?.getD undef = .pointer (some ⟨b, 0, none⟩) := by simpa using hp
  have hs' : tmps[s]?.getD undef = .pointer (some ⟨c, 0, none⟩) := by simpa using hs
  simp [results, h, hp', hs', asAddr, run_loadRow k w ty b 0 L hr hu hi, run_loadRow k w ty c 0 M hr' hu hi]
theorem res3 {P : Program} {fn : Func} {p s t : Tmp} {ty : TypeId} (h : fn.results = #[.cell p ty, .cell s ty, .tmp t]) (k : IntKind) (tmps : Array Value) (w : World) (b c : Nat) (L M : Nat → Int) (v : Value)
    (hp : tmps.getD p undef = .pointer (some ⟨b, 0, none⟩)) (hs : tmps.getD s undef = .pointer (some ⟨c, 0, none⟩)) (ht : tmps.getD t undef = v) (hr : PRow k w b 0 L) (hr' : PRow k w c 0 M)
    (hu : ∃ e, P.underlying ty = some (.array 256 e)) (hi : (P.info? ty).map (·.size) = some 256) :
    (results fn tmps).run P w = .ok (.tuple #[.agg (polyA k L), .agg (polyA k M), v]) w := by
  have hp' : tmps[p]?.getD undef = .pointer (some ⟨b, 0, none⟩) := by simpa using hp
  have hs' : tmps[s]?.getD undef = .pointer (some ⟨c, 0, none⟩) := by simpa using hs
  have ht' : tmps[t]?.getD undef = v := by simpa using ht
  simp [results, h, hp', hs', ht', asAddr, run_loadRow k w ty b 0 L hr hu hi, run_loadRow k w ty c 0 M hr' hu hi]

section
attribute [local go_sem ↓] d32Ld_hide d32St_hide
set_option maxHeartbeats 2000000 in
set_option maxRecDepth 20000 in
theorem parted_set (L H D M : Nat → Int) (g kk o : Int) (w : World) (hL : ∀ i, i < 256 → 0 ≤ L i ∧ L i < 4294967296) (hH : ∀ i, i < 256 → 0 ≤ H i ∧ H i < 4294967296) (hD : ∀ i, i < 256 → -8380417 < D i ∧ D i < 8380417) (hDM : ∀ i, i < 256 → (D i + 8380417) % 8380417 = M i)
    (hM : ∀ i W, i < 256 → w.grownBy W none → Calls Try.prog 27 #[.agg #[.int .i64 g, .int .i64 kk, .int .i64 o], .int .i64 (L i)] W fun e W' => e = .returned (.tuple #[.int .i64 (H i), .int .i64 (D i)]) ∧ W.grownBy W' none) :
    Calls Try.prog 24 #[.agg (polyA .u32 L), .func (.func 27) #[.agg #[.int .i64 g, .int .i64 kk, .int .i64 o]] #[]] w fun e w' => e = .returned (.tuple #[.agg (polyA .u32 H), .agg (polyA .u32 M)]) ∧ w.grownBy w' none := by
  have HM : Hid (∀ i W, i < 256 → w.grownBy W none → Calls Try.prog 27 #[.agg #[.int .i64 g, .int .i64 kk, .int .i64 o], .int .i64 (L i)] W fun e W' => e = .returned (.tuple #[.int .i64 (H i), .int .i64 (D i)]) ∧ W.grownBy W' none) := hM
  have HL : Hid (∀ i, i < 256 → 0 ≤ L i ∧ L i < 4294967296) := hL
  have HH : Hid (∀ i, i < 256 → 0 ≤ H i ∧ H i < 4294967296) := hH
  have HD : Hid (∀ i, i < 256 → -8380417 < D i ∧ D i < 8380417) := hD
  have HDM : Hid (∀ i, i < 256 → (D i + 8380417) % 8380417 = M i) := hDM
  clear hM hL hH hD hDM
  have n1 := new_alloc .u32 w L 42
  have n2 := new_alloc .u32 (w.alloc (.cells (polyA .u32 L) 42)) (fun _ => 0) 42
  rw [← Try.zQ32] at n2
  have n3 := new_alloc .u32 ((w.alloc (.cells (polyA .u32 L) 42)).alloc (.cells Try.zeroCells42 42)) (fun _ => 0) 42
  rw [← Try.zQ32] at n3
  go_enter Try.func24, Try.ntmps24
  go_wp2
  generalize ((w.alloc (.cells (polyA .u32 L) 42)).alloc (.cells Try.zeroCells42 42)).alloc (.cells Try.zeroCells42 42) = w3 at *
  generalize (w.alloc (.cells (polyA .u32 L) 42)).alloc (.cells Try.zeroCells42 42) = w2 at *
  have hR : PRow .u32 w3 w.heap.size 0 L := (n1.r.new n2.g).new n3.g
  have hA : PRow .u32 w3 (w.heap.size + 1) 0 (fun _ => 0) := by have := n2.r.new n3.g; rw [n1.s] at this; exact this
  have hZ : PRow .u32 w3 (w.heap.size + 2) 0 (fun _ => 0) := by have := n3.r; rw [n2.s, n1.s] at this; exact this
  have hg : w.grownBy w3 none := grownBy_trans n1.g (grownBy_trans n2.g n3.g)
  clear n1 n2 n3
  obtain ⟨B, hB⟩ : ∃ B, B = w.heap.size := ⟨_, rfl⟩
  rw [← hB] at hA hR hZ ⊢
  have hB' : w.heap.size ≤ B := by omega
  clear hB
  go_loopw [6, 7, 8, 9] (fun _ _ _ i wr => ∃ k : Nat, k ≤ 256 ∧ i = .int .i64 k ∧ w.grownBy wr none ∧ PRow .u32 wr B 0 L ∧ PRow .u32 wr (B + 1) 0 (fun j => if j < k then H j else 0) ∧ PRow .u32 wr (B + 1 + 1) 0 (fun j => if j < k then M j else 0)) (fun _ _ _ i _ => 256 - (intOf i).toNat)
  case atStart => exact ⟨0, by omega, rfl, hg, hR, hA.ext (fun j _ => by simp), hZ.ext (fun j _ => by simp)⟩
  case round =>
    clear hA hR hZ hg
    obtain ⟨k, hk, rfl, hg, hR, hA, hZ⟩ := hrel
    by_cases hlt : k < 256
    · have b0 : (0 : Int) ≤ (k : Int) := by omega
      have b1 : (k : Int) < 256 := by omega
      have l0 := (HL.out k hlt).1
      have l1 := (HL.out k hlt).2
      have h0 := (HH.out k hlt).1
      have h1 := (HH.out k hlt).2
      have d0 := (HD.out k hlt).1
      have d1 := (HD.out k hlt).2
      have dm := HDM.out k hlt
      have dt : (D k + 8380417).tmod 8380417 = M k := by rw [Int.tmod_eq_emod_of_nonneg (by omega)]; exact dm
      have cL := (hR.at0 k hlt).1
      have cv : IntKind.i64.wrap (L k) = L k := by rw [IntKind.wrap_i64] <;> omega
      have ch : IntKind.u32.wrap (H k) = H k := by rw [IntKind.wrap_u32]; omega
      have cm : IntKind.u32.wrap (M k) = M k := by rw [IntKind.wrap_u32]; omega
      go_wp2_with (first | (go_at_call 27; refine (HM.out k wr hlt hg).mono ?_; rintro e w5 ⟨rfl, g5⟩; have ca := ((hA.new g5).at0 k hlt).1; have fa := ((hA.new g5).at0 k hlt).2; have cz := ((hZ.new g5).at0 k hlt).1; have fz := ((hZ.new g5).at0 k hlt).2))
      go_roundw
      case rel =>
        have hA5 := (((hA.new g5).set0 hlt (H k)).ext (fun j _ => mix_step H (fun _ => 0) k j)).set_other (p := ⟨B + 1 + 1, k, none⟩) (by simp <;> omega) (.int .u32 (M k))
        have hZ5 := (((hZ.new g5).set_other (p := ⟨B + 1, k, none⟩) (by simp <;> omega) (.int .u32 (H k))).set0 hlt (M k)).ext (fun j _ => mix_step M (fun _ => 0) k j)
        exact ⟨k + 1, by omega, by go_num, grown_setNew (grown_setNew (grownBy_trans hg g5) (by simp; omega) _) (by simp; omega) _, ((hR.new g5).set_other (by simp <;> omega) _).set_other (by simp <;> omega) _, hA5, hZ5⟩
      case measure => simp [intOf]; omega
    · have hk6 : k = 256 := by omega
      subst hk6
      have hA' : PRow .u32 wr (B + 1) 0 H := hA.ext (fun j hj => by simp [hj])
      have hZ' : PRow .u32 wr (B + 1 + 1) 0 M := hZ.ext (fun j hj => by simp [hj])
      clear hA hZ
      have ld1 := run_d32Ld wr.drew (B + 1) H hA'.drew
      have ld2 := run_d32Ld wr.drew (B + 1 + 1) M hZ'.drew
      have st1 := run_d32St wr.drew (B + 1) H _ hA'.drew
      have p4 := put_cells .u32 wr.drew (B + 1) 0 H (hA'.drew.there .u32 H)
      have hZ4 := hZ'.drew.far p4.g (by simp)
      have st2 := run_d32St _ (B + 1 + 1) M _ hZ4
      have ld3 := run_d32Ld _ (B + 1 + 1) M hZ4
      have p5 := put_cells .u32 _ (B + 1 + 1) 0 M (hZ4.there .u32 M)
      go_wp2_with fail
      go_region
      clear ld1 ld2 ld3 st1 st2
      generalize (wr.drew.setCells (B + 1) 0 (polyA .u32 H).toList).setCells (B + 1 + 1) 0 (polyA .u32 M).toList = w6 at *
      go_wp2
      refine bodyPost_ret (res22 rfl .u32 _ w6 (B + 1) (B + 1 + 1) H M rfl rfl (p4.r.far p5.g (by simp)) p5.r Try.oQ32 Try.sQ32) rfl ⟨rfl, grown_new (grown_new (grown_drew hg) p4.g (by omega)) p5.g (by omega)⟩
end

set_option maxHeartbeats 1000000 in
set_option maxRecDepth 20000 in
theorem Centred_any (L M : Nat → Int) (w : World) (hL : ∀ i, i < 256 → 0 ≤ L i ∧ L i < 4294967296) (hM : ∀ i, i < 256 → cenI (L i) 8380417 = M i) :
    Calls Try.prog 23 #[.agg (polyA .u32 L)] w fun e w' => e = .returned (.agg (polyA .i64 M)) ∧ w.grownBy w' none := by
  have HL : Hid (∀ i, i < 256 → 0 ≤ L i ∧ L i < 4294967296) := hL
  have HM : Hid (∀ i W, i < 256 → Calls Try.prog 28 #[.int .i64 (L i), .int .i64 8380417] W fun e w' => e = .returned (.int .i64 (M i)) ∧ w' = W) := fun i W hi => by
    have h := centred_any (L i) 8380417 W (hL i hi).1 (by have := (hL i hi).2; omega) (by omega) (by omega)
    rw [hM i hi] at h; exact h
  clear hL hM
  go_enter Try.func23, Try.ntmps23
  have n1 := new_alloc .u32 w L 42
  have n2 := new_alloc .i64 (w.alloc (.cells (polyA .u32 L) 42)) (fun _ => 0) 24
  rw [← Try.z24] at n2
  have n3 := new_alloc .i64 ((w.alloc (.cells (polyA .u32 L) 42)).alloc (.cells Try.zeroCells24 24)) (fun _ => 0) 24
  rw [← Try.z24] at n3
  go_wp2
  generalize ((w.alloc (.cells (polyA .u32 L) 42)).alloc (.cells Try.zeroCells24 24)).alloc (.cells Try.zeroCells24 24) = w3 at *
  generalize (w.alloc (.cells (polyA .u32 L) 42)).alloc (.cells Try.zeroCells24 24) = w2 at *
  have hS : PRow .u32 w3 w.heap.size 0 L := (n1.r.new n2.g).new n3.g
  have hA : PRow .i64 w3 (w.heap.size + 1) 0 (fun _ => 0) := by have := n2.r.new n3.g; rw [n1.s] at this; exact this
  have hR : PRow .i64 w3 (w.heap.size + 2) 0 (fun _ => 0) := by have := n3.r; rw [n2.s, n1.s] at this; exact this
  have hg : w.grownBy w3 none := grownBy_trans n1.g (grownBy_trans n2.g n3.g)
  clear n1 n2 n3
  obtain ⟨B, hB⟩ : ∃ B, B = w.heap.size := ⟨_, rfl⟩
  rw [← hB] at hA hR hS ⊢
  have hB' : w.heap.size ≤ B := by omega
  clear hB
  go_loopw [4, 5] (fun _ i wr => ∃ k : Nat, k ≤ 256 ∧ i = .int .i64 k ∧ w.grownBy wr none ∧ PRow .u32 wr B 0 L ∧ PRow .i64 wr (B + 1) 0 (fun _ => 0) ∧ PRow .i64 wr (B + 1 + 1) 0 (fun j => if j < k then M j else 0)) (fun _ i _ => 256 - (intOf i).toNat)
  case atStart => exact ⟨0, by omega, rfl, hg, hS, hA, hR.ext (fun j _ => by simp)⟩
  case round =>
    clear hA hR hS hg
    obtain ⟨k, hk, rfl, hg, hS, hA, hR⟩ := hrel
    by_cases hlt : k < 256
    · have b0 : (0 : Int) ≤ (k : Int) := by omega
      have b1 : (k : Int) < 256 := by omega
      have l0 := (HL.out k hlt).1
      have l1 := (HL.out k hlt).2
      have cS := (hS.at0 k hlt).1
      have cv : IntKind.i64.wrap (L k) = L k := by rw [IntKind.wrap_i64] <;> omega
      have cc := (hR.at0 k hlt).1
      have ff := (hR.at0 k hlt).2
      go_wp2_with (first | (go_at_call 28; refine (HM.out k _ hlt).mono ?_; rintro e w' ⟨rfl, hw⟩; rw [hw]; clear hw w'))
      go_roundw
      case rel =>
        refine ⟨k + 1, by omega, by go_num, grown_setNew hg (by simp; omega) _, hS.set_other (by simp <;> omega) _, hA.set_other (by simp <;> omega) _, (hR.set0 hlt _).ext (fun j _ => mix_step _ _ k j)⟩
      case measure => simp [intOf]; omega
    · have hk6 : k = 256 := by omega
      subst hk6
      have hR' : PRow .i64 wr (B + 1 + 1) 0 M := hR.ext (fun j hj => by simp [hj])
      clear hR
      go_wp2_with (first | (refine wpL_load rfl .i64 24 _ rfl (B + 1 + 1) 0 rfl M hR' ⟨_, Try.uP⟩ Try.sP ?_) | (refine wpL_store rfl .i64 24 _ _ rfl (B + 1) 0 rfl M rfl .i64 _ hA Try.sP ?_; intro w4 p4))
      refine bodyPost_ret (res1 rfl .i64 _ w4 (B + 1) M rfl p4.r ⟨_, Try.uP⟩ Try.sP) rfl ⟨rfl, grown_new hg p4.g (by omega)⟩
end Go.Proofs.Ytkijpphmiogbbab
