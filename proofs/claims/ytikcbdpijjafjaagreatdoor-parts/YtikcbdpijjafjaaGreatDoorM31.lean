import Derived.Test.YtikcbdpijjafjaaGreatDoorM12
import Derived.Test.YtikcbdpijjafjaaGreatDoorM17
namespace Go.Proofs.YtikcbdpijjafjaaGreatDoor
open Go.RowKit
attribute [local go_sem ↓] Go.wp_at_zero Go.wp_at_succ

/-- a mod± m. -/
def cenI (a m : Int) : Int := if m / 2 < a % m then a % m - m else a % m
def decH (g a : Int) : Int := if a - cenI a (2 * g) = 8380416 then 0 else (a - cenI a (2 * g)) / (2 * g)
def decL (g a : Int) : Int := if a - cenI a (2 * g) = 8380416 then cenI a (2 * g) - 1 else cenI a (2 * g)
theorem cen_bounds (a m : Int) (ha : 0 ≤ a) (hm : 0 < m) : cenI a m ≤ a ∧ -m < cenI a m ∧ cenI a m < m := by
  have h1 := Int.emod_nonneg a (show m ≠ 0 by omega)
  have h2 := Int.emod_lt_of_pos a hm
  have h3 : a % m ≤ a := by
    have := Int.emod_add_mul_ediv a m
    have : 0 ≤ m * (a / m) := Int.mul_nonneg (by omega) (Int.ediv_nonneg ha (by omega))
    omega
  unfold cenI
  split <;> omega
set_option maxHeartbeats 400000 in
theorem centred_any (a m : Int) (w : World) (ha : 0 ≤ a) (_ : a ≤ 4294967296) (hm : 0 < m) (hm' : m ≤ 4294967296) :
    Calls Tryz.prog 277 #[.int .i64 a, .int .i64 m] w fun e w' => e = .returned (.int .i64 (cenI a m)) ∧ w' = w := by
  have h1 := Int.emod_nonneg a (show m ≠ 0 by omega)
  have h2 := Int.emod_lt_of_pos a hm
  have h3 : a.tmod m = a % m := Int.tmod_eq_emod_of_nonneg ha
  have h4 : m.tdiv 2 = m / 2 := Int.tdiv_eq_ediv_of_nonneg (by omega)
  unfold cenI
  by_cases h : m / 2 < a % m
  · have hd : decide (m / 2 < a % m) = true := by simpa using h
    rw [if_pos h]
    clear h
    generalize a % m = r at *
    go_enter Tryz.func277, Tryz.ntmps277
    go_wp2
    go_ret
    exact ⟨rfl, rfl⟩
  · have hd : decide (m / 2 < a % m) = false := by simpa using h
    rw [if_neg h]
    clear h
    generalize a % m = r at *
    go_enter Tryz.func277, Tryz.ntmps277
    go_wp2
    go_ret
    exact ⟨rfl, rfl⟩
set_option maxHeartbeats 400000 in
theorem nearest_any (a m : Int) (w : World) (ha : 0 ≤ a) (ha' : a ≤ 4294967296) (hm : 0 < m) (hm' : m ≤ 4294967296) :
    Calls Tryz.prog 202 #[.int .i64 a, .int .i64 m] w fun e w' => e = .returned (.tuple #[.int .i64 ((a - cenI a m) / m), .int .i64 (cenI a m)]) ∧ w' = w := by
  have hb := cen_bounds a m ha hm
  have b1 := hb.1
  have b2 := hb.2.1
  have b3 := hb.2.2
  clear hb
  have HC : Hid (∀ W, Calls Tryz.prog 277 #[.int .i64 a, .int .i64 m] W fun e w' => e = .returned (.int .i64 (cenI a m)) ∧ w' = W) := fun W => centred_any a m W ha ha' hm hm'
  generalize cenI a m = c at *
  have h4 : (a - c).tdiv m = (a - c) / m := Int.tdiv_eq_ediv_of_nonneg (by omega)
  have h5 : 0 ≤ (a - c) / m := Int.ediv_nonneg (by omega) (by omega)
  have h6 : (a - c) / m ≤ a - c := Int.ediv_le_self _ (by omega)
  obtain ⟨d, hd⟩ : ∃ d, d = (a - c) / m := ⟨_, rfl⟩
  rw [← hd] at h4 h5 h6 ⊢
  have hd' := hd.symm
  clear hd
  go_enter Tryz.func202, Tryz.ntmps202
  go_wp2_with (first | (go_at_call 277; refine (HC.out _).mono ?_; rintro e w' ⟨rfl, hw⟩; rw [hw]; clear hw w'))
  go_ret2
  exact ⟨rfl, rfl⟩
set_option maxHeartbeats 400000 in
theorem part_any (g k o a : Int) (w : World) (ha : 0 ≤ a) (ha' : a ≤ 4294967296) (hg : 0 < g) (hg' : g ≤ 261888) :
    Calls Tryz.prog 203 #[.agg #[.int .i64 g, .int .i64 k, .int .i64 o], .int .i64 a] w fun e w' => e = .returned (.tuple #[.int .i64 (decH g a), .int .i64 (decL g a)]) ∧ w.grownBy w' none := by
  have HC : Hid (∀ W, Calls Tryz.prog 202 #[.int .i64 a, .int .i64 (2 * g)] W fun e w' => e = .returned (.tuple #[.int .i64 ((a - cenI a (2 * g)) / (2 * g)), .int .i64 (cenI a (2 * g))]) ∧ w' = W) := fun W => nearest_any a (2 * g) W ha ha' (by omega) (by omega)
  have hb := cen_bounds a (2 * g) ha (by omega)
  have b1 := hb.1
  have b2 := hb.2.1
  have b3 := hb.2.2
  clear hb
  unfold decH decL
  generalize (a - cenI a (2 * g)) / (2 * g) = h at *
  generalize cenI a (2 * g) = l at *
  by_cases hq : a - l = 8380416
  · rw [if_pos hq, if_pos hq]
    have hd : (a - l == 8380416) = true := by simpa using hq
    clear hq
    go_enter Tryz.func203, Tryz.ntmps203
    go_wp2_with (first | (go_at_call 202; refine (HC.out _).mono ?_; rintro e w' ⟨rfl, hw⟩; rw [hw]; clear hw w'))
    go_ret2
    exact ⟨rfl, World.grownBy_alloc _ _ _⟩
  · rw [if_neg hq, if_neg hq]
    have hd : (a - l == 8380416) = false := by simpa using hq
    clear hq
    go_enter Tryz.func203, Tryz.ntmps203
    go_wp2_with (first | (go_at_call 202; refine (HC.out _).mono ?_; rintro e w' ⟨rfl, hw⟩; rw [hw]; clear hw w'))
    go_ret2
    exact ⟨rfl, World.grownBy_alloc _ _ _⟩
end Go.Proofs.YtikcbdpijjafjaaGreatDoor

namespace Go.Proofs.YtikcbdpijjafjaaGreatDoor
open Go.RowKit
attribute [local go_sem ↓] Go.wp_at_zero Go.wp_at_succ

/-- A load, and a store, of a whole polynomial, kept from being laid open by the walk. -/
def d32Ld (p : Value) : Sem Value := Instr.loadAt 166 p
def d32St (p v : Value) := Instr.storeAt 166 p v
def d64St (p v : Value) := Instr.storeAt 71 p v
theorem d32Ld_hide (p : Value) : Instr.loadAt 166 p = d32Ld p := rfl
theorem d32St_hide (p v : Value) : Instr.storeAt 166 p v = d32St p v := rfl
theorem d64St_hide (p v : Value) : Instr.storeAt 71 p v = d64St p v := rfl
theorem run_d32Ld (W : World) (b : Nat) (L : Nat → Int) (hr : PRow .u32 W b 0 L) : (d32Ld (.pointer (some ⟨b, 0, none⟩))).run Tryz.prog W = .ok (.agg (polyA .u32 L)) W := by
  unfold d32Ld
  simp only [Instr.loadAt, Instr.sureAddr, Sem.run_bind, Sem.run_pure, Result.andThen_ok, run_loadRow .u32 W 166 b 0 L hr Tryz.oQ32 Tryz.sQ32]
theorem run_d32St (W : World) (b : Nat) (L M : Nat → Int) (hr : PRow .u32 W b 0 M) : (d32St (.pointer (some ⟨b, 0, none⟩)) (.agg (polyA .u32 L))).run Tryz.prog W = .ok () (W.setCells b 0 (polyA .u32 L).toList) :=
  run_storeAt_mid W b 0 166 (polyA .u32 L) (hr.there .u32 L) (by rw [polyA_size]; exact Tryz.sQ32) (polyA_one .u32 L)
theorem run_d64St (W : World) (b : Nat) (L M : Nat → Int) (hr : PRow .i64 W b 0 M) : (d64St (.pointer (some ⟨b, 0, none⟩)) (.agg (polyA .i64 L))).run Tryz.prog W = .ok () (W.setCells b 0 (polyA .i64 L).toList) :=
  run_storeAt_mid W b 0 71 (polyA .i64 L) (hr.there .i64 L) (by rw [polyA_size]; exact Tryz.sP) (polyA_one .i64 L)
theorem res22 {P : Program} {fn : Func} {p s : Tmp} {ty : TypeId} (h : fn.results = #[.cell p ty, .cell s ty]) (k : IntKind) (tmps : Array Value) (w : World) (b c : Nat) (L M : Nat → Int)
    (hp : tmps.getD p undef = .pointer (some ⟨b, 0, none⟩)) (hs : tmps.getD s undef = .pointer (some ⟨c, 0, none⟩)) (hr : PRow k w b 0 L) (hr' : PRow k w c 0 M)
    (hu : ∃ e, P.underlying ty = some (.array 256 e)) (hi : (P.info? ty).map (·.size) = some 256) :
    (results fn tmps).run P w = .ok (.tuple #[.agg (polyA k L), .agg (polyA k M)]) w := by
  have hp' : tmps[p]?.getD undef = .pointer (some ⟨b, 0, none⟩) := by simpa using hp
  have hs' : tmps[s]?.getD undef = .pointer (some ⟨c, 0, none⟩) := by simpa using hs
  simp [results, h, hp', hs', asAddr, run_loadRow k w ty b 0 L hr hu hi, run_loadRow k w ty c 0 M hr' hu hi]
theorem res3 {P : Program} {fn : Func} {p s t : Tmp} {ty : TypeId} (h : fn.results = #[.cell p ty, .cell s ty, .tmp t]) (k : IntKind) (tmps : Array Value) (w : World) (b c : Nat) (L M : Nat → Int) (v : Value)
    (hp : tmps.getD p undef = .pointer (some ⟨b, 0, none⟩)) (hs : tmps.getD s undef = .pointer (some ⟨c, 0, none⟩)) (ht : tmps.getD t undef = v) (hr : PRow k w b 0 L) (hr' : PRow k w c 0 M)
    (hu : ∃ e, P.underlying ty = some (.array 256 e)) (hi : (P.info? ty).map (·.size) = some 256) :
    (results fn tmps).run P w = .ok (.tuple #[.agg (polyA k L), .agg (polyA k M), v]) w := by
  have hp' : tmps[p]?.getD undef = .pointer (some ⟨b, 0, none⟩) := by simpa using hp
  have hs' : tmps[s]?.getD undef = .pointer (some ⟨c, 0, none⟩) := by simpa using hs
  have ht' : tmps[t]?.getD undef = v := by simpa using ht
  simp [results, h, hp', hs', ht', asAddr, run_loadRow k w ty b 0 L hr hu hi, run_loadRow k w ty c 0 M hr' hu hi]

section
attribute [local go_sem ↓] d32Ld_hide d32St_hide
set_option maxHeartbeats 2000000 in
set_option maxRecDepth 20000 in
theorem parted_set (L H D M : Nat → Int) (g kk o : Int) (w : World) (hL : ∀ i, i < 256 → 0 ≤ L i ∧ L i < 4294967296) (hH : ∀ i, i < 256 → 0 ≤ H i ∧ H i < 4294967296) (hD : ∀ i, i < 256 → -8380417 < D i ∧ D i < 8380417) (hDM : ∀ i, i < 256 → (D i + 8380417) % 8380417 = M i)
    (hM : ∀ i W, i < 256 → w.grownBy W none → Calls Tryz.prog 203 #[.agg #[.int .i64 g, .int .i64 kk, .int .i64 o], .int .i64 (L i)] W fun e W' => e = .returned (.tuple #[.int .i64 (H i), .int .i64 (D i)]) ∧ W.grownBy W' none) :
    Calls Tryz.prog 200 #[.agg (polyA .u32 L), .func (.func 203) #[.agg #[.int .i64 g, .int .i64 kk, .int .i64 o]] #[]] w fun e w' => e = .returned (.tuple #[.agg (polyA .u32 H), .agg (polyA .u32 M)]) ∧ w.grownBy w' none := by
  have HM : Hid (∀ i W, i < 256 → w.grownBy W none → Calls Tryz.prog 203 #[.agg #[.int .i64 g, .int .i64 kk, .int .i64 o], .int .i64 (L i)] W fun e W' => e = .returned (.tuple #[.int .i64 (H i), .int .i64 (D i)]) ∧ W.grownBy W' none) := hM
  have HL : Hid (∀ i, i < 256 → 0 ≤ L i ∧ L i < 4294967296) := hL
  have HH : Hid (∀ i, i < 256 → 0 ≤ H i ∧ H i < 4294967296) := hH
  have HD : Hid (∀ i, i < 256 → -8380417 < D i ∧ D i < 8380417) := hD
  have HDM : Hid (∀ i, i < 256 → (D i + 8380417) % 8380417 = M i) := hDM
  clear hM hL hH hD hDM
  have n1 := new_alloc .u32 w L 166
  have n2 := new_alloc .u32 (w.alloc (.cells (polyA .u32 L) 166)) (fun _ => 0) 166
  rw [← Tryz.zQ32] at n2
  have n3 := new_alloc .u32 ((w.alloc (.cells (polyA .u32 L) 166)).alloc (.cells Tryz.zeroCells166 166)) (fun _ => 0) 166
  rw [← Tryz.zQ32] at n3
  go_enter Tryz.func200, Tryz.ntmps200
  go_wp2
  generalize ((w.alloc (.cells (polyA .u32 L) 166)).alloc (.cells Tryz.zeroCells166 166)).alloc (.cells Tryz.zeroCells166 166) = w3 at *
  generalize (w.alloc (.cells (polyA .u32 L) 166)).alloc (.cells Tryz.zeroCells166 166) = w2 at *
  have hR : PRow .u32 w3 w.heap.size 0 L := (n1.r.new n2.g).new n3.g
  have hA : PRow .u32 w3 (w.heap.size + 1) 0 (fun _ => 0) := by have := n2.r.new n3.g; rw [n1.s] at this; exact this
  have hZ : PRow .u32 w3 (w.heap.size + 2) 0 (fun _ => 0) := by have := n3.r; rw [n2.s, n1.s] at this; exact this
  have hg : w.grownBy w3 none := grownBy_trans n1.g (grownBy_trans n2.g n3.g)
  clear n1 n2 n3
  obtain ⟨B, hB⟩ : ∃ B, B = w.heap.size := ⟨_, rfl⟩
  rw [← hB] at hA hR hZ ⊢
  have hB' : w.heap.size ≤ B := by omega
  clear hB
  go_loopw [6, 7, 8, 9] (fun _ _ _ i wr => ∃ k : Nat, k ≤ 256 ∧ i = .int .i64 k ∧ w.grownBy wr none ∧ PRow .u32 wr B 0 L ∧ PRow .u32 wr (B + 1) 0 (fun j => if j < k then H j else 0) ∧ PRow .u32 wr (B + 1 + 1) 0 (fun j => if j < k then M j else 0)) (fun _ _ _ i _ => 256 - (intOf i).toNat)
  case atStart => exact ⟨0, by omega, rfl, hg, hR, hA.ext (fun j _ => by simp), hZ.ext (fun j _ => by simp)⟩
  case round =>
    clear hA hR hZ hg
    obtain ⟨k, hk, rfl, hg, hR, hA, hZ⟩ := hrel
    by_cases hlt : k < 256
    · have b0 : (0 : Int) ≤ (k : Int) := by omega
      have b1 : (k : Int) < 256 := by omega
      have l0 := (HL.out k hlt).1
      have l1 := (HL.out k hlt).2
      have h0 := (HH.out k hlt).1
      have h1 := (HH.out k hlt).2
      have d0 := (HD.out k hlt).1
      have d1 := (HD.out k hlt).2
      have dm := HDM.out k hlt
      have dt : (D k + 8380417).tmod 8380417 = M k := by rw [Int.tmod_eq_emod_of_nonneg (by omega)]; exact dm
      have cL := (hR.at0 k hlt).1
      have cv : IntKind.i64.wrap (L k) = L k := by rw [IntKind.wrap_i64] <;> omega
      have ch : IntKind.u32.wrap (H k) = H k := by rw [IntKind.wrap_u32]; omega
      have cm : IntKind.u32.wrap (M k) = M k := by rw [IntKind.wrap_u32]; omega
      go_wp2_with (first | (go_at_call 203; refine (HM.out k wr hlt hg).mono ?_; rintro e w5 ⟨rfl, g5⟩; have ca := ((hA.new g5).at0 k hlt).1; have fa := ((hA.new g5).at0 k hlt).2; have cz := ((hZ.new g5).at0 k hlt).1; have fz := ((hZ.new g5).at0 k hlt).2))
      go_roundw
      case rel =>
        have hA5 := (((hA.new g5).set0 hlt (H k)).ext (fun j _ => mix_step H (fun _ => 0) k j)).set_other (p := ⟨B + 1 + 1, k, none⟩) (by simp <;> omega) (.int .u32 (M k))
        have hZ5 := (((hZ.new g5).set_other (p := ⟨B + 1, k, none⟩) (by simp <;> omega) (.int .u32 (H k))).set0 hlt (M k)).ext (fun j _ => mix_step M (fun _ => 0) k j)
        exact ⟨k + 1, by omega, by go_num, grown_setNew (grown_setNew (grownBy_trans hg g5) (by simp; omega) _) (by simp; omega) _, ((hR.new g5).set_other (by simp <;> omega) _).set_other (by simp <;> omega) _, hA5, hZ5⟩
      case measure => simp [intOf]; omega
    · have hk6 : k = 256 := by omega
      subst hk6
      have hA' : PRow .u32 wr (B + 1) 0 H := hA.ext (fun j hj => by simp [hj])
      have hZ' : PRow .u32 wr (B + 1 + 1) 0 M := hZ.ext (fun j hj => by simp [hj])
      clear hA hZ
      have ld1 := run_d32Ld wr.drew (B + 1) H hA'.drew
      have ld2 := run_d32Ld wr.drew (B + 1 + 1) M hZ'.drew
      have st1 := run_d32St wr.drew (B + 1) H _ hA'.drew
      have p4 := put_cells .u32 wr.drew (B + 1) 0 H (hA'.drew.there .u32 H)
      have hZ4 := hZ'.drew.far p4.g (by simp)
      have st2 := run_d32St _ (B + 1 + 1) M _ hZ4
      have ld3 := run_d32Ld _ (B + 1 + 1) M hZ4
      have p5 := put_cells .u32 _ (B + 1 + 1) 0 M (hZ4.there .u32 M)
      go_wp2_with fail
      go_region
      clear ld1 ld2 ld3 st1 st2
      generalize (wr.drew.setCells (B + 1) 0 (polyA .u32 H).toList).setCells (B + 1 + 1) 0 (polyA .u32 M).toList = w6 at *
      go_wp2
      refine bodyPost_ret (res22 rfl .u32 _ w6 (B + 1) (B + 1 + 1) H M rfl rfl (p4.r.far p5.g (by simp)) p5.r Tryz.oQ32 Tryz.sQ32) rfl ⟨rfl, grown_new (grown_new (grown_drew hg) p4.g (by omega)) p5.g (by omega)⟩
end

set_option maxHeartbeats 1000000 in
set_option maxRecDepth 20000 in
theorem Centred_any (L M : Nat → Int) (w : World) (hL : ∀ i, i < 256 → 0 ≤ L i ∧ L i < 4294967296) (hM : ∀ i, i < 256 → cenI (L i) 8380417 = M i) :
    Calls Tryz.prog 199 #[.agg (polyA .u32 L)] w fun e w' => e = .returned (.agg (polyA .i64 M)) ∧ w.grownBy w' none := by
  have HL : Hid (∀ i, i < 256 → 0 ≤ L i ∧ L i < 4294967296) := hL
  have HM : Hid (∀ i W, i < 256 → Calls Tryz.prog 277 #[.int .i64 (L i), .int .i64 8380417] W fun e w' => e = .returned (.int .i64 (M i)) ∧ w' = W) := fun i W hi => by
    have h := centred_any (L i) 8380417 W (hL i hi).1 (by have := (hL i hi).2; omega) (by omega) (by omega)
    rw [hM i hi] at h; exact h
  clear hL hM
  go_enter Tryz.func199, Tryz.ntmps199
  have n1 := new_alloc .u32 w L 166
  have n2 := new_alloc .i64 (w.alloc (.cells (polyA .u32 L) 166)) (fun _ => 0) 71
  rw [← Tryz.z24] at n2
  have n3 := new_alloc .i64 ((w.alloc (.cells (polyA .u32 L) 166)).alloc (.cells Tryz.zeroCells71 71)) (fun _ => 0) 71
  rw [← Tryz.z24] at n3
  go_wp2
  generalize ((w.alloc (.cells (polyA .u32 L) 166)).alloc (.cells Tryz.zeroCells71 71)).alloc (.cells Tryz.zeroCells71 71) = w3 at *
  generalize (w.alloc (.cells (polyA .u32 L) 166)).alloc (.cells Tryz.zeroCells71 71) = w2 at *
  have hS : PRow .u32 w3 w.heap.size 0 L := (n1.r.new n2.g).new n3.g
  have hA : PRow .i64 w3 (w.heap.size + 1) 0 (fun _ => 0) := by have := n2.r.new n3.g; rw [n1.s] at this; exact this
  have hR : PRow .i64 w3 (w.heap.size + 2) 0 (fun _ => 0) := by have := n3.r; rw [n2.s, n1.s] at this; exact this
  have hg : w.grownBy w3 none := grownBy_trans n1.g (grownBy_trans n2.g n3.g)
  clear n1 n2 n3
  obtain ⟨B, hB⟩ : ∃ B, B = w.heap.size := ⟨_, rfl⟩
  rw [← hB] at hA hR hS ⊢
  have hB' : w.heap.size ≤ B := by omega
  clear hB
  go_loopw [4, 5] (fun _ i wr => ∃ k : Nat, k ≤ 256 ∧ i = .int .i64 k ∧ w.grownBy wr none ∧ PRow .u32 wr B 0 L ∧ PRow .i64 wr (B + 1) 0 (fun _ => 0) ∧ PRow .i64 wr (B + 1 + 1) 0 (fun j => if j < k then M j else 0)) (fun _ i _ => 256 - (intOf i).toNat)
  case atStart => exact ⟨0, by omega, rfl, hg, hS, hA, hR.ext (fun j _ => by simp)⟩
  case round =>
    clear hA hR hS hg
    obtain ⟨k, hk, rfl, hg, hS, hA, hR⟩ := hrel
    by_cases hlt : k < 256
    · have b0 : (0 : Int) ≤ (k : Int) := by omega
      have b1 : (k : Int) < 256 := by omega
      have l0 := (HL.out k hlt).1
      have l1 := (HL.out k hlt).2
      have cS := (hS.at0 k hlt).1
      have cv : IntKind.i64.wrap (L k) = L k := by rw [IntKind.wrap_i64] <;> omega
      have cc := (hR.at0 k hlt).1
      have ff := (hR.at0 k hlt).2
      go_wp2_with (first | (go_at_call 277; refine (HM.out k _ hlt).mono ?_; rintro e w' ⟨rfl, hw⟩; rw [hw]; clear hw w'))
      go_roundw
      case rel =>
        refine ⟨k + 1, by omega, by go_num, grown_setNew hg (by simp; omega) _, hS.set_other (by simp <;> omega) _, hA.set_other (by simp <;> omega) _, (hR.set0 hlt _).ext (fun j _ => mix_step _ _ k j)⟩
      case measure => simp [intOf]; omega
    · have hk6 : k = 256 := by omega
      subst hk6
      have hR' : PRow .i64 wr (B + 1 + 1) 0 M := hR.ext (fun j hj => by simp [hj])
      clear hR
      go_wp2_with (first | (refine wpL_load rfl .i64 71 _ rfl (B + 1 + 1) 0 rfl M hR' ⟨_, Tryz.uP⟩ Tryz.sP ?_) | (refine wpL_store rfl .i64 71 _ _ rfl (B + 1) 0 rfl M rfl .i64 _ hA Tryz.sP ?_; intro w4 p4))
      refine bodyPost_ret (res1 rfl .i64 _ w4 (B + 1) M rfl p4.r ⟨_, Tryz.uP⟩ Tryz.sP) rfl ⟨rfl, grown_new hg p4.g (by omega)⟩
end Go.Proofs.YtikcbdpijjafjaaGreatDoor
