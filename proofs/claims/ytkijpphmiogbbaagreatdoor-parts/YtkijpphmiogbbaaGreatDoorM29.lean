import Derived.Test.YtkijpphmiogbbaaGreatDoorM11
import Derived.Test.YtkijpphmiogbbaaGreatDoorM15
import Derived.Test.YtkijpphmiogbbaaGreatDoorM02
namespace Go.Proofs.YtkijpphmiogbbaaGreatDoor
open Go.RowKit
attribute [local go_sem ↓] Go.wp_at_zero Go.wp_at_succ

/-- a mod± m. -/
def cenI (a m : Int) : Int := if m / 2 < a % m then a % m - m else a % m
def decH (g a : Int) : Int := if a - cenI a (2 * g) = 8380416 then 0 else (a - cenI a (2 * g)) / (2 * g)
def decL (g a : Int) : Int := if a - cenI a (2 * g) = 8380416 then cenI a (2 * g) - 1 else cenI a (2 * g)
theorem cen_bounds (a m : Int) (ha : 0 ≤ a) (hm : 0 < m) : cenI a m ≤ a ∧ -m < cenI a m ∧ cenI a m < m := by
  have h1 := Int.emod_nonneg a (show m ≠ 0 by omega)
  have h2 := Int.emod_lt_of_pos a hm
  have h3 : a % m ≤ a := by
    have := Int.emod_add_mul_ediv a m
    have : 0 ≤ m * (a / m) := Int.mul_nonneg (by omega) (Int.ediv_nonneg ha (by omega))
    omega
  unfold cenI
  split <;> omega
set_option maxHeartbeats 400000 in
theorem centred_any (a m : Int) (w : World) (ha : 0 ≤ a) (_ : a ≤ 4294967296) (hm : 0 < m) (hm' : m ≤ 4294967296) :
    Calls Tryz.prog 295 #[.int .i64 a, .int .i64 m] w fun e w' => e = .returned (.int .i64 (cenI a m)) ∧ w' = w := by
  have h1 := Int.emod_nonneg a (show m ≠ 0 by omega)
  have h2 := Int.emod_lt_of_pos a hm
  have h3 : a.tmod m = a % m := Int.tmod_eq_emod_of_nonneg ha
  have h4 : m.tdiv 2 = m / 2 := Int.tdiv_eq_ediv_of_nonneg (by omega)
  unfold cenI
  by_cases h : m / 2 < a % m
  · have hd : decide (m / 2 < a % m) = true := by simpa using h
    rw [if_pos h]
    clear h
    generalize a % m = r at *
    go_enter Tryz.func295, Tryz.ntmps295
    go_wp2
    go_ret
    exact ⟨rfl, rfl⟩
  · have hd : decide (m / 2 < a % m) = false := by simpa using h
    rw [if_neg h]
    clear h
    generalize a % m = r at *
    go_enter Tryz.func295, Tryz.ntmps295
    go_wp2
    go_ret
    exact ⟨rfl, rfl⟩
set_option maxHeartbeats 400000 in
theorem nearest_any (a m : Int) (w : World) (ha : 0 ≤ a) (ha' : a ≤ 4294967296) (hm : 0 < m) (hm' : m ≤ 4294967296) :
    Calls Tryz.prog 210 #[.int .i64 a, .int .i64 m] w fun e w' => e = .returned (.tuple #[.int .i64 ((a - cenI a m) / m), .int .i64 (cenI a m)]) ∧ w' = w := by
  have hb := cen_bounds a m ha hm
  have b1 := hb.1
  have b2 := hb.2.1
  have b3 := hb.2.2
  clear hb
  have HC : Hid (∀ W, Calls Tryz.prog 295 #[.int .i64 a, .int .i64 m] W fun e w' => e = .returned (.int .i64 (cenI a m)) ∧ w' = W) := fun W => centred_any a m W ha ha' hm hm'
  generalize cenI a m = c at *
  have h4 : (a - c).tdiv m = (a - c) / m := Int.tdiv_eq_ediv_of_nonneg (by omega)
  have h5 : 0 ≤ (a - c) / m := Int.ediv_nonneg (by omega) (by omega)
  have h6 : (a - c) / m ≤ a - c := Int.ediv_le_self _ (by omega)
  obtain ⟨d, hd⟩ : ∃ d, d = (a - c) / m := ⟨_, rfl⟩
  rw [← hd] at h4 h5 h6 ⊢
  have hd' := hd.symm
  clear hd
  go_enter Tryz.func210, Tryz.ntmps210
  go_wp2_with (first | (go_at_call 295; refine (HC.out _).mono ?_; rintro e w' ⟨rfl, hw⟩; rw [hw]; clear hw w'))
  go_ret2
  exact ⟨rfl, rfl⟩
set_option maxHeartbeats 400000 in
theorem part_any (g k o a : Int) (w : World) (ha : 0 ≤ a) (ha' : a ≤ 4294967296) (hg : 0 < g) (hg' : g ≤ 261888) :
    Calls Tryz.prog 211 #[.agg #[.int .i64 g, .int .i64 k, .int .i64 o], .int .i64 a] w fun e w' => e = .returned (.tuple #[.int .i64 (decH g a), .int .i64 (decL g a)]) ∧ w.grownBy w' none := by
  have HC : Hid (∀ W, Calls Tryz.prog 210 #[.int .i64 a, .int .i64 (2 * g)] W fun e w' => e = .returned (.tuple #[.int .i64 ((a - cenI a (2 * g)) / (2 * g)), .int .i64 (cenI a (2 * g))]) ∧ w' = W) := fun W => nearest_any a (2 * g) W ha ha' (by omega) (by omega)
  have hb := cen_bounds a (2 * g) ha (by omega)
  have b1 := hb.1
  have b2 := hb.2.1
  have b3 := hb.2.2
  clear hb
  unfold decH decL
  generalize (a - cenI a (2 * g)) / (2 * g) = h at *
  generalize cenI a (2 * g) = l at *
  by_cases hq : a - l = 8380416
  · rw [if_pos hq, if_pos hq]
    have hd : (a - l == 8380416) = true := by simpa using hq
    clear hq
    go_enter Tryz.func211, Tryz.ntmps211
    go_wp2_with (first | (go_at_call 210; refine (HC.out _).mono ?_; rintro e w' ⟨rfl, hw⟩; rw [hw]; clear hw w'))
    go_ret2
    exact ⟨rfl, World.grownBy_alloc _ _ _⟩
  · rw [if_neg hq, if_neg hq]
    have hd : (a - l == 8380416) = false := by simpa using hq
    clear hq
    go_enter Tryz.func211, Tryz.ntmps211
    go_wp2_with (first | (go_at_call 210; refine (HC.out _).mono ?_; rintro e w' ⟨rfl, hw⟩; rw [hw]; clear hw w'))
    go_ret2
    exact ⟨rfl, World.grownBy_alloc _ _ _⟩
end Go.Proofs.YtkijpphmiogbbaaGreatDoor

namespace Go.Proofs.YtkijpphmiogbbaaGreatDoor
open Go.RowKit
attribute [local go_sem ↓] Go.wp_at_zero Go.wp_at_succ

/-- A load, and a store, of a whole polynomial, kept from being laid open by the walk. -/
def d32Ld (p : Value) : Sem Value := Instr.loadAt 166 p
def d32St (p v : Value) := Instr.storeAt 166 p v
def d64St (p v : Value) := Instr.storeAt 71 p v
theorem d32Ld_hide (p : Value) : Instr.loadAt 166 p = d32Ld p := rfl
theorem d32St_hide (p v : Value) : Instr.storeAt 166 p v = d32St p v := rfl
theorem d64St_hide (p v : Value) : Instr.storeAt 71 p v = d64St p v := rfl
theorem run_d32Ld (W : World) (b : Nat) (L : Nat → Int) (hr : PRow .u32 W b 0 L) : (d32Ld (.pointer (some ⟨b, 0, none⟩))).run Tryz.prog W = .ok (.agg (polyA .u32 L)) W := by
  unfold d32Ld
  simp only [Instr.loadAt, Instr.sureAddr, Sem.run_bind, Sem.run_pure, Result.andThen_ok, run_loadRow .u32 W 166 b 0 L hr Tryz.oQ32 Tryz.sQ32]
theorem run_d32St (W : World) (b : Nat) (L M : Nat → Int) (hr : PRow .u32 W b 0 M) : (d32St (.pointer (some ⟨b, 0, none⟩)) (.agg (polyA .u32 L))).run Tryz.prog W = .ok () (W.setCells b 0 (polyA .u32 L).toList) :=
  run_storeAt_mid W b 0 166 (polyA .u32 L) (hr.there .u32 L) (by rw [polyA_size]; exact Tryz.sQ32) (polyA_one .u32 L)
theorem run_d64St (W : World) (b : Nat) (L M : Nat → Int) (hr : PRow .i64 W b 0 M) : (d64St (.pointer (some ⟨b, 0, none⟩)) (.agg (polyA .i64 L))).run Tryz.prog W = .ok () (W.setCells b 0 (polyA .i64 L).toList) :=
  run_storeAt_mid W b 0 71 (polyA .i64 L) (hr.there .i64 L) (by rw [polyA_size]; exact Tryz.sP) (polyA_one .i64 L)
theorem res22 {P : Program} {fn : Func} {p s : Tmp} {ty : TypeId} (h : fn.results = #[.cell p ty, .cell s ty]) (k : IntKind) (tmps : Array Value) (w : World) (b c : Nat) (L M : Nat → Int)
    (hp : tmps.getD p undef = .pointer (some ⟨b, 0, none⟩)) (hs : tmps.getD s undef = .pointer (some ⟨c, 0, none⟩)) (hr : PRow k w b 0 L) (hr' : PRow k w c 0 M)
    (hu : ∃ e, P.underlying ty = some (.array 256 e)) (hi : (P.info? ty).map (·.size) = some 256) :
    (results fn tmps).run P w = .ok (.tuple #[.agg (polyA k L), .agg (polyA k M)]) w := by
  have hp' : tmps[p]?.getD undef = .pointer (some ⟨b, 0, none⟩) := by simpa using hp
  have hs' : tmps[s]?.getD undef = .pointer (some ⟨c, 0, none⟩) := by simpa using hs
  simp [results, h, hp', hs', asAddr, run_loadRow k w ty b 0 L hr hu hi, run_loadRow k w ty c 0 M hr' hu hi]
theorem res3 {P : Program} {fn : Func} {p s t : Tmp} {ty : TypeId} (h : fn.results = #[.cell p ty, .cell s ty, .tmp t]) (k : IntKind) (tmps : Array Value) (w : World) (b c : Nat) (L M : Nat → Int) (v : Value)
    (hp : tmps.getD p undef = .pointer (some ⟨b, 0, none⟩)) (hs : tmps.getD s undef = .pointer (some ⟨c, 0, none⟩)) (ht : tmps.getD t undef = v) (hr : PRow k w b 0 L) (hr' : PRow k w c 0 M)
    (hu : ∃ e, P.underlying ty = some (.array 256 e)) (hi : (P.info? ty).map (·.size) = some 256) :
    (results fn tmps).run P w = .ok (.tuple #[.agg (polyA k L), .agg (polyA k M), v]) w := by
  have hp' : tmps[p]?.getD undef = .pointer (some ⟨b, 0, none⟩) := by simpa using hp
  have hs' : tmps[s]?.getD undef = .pointer (some ⟨c, 0, none⟩) := by simpa using hs
  have ht' : tmps[t]?.getD undef = v := by simpa using ht
  simp [results, h, hp', hs', ht', asAddr, run_loadRow k w ty b 0 L hr hu hi, run_loadRow k w ty c 0 M hr' hu hi]

section
attribute [local go_sem ↓] d32Ld_hide d32St_hide
set_option maxHeartbeats 2000000 in
set_option maxRecDepth 20000 in
theorem parted_set (L H D M : Nat → Int) (g kk o : Int) (w : World) (hL : ∀ i, i < 256 → 0 ≤ L i ∧ L i < 4294967296) (hH : ∀ i, i < 256 → 0 ≤ H i ∧ H i < 4294967296) (hD : ∀ i, i < 256 → -8380417 < D i ∧ D i < 8380417) (hDM : ∀ i, i < 256 → (D i + 8380417) % 8380417 = M i)
    (hM : ∀ i W, i < 256 → w.grownBy W none → Calls Tryz.prog 211 #[.agg #[.int .i64 g, .int .i64 kk, .int .i64 o], .int .i64 (L i)] W fun e W' => e = .returned (.tuple #[.int .i64 (H i), .int .i64 (D i)]) ∧ W.grownBy W' none) :
    Calls Tryz.prog 208 #[.agg (polyA .u32 L), .func (.func 211) #[.agg #[.int .i64 g, .int .i64 kk, .int .i64 o]] #[]] w fun e w' => e = .returned (.tuple #[.agg (polyA .u32 H), .agg (polyA .u32 M)]) ∧ w.grownBy w' none := by
  have HM : Hid (∀ i W, i < 256 → w.grownBy W none → Calls Tryz.prog 211 #[.agg #[.int .i64 g, .int .i64 kk, .int .i64 o], .int .i64 (L i)] W fun e W' => e = .returned (.tuple #[.int .i64 (H i), .int .i64 (D i)]) ∧ W.grownBy W' none) := hM
  have HL : Hid (∀ i, i < 256 → 0 ≤ L i ∧ L i < 4294967296) := hL
  have HH : Hid (∀ i, i < 256 → 0 ≤ H i ∧ H i < 4294967296) := hH
  have HD : Hid (∀ i, i < 256 → -8380417 < D i ∧ D i < 8380417) := hD
  have HDM : Hid (∀ i, i < 256 → (D i + 8380417) % 8380417 = M i) := hDM
  clear hM hL hH hD hDM
  have n1 := new_alloc .u32 w L 166
  have n2 := new_alloc .u32 (w.alloc (.cells (polyA .u32 L) 166)) (fun _ => 0) 166
  rw [← Tryz.zQ32] at n2
  have n3 := new_alloc .u32 ((w.alloc (.cells (polyA .u32 L) 166)).alloc (.cells Tryz.zeroCells166 166)) (fun _ => 0) 166
  rw [← Tryz.zQ32] at n3
  go_enter Tryz.func208, Tryz.ntmps208
  go_wp2
  generalize ((w.alloc (.cells (polyA .u32 L) 166)).alloc (.cells Tryz.zeroCells166 166)).alloc (.cells Tryz.zeroCells166 166) = w3 at *
  generalize (w.alloc (.cells (polyA .u32 L) 166)).alloc (.cells Tryz.zeroCells166 166) = w2 at *
  have hR : PRow .u32 w3 w.heap.size 0 L := (n1.r.new n2.g).new n3.g
  have hA : PRow .u32 w3 (w.heap.size + 1) 0 (fun _ => 0) := by have := n2.r.new n3.g; rw [n1.s] at this; exact this
  have hZ : PRow .u32 w3 (w.heap.size + 2) 0 (fun _ => 0) := by have := n3.r; rw [n2.s, n1.s] at this; exact this
  have hg : w.grownBy w3 none := grownBy_trans n1.g (grownBy_trans n2.g n3.g)
  clear n1 n2 n3
  obtain ⟨B, hB⟩ : ∃ B, B = w.heap.size := ⟨_, rfl⟩
  rw [← hB] at hA hR hZ ⊢
  have hB' : w.heap.size ≤ B := by omega
  clear hB
  go_loopw [6, 7, 8, 9] (fun _ _ _ i wr => ∃ k : Nat, k ≤ 256 ∧ i = .int .i64 k ∧ w.grownBy wr none ∧ PRow .u32 wr B 0 L ∧ PRow .u32 wr (B + 1) 0 (fun j => if j < k then H j else 0) ∧ PRow .u32 wr (B + 1 + 1) 0 (fun j => if j < k then M j else 0)) (fun _ _ _ i _ => 256 - (intOf i).toNat)
  case atStart => exact ⟨0, by omega, rfl, hg, hR, hA.ext (fun j _ => by simp), hZ.ext (fun j _ => by simp)⟩
  case round =>
    clear hA hR hZ hg
    obtain ⟨k, hk, rfl, hg, hR, hA, hZ⟩ := hrel
    by_cases hlt : k < 256
    · have b0 : (0 : Int) ≤ (k : Int) := by omega
      have b1 : (k : Int) < 256 := by omega
      have l0 := (HL.out k hlt).1
      have l1 := (HL.out k hlt).2
      have h0 := (HH.out k hlt).1
      have h1 := (HH.out k hlt).2
      have d0 := (HD.out k hlt).1
      have d1 := (HD.out k hlt).2
      have dm := HDM.out k hlt
      have dt : (D k + 8380417).tmod 8380417 = M k := by rw [Int.tmod_eq_emod_of_nonneg (by omega)]; exact dm
      have cL := (hR.at0 k hlt).1
      have cv : IntKind.i64.wrap (L k) = L k := by rw [IntKind.wrap_i64] <;> omega
      have ch : IntKind.u32.wrap (H k) = H k := by rw [IntKind.wrap_u32]; omega
      have cm : IntKind.u32.wrap (M k) = M k := by rw [IntKind.wrap_u32]; omega
      go_wp2_with (first | (go_at_call 211; refine (HM.out k wr hlt hg).mono ?_; rintro e w5 ⟨rfl, g5⟩; have ca := ((hA.new g5).at0 k hlt).1; have fa := ((hA.new g5).at0 k hlt).2; have cz := ((hZ.new g5).at0 k hlt).1; have fz := ((hZ.new g5).at0 k hlt).2))
      go_roundw
      case rel =>
        have hA5 := (((hA.new g5).set0 hlt (H k)).ext (fun j _ => mix_step H (fun _ => 0) k j)).set_other (p := ⟨B + 1 + 1, k, none⟩) (by simp <;> omega) (.int .u32 (M k))
        have hZ5 := (((hZ.new g5).set_other (p := ⟨B + 1, k, none⟩) (by simp <;> omega) (.int .u32 (H k))).set0 hlt (M k)).ext (fun j _ => mix_step M (fun _ => 0) k j)
        exact ⟨k + 1, by omega, by go_num, grown_setNew (grown_setNew (grownBy_trans hg g5) (by simp; omega) _) (by simp; omega) _, ((hR.new g5).set_other (by simp <;> omega) _).set_other (by simp <;> omega) _, hA5, hZ5⟩
      case measure => simp [intOf]; omega
    · have hk6 : k = 256 := by omega
      subst hk6
      have hA' : PRow .u32 wr (B + 1) 0 H := hA.ext (fun j hj => by simp [hj])
      have hZ' : PRow .u32 wr (B + 1 + 1) 0 M := hZ.ext (fun j hj => by simp [hj])
      clear hA hZ
      have ld1 := run_d32Ld wr.drew (B + 1) H hA'.drew
      have ld2 := run_d32Ld wr.drew (B + 1 + 1) M hZ'.drew
      have st1 := run_d32St wr.drew (B + 1) H _ hA'.drew
      have p4 := put_cells .u32 wr.drew (B + 1) 0 H (hA'.drew.there .u32 H)
      have hZ4 := hZ'.drew.far p4.g (by simp)
      have st2 := run_d32St _ (B + 1 + 1) M _ hZ4
      have ld3 := run_d32Ld _ (B + 1 + 1) M hZ4
      have p5 := put_cells .u32 _ (B + 1 + 1) 0 M (hZ4.there .u32 M)
      go_wp2_with fail
      go_region
      clear ld1 ld2 ld3 st1 st2
      generalize (wr.drew.setCells (B + 1) 0 (polyA .u32 H).toList).setCells (B + 1 + 1) 0 (polyA .u32 M).toList = w6 at *
      go_wp2
      refine bodyPost_ret (res22 rfl .u32 _ w6 (B + 1) (B + 1 + 1) H M rfl rfl (p4.r.far p5.g (by simp)) p5.r Tryz.oQ32 Tryz.sQ32) rfl ⟨rfl, grown_new (grown_new (grown_drew hg) p4.g (by omega)) p5.g (by omega)⟩
end

set_option maxHeartbeats 1000000 in
set_option maxRecDepth 20000 in
theorem Centred_any (L M : Nat → Int) (w : World) (hL : ∀ i, i < 256 → 0 ≤ L i ∧ L i < 4294967296) (hM : ∀ i, i < 256 → cenI (L i) 8380417 = M i) :
    Calls Tryz.prog 207 #[.agg (polyA .u32 L)] w fun e w' => e = .returned (.agg (polyA .i64 M)) ∧ w.grownBy w' none := by
  have HL : Hid (∀ i, i < 256 → 0 ≤ L i ∧ L i < 4294967296) := hL
  have HM : Hid (∀ i W, i < 256 → Calls Tryz.prog 295 #[.int .i64 (L i), .int .i64 8380417] W fun e w' => e = .returned (.int .i64 (M i)) ∧ w' = W) := fun i W hi => by
    have h := centred_any (L i) 8380417 W (hL i hi).1 (by have := (hL i hi).2; omega) (by omega) (by omega)
    rw [hM i hi] at h; exact h
  clear hL hM
  go_enter Tryz.func207, Tryz.ntmps207
  have n1 := new_alloc .u32 w L 166
  have n2 := new_alloc .i64 (w.alloc (.cells (polyA .u32 L) 166)) (fun _ => 0) 71
  rw [← Tryz.z24] at n2
  have n3 := new_alloc .i64 ((w.alloc (.cells (polyA .u32 L) 166)).alloc (.cells Tryz.zeroCells71 71)) (fun _ => 0) 71
  rw [← Tryz.z24] at n3
  go_wp2
  generalize ((w.alloc (.cells (polyA .u32 L) 166)).alloc (.cells Tryz.zeroCells71 71)).alloc (.cells Tryz.zeroCells71 71) = w3 at *
  generalize (w.alloc (.cells (polyA .u32 L) 166)).alloc (.cells Tryz.zeroCells71 71) = w2 at *
  have hS : PRow .u32 w3 w.heap.size 0 L := (n1.r.new n2.g).new n3.g
  have hA : PRow .i64 w3 (w.heap.size + 1) 0 (fun _ => 0) := by have := n2.r.new n3.g; rw [n1.s] at this; exact this
  have hR : PRow .i64 w3 (w.heap.size + 2) 0 (fun _ => 0) := by have := n3.r; rw [n2.s, n1.s] at this; exact this
  have hg : w.grownBy w3 none := grownBy_trans n1.g (grownBy_trans n2.g n3.g)
  clear n1 n2 n3
  obtain ⟨B, hB⟩ : ∃ B, B = w.heap.size := ⟨_, rfl⟩
  rw [← hB] at hA hR hS ⊢
  have hB' : w.heap.size ≤ B := by omega
  clear hB
  go_loopw [4, 5] (fun _ i wr => ∃ k : Nat, k ≤ 256 ∧ i = .int .i64 k ∧ w.grownBy wr none ∧ PRow .u32 wr B 0 L ∧ PRow .i64 wr (B + 1) 0 (fun _ => 0) ∧ PRow .i64 wr (B + 1 + 1) 0 (fun j => if j < k then M j else 0)) (fun _ i _ => 256 - (intOf i).toNat)
  case atStart => exact ⟨0, by omega, rfl, hg, hS, hA, hR.ext (fun j _ => by simp)⟩
  case round =>
    clear hA hR hS hg
    obtain ⟨k, hk, rfl, hg, hS, hA, hR⟩ := hrel
    by_cases hlt : k < 256
    · have b0 : (0 : Int) ≤ (k : Int) := by omega
      have b1 : (k : Int) < 256 := by omega
      have l0 := (HL.out k hlt).1
      have l1 := (HL.out k hlt).2
      have cS := (hS.at0 k hlt).1
      have cv : IntKind.i64.wrap (L k) = L k := by rw [IntKind.wrap_i64] <;> omega
      have cc := (hR.at0 k hlt).1
      have ff := (hR.at0 k hlt).2
      go_wp2_with (first | (go_at_call 295; refine (HM.out k _ hlt).mono ?_; rintro e w' ⟨rfl, hw⟩; rw [hw]; clear hw w'))
      go_roundw
      case rel =>
        refine ⟨k + 1, by omega, by go_num, grown_setNew hg (by simp; omega) _, hS.set_other (by simp <;> omega) _, hA.set_other (by simp <;> omega) _, (hR.set0 hlt _).ext (fun j _ => mix_step _ _ k j)⟩
      case measure => simp [intOf]; omega
    · have hk6 : k = 256 := by omega
      subst hk6
      have hR' : PRow .i64 wr (B + 1 + 1) 0 M := hR.ext (fun j hj => by simp [hj])
      clear hR
      go_wp2_with (first | (refine wpL_load rfl .i64 71 _ rfl (B + 1 + 1) 0 rfl M hR' ⟨_, Tryz.uP⟩ Tryz.sP ?_) | (refine wpL_store rfl .i64 71 _ _ rfl (B + 1) 0 rfl M rfl .i64 _ hA Tryz.sP ?_; intro w4 p4))
      refine bodyPost_ret (res1 rfl .i64 _ w4 (B + 1) M rfl p4.r ⟨_, Tryz.uP⟩ Tryz.sP) rfl ⟨rfl, grown_new hg p4.g (by omega)⟩
end Go.Proofs.YtkijpphmiogbbaaGreatDoor

namespace Go.Proofs.YtkijpphmiogbbaaGreatDoor
open Go.RowKit
attribute [local go_sem ↓] Go.wp_at_zero Go.wp_at_succ

/-- A boxed polynomial, two polynomials of noughts. -/
structure Thr (w w' : World) (k : IntKind) (L : Nat → Int) : Prop where
  g : w.grownBy w' none
  s : w'.heap.size = w.heap.size + 3
  r : PRow k w' w.heap.size 0 L
  z : PRow k w' (w.heap.size + 1) 0 (fun _ => 0)
  z' : PRow k w' (w.heap.size + 1 + 1) 0 (fun _ => 0)
theorem thr_mk (w : World) (T : TypeId) (k : IntKind) (L : Nat → Int) : Thr w (((w.alloc (.cells (polyA k L) T)).alloc (.cells (polyA k (fun _ => 0)) T)).alloc (.cells (polyA k (fun _ => 0)) T)) k L := by
  have n1 := new_alloc k w L T
  have n2 := new_alloc k (w.alloc (.cells (polyA k L) T)) (fun _ => 0) T
  have n3 := new_alloc k ((w.alloc (.cells (polyA k L) T)).alloc (.cells (polyA k (fun _ => 0)) T)) (fun _ => 0) T
  refine ⟨grownBy_trans n1.g (grownBy_trans n2.g n3.g), by rw [n3.s, n2.s, n1.s], (n1.r.new n2.g).new n3.g, ?_, ?_⟩
  · have := n2.r.new n3.g; rw [n1.s] at this; exact this
  · have := n3.r; rw [n2.s, n1.s] at this; exact this
theorem mod_bounds {q x : Int} (hq : 0 < q) : 0 ≤ x % q ∧ x % q < q := ⟨Int.emod_nonneg _ (by omega), Int.emod_lt_of_pos _ hq⟩
theorem dec_bounds (g a : Int) (hg : g = 95232 ∨ g = 261888) (ha : 0 ≤ a) (ha' : a < 8380417) : 0 ≤ decH g a ∧ decH g a < 8380416 / (2 * g) ∧ -g ≤ decL g a ∧ decL g a ≤ g ∧ (decH g a * (2 * g) + decL g a - a = 0 ∨ decH g a * (2 * g) + decL g a - a = -8380417) := by
  unfold decH decL cenI
  rcases hg with rfl | rfl
  · simp only [show (2 : Int) * 95232 = 190464 from rfl, show (8380416 : Int) / 190464 = 44 from rfl, show (190464 : Int) / 2 = 95232 from rfl]
    by_cases h : 95232 < a % 190464
    · rw [if_pos h]
      split <;> omega
    · rw [if_neg h]
      split <;> omega
  · simp only [show (2 : Int) * 261888 = 523776 from rfl, show (8380416 : Int) / 523776 = 16 from rfl, show (523776 : Int) / 2 = 261888 from rfl]
    by_cases h : 261888 < a % 523776
    · rw [if_pos h]
      split <;> omega
    · rw [if_neg h]
      split <;> omega
theorem cen_back (d : Int) (h0 : -261888 ≤ d) (h1 : d ≤ 261888) : cenI (d % 8380417) 8380417 = d := by
  unfold cenI
  split <;> omega
theorem set_load {W : World} {b : Nat} {g k o : Int} (h0 : W.cell? ⟨b, 0, none⟩ = some (.int .i64 g)) (h1 : W.cell? ⟨b, 1, none⟩ = some (.int .i64 k)) (h2 : W.cell? ⟨b, 2, none⟩ = some (.int .i64 o)) : W.rangeAt b 0 [.int .i64 g, .int .i64 k, .int .i64 o] := by
  intro j v hv
  match j with
  | 0 => simp at hv; subst hv; exact h0
  | 1 => simp at hv; subst hv; exact h1
  | 2 => simp at hv; subst hv; exact h2
  | n + 3 => simp at hv

set_option maxHeartbeats 1000000 in
set_option maxRecDepth 20000 in
theorem pDecompose_any (L : Nat → Int) (g kk o : Int) (w : World) (hg : g = 95232 ∨ g = 261888) (hL : ∀ i, i < 256 → 0 ≤ L i ∧ L i < 8380417) :
    Calls Tryz.prog 130 #[.agg #[.int .i64 g, .int .i64 kk, .int .i64 o], .agg (polyA .u32 L)] w fun e w' => e = .returned (.tuple #[.agg (polyA .u32 (fun i => decH g (L i))), .agg (polyA .u32 (fun i => decL g (L i) % 8380417))]) ∧ w.grownBy w' none := by
  have HC : Hid (∀ W, Calls Tryz.prog 208 #[.agg (polyA .u32 L), .func (.func 211) #[.agg #[.int .i64 g, .int .i64 kk, .int .i64 o]] #[]] W fun e w' => e = .returned (.tuple #[.agg (polyA .u32 (fun i => decH g (L i))), .agg (polyA .u32 (fun i => decL g (L i) % 8380417))]) ∧ W.grownBy w' none) := fun W =>
    parted_set L (fun i => decH g (L i)) (fun i => decL g (L i)) _ g kk o W (fun i hi => ⟨(hL i hi).1, by have := (hL i hi).2; omega⟩) (fun i hi => by have := dec_bounds g (L i) hg (hL i hi).1 (hL i hi).2; refine ⟨this.1, ?_⟩; rcases hg with rfl | rfl <;> omega) (fun i hi => by have := dec_bounds g (L i) hg (hL i hi).1 (hL i hi).2; omega) (fun _ _ => Int.add_emod_right ..)
      (fun i W' hi _ => part_any g kk o (L i) W' (hL i hi).1 (by have := (hL i hi).2; omega) (by omega) (by omega))
  clear hL hg
  have n0 := World.grownBy_alloc w (.cells #[.int .i64 g, .int .i64 kk, .int .i64 o] 176) none
  have t1 := thr_mk (w.alloc (.cells #[.int .i64 g, .int .i64 kk, .int .i64 o] 176)) 166 .u32 L
  rw [← Tryz.zQ32] at t1
  have c0 : (w.alloc (.cells #[.int .i64 g, .int .i64 kk, .int .i64 o] 176)).cell? ⟨w.heap.size, 0, none⟩ = some (.int .i64 g) := by rw [World.cell?_alloc_new]; rfl
  have c1 : (w.alloc (.cells #[.int .i64 g, .int .i64 kk, .int .i64 o] 176)).cell? ⟨w.heap.size, 1, none⟩ = some (.int .i64 kk) := by rw [World.cell?_alloc_new]; rfl
  have c2 : (w.alloc (.cells #[.int .i64 g, .int .i64 kk, .int .i64 o] 176)).cell? ⟨w.heap.size, 2, none⟩ = some (.int .i64 o) := by rw [World.cell?_alloc_new]; rfl
  replace c0 := t1.g.cell c0 (by simp)
  replace c1 := t1.g.cell c1 (by simp)
  replace c2 := t1.g.cell c2 (by simp)
  have tr := t1.r
  have tz := t1.z
  have tz' := t1.z'
  have tg := grownBy_trans n0 t1.g
  rw [World.size_alloc] at tr tz tz'
  clear t1 n0
  go_enter Tryz.func130, Tryz.ntmps130
  go_wp2_with (first | (refine wpL_load rfl .u32 166 _ rfl (w.heap.size + 1) 0 rfl L tr Tryz.oQ32 Tryz.sQ32 ?_) | (go_at_call 208; refine (HC.out _).mono ?_; rintro e w5 ⟨rfl, g5⟩) | (refine wpL_store rfl .u32 166 _ _ rfl (w.heap.size + 1 + 1) 0 rfl _ rfl .u32 _ (tz.new g5) Tryz.sQ32 ?_; intro w6 p6) | (refine wpL_store rfl .u32 166 _ _ rfl (w.heap.size + 1 + 1 + 1) 0 rfl _ rfl .u32 _ ((tz'.new g5).far p6.g (by simp)) Tryz.sQ32 ?_; intro w7 p7))
  refine bodyPost_ret (res22 rfl .u32 _ w7 (w.heap.size + 1 + 1) (w.heap.size + 1 + 1 + 1) _ _ rfl rfl (p6.r.far p7.g (by simp)) p7.r Tryz.oQ32 Tryz.sQ32) rfl ⟨rfl, grown_new (grown_new (grownBy_trans tg g5) p6.g (by omega)) p7.g (by omega)⟩
end Go.Proofs.YtkijpphmiogbbaaGreatDoor

namespace Go.Proofs.YtkijpphmiogbbaaGreatDoor.Z
open Go.RowKit
attribute [local go_sem ↓] Go.wp_at_zero Go.wp_at_succ

theorem hidj {p : Prop} (h : p) : Hid p := h
set_option maxHeartbeats 400000 in
/-- The document's centred. -/
theorem rcen_any (a m : Int) (w : World) (ha : 0 ≤ a) (_ha' : a ≤ 4294967296) (hm : 0 < m) (hm' : m ≤ 4294967296) :
    Calls Tryz.prog 131 #[.int .i64 a, .int .i64 m] w fun e w' => e = .returned (.int .i64 (cenI a m)) ∧ w' = w := by
  have h1 := Int.emod_nonneg a (show m ≠ 0 by omega)
  have h2 := Int.emod_lt_of_pos a hm
  have h3 : a.tmod m = a % m := Int.tmod_eq_emod_of_nonneg ha
  unfold cenI
  by_cases h : m / 2 < a % m
  · have hd : decide (m < 2 * (a % m)) = true := by simp; omega
    rw [if_pos h]
    clear h
    generalize a % m = r at *
    have h4 : ¬ r < 0 := by omega
    go_enter Tryz.func131, Tryz.ntmps131
    go_wp2
    go_ret
    exact ⟨rfl, rfl⟩
  · have hd : decide (m < 2 * (a % m)) = false := by simp; omega
    rw [if_neg h]
    clear h
    generalize a % m = r at *
    have h4 : ¬ r < 0 := by omega
    go_enter Tryz.func131, Tryz.ntmps131
    go_wp2
    go_ret
    exact ⟨rfl, rfl⟩
/-- What the document's set of signatures is made of. -/
structure Sg where
  k : Int
  l : Int
  e : Int
  c : Int
  g : Int
  t : Int
  a : Int
  o : Int
abbrev sgV (s : Sg) : Value := .agg #[.int .i64 s.k, .int .i64 s.l, .int .i64 s.e, .int .i64 s.c, .int .i64 s.g, .int .i64 s.t, .int .i64 s.a, .int .i64 s.o]
abbrev sgBox (w : World) (s : Sg) : World := w.alloc (.cells #[.int .i64 s.k, .int .i64 s.l, .int .i64 s.e, .int .i64 s.c, .int .i64 s.g, .int .i64 s.t, .int .i64 s.a, .int .i64 s.o] 102)
structure SgAt (W : World) (b : Nat) (s : Sg) : Prop where
  k : W.cell? ⟨b, 0, none⟩ = some (.int .i64 s.k)
  l : W.cell? ⟨b, 1, none⟩ = some (.int .i64 s.l)
  e : W.cell? ⟨b, 2, none⟩ = some (.int .i64 s.e)
  c : W.cell? ⟨b, 3, none⟩ = some (.int .i64 s.c)
  g : W.cell? ⟨b, 4, none⟩ = some (.int .i64 s.g)
  t : W.cell? ⟨b, 5, none⟩ = some (.int .i64 s.t)
  a : W.cell? ⟨b, 6, none⟩ = some (.int .i64 s.a)
  o : W.cell? ⟨b, 7, none⟩ = some (.int .i64 s.o)
theorem sgAt_new (w : World) (s : Sg) : SgAt (sgBox w s) w.heap.size s := by constructor <;> rw [World.cell?_alloc_new] <;> rfl
theorem SgAt.far {w w' : World} {b : Nat} {s : Sg} {r : Option Nat} (h : SgAt w b s) (hg : w.grownBy w' r) (hr : some b ≠ r) : SgAt w' b s :=
  ⟨hg.cell h.k hr, hg.cell h.l hr, hg.cell h.e hr, hg.cell h.c hr, hg.cell h.g hr, hg.cell h.t hr, hg.cell h.a hr, hg.cell h.o hr⟩
theorem SgAt.new {w w' : World} {b : Nat} {s : Sg} (h : SgAt w b s) (hg : w.grownBy w' none) : SgAt w' b s := h.far hg (by simp)
theorem SgAt.set_other {W : World} {b : Nat} {s : Sg} (h : SgAt W b s) {p : Addr} (hp : p.block ≠ b) (v : Value) : SgAt (W.setCell p v) b s := by
  constructor <;> rw [cell_other _ _ _ _ (Or.inl (Ne.symm hp))]
  · exact h.k
  · exact h.l
  · exact h.e
  · exact h.c
  · exact h.g
  · exact h.t
  · exact h.a
  · exact h.o
theorem SgAt.range {W : World} {b : Nat} {s : Sg} (h : SgAt W b s) : W.rangeAt b 0 [.int .i64 s.k, .int .i64 s.l, .int .i64 s.e, .int .i64 s.c, .int .i64 s.g, .int .i64 s.t, .int .i64 s.a, .int .i64 s.o] := by
  intro j v hv
  match j, hv with
  | 0, hv => rw [h.k]; exact hv
  | 1, hv => rw [h.l]; exact hv
  | 2, hv => rw [h.e]; exact hv
  | 3, hv => rw [h.c]; exact hv
  | 4, hv => rw [h.g]; exact hv
  | 5, hv => rw [h.t]; exact hv
  | 6, hv => rw [h.a]; exact hv
  | 7, hv => rw [h.o]; exact hv
  | j + 8, hv => simp at hv
set_option maxHeartbeats 400000 in
theorem rone_any (s : Sg) (a : Int) (w : World) (ha : 0 ≤ a) (ha' : a ≤ 4294967296) (hg : 0 < s.g) (hg' : s.g ≤ 261888) :
    Calls Tryz.prog 132 #[sgV s, .int .i64 a] w fun e w' => e = .returned (.tuple #[.int .i64 (decH s.g a), .int .i64 (decL s.g a)]) ∧ w.grownBy w' none := by
  have HC : Hid (∀ W, Calls Tryz.prog 131 #[.int .i64 a, .int .i64 (2 * s.g)] W fun e w' => e = .returned (.int .i64 (cenI a (2 * s.g))) ∧ w' = W) := fun W => rcen_any a (2 * s.g) W ha ha' (by omega) (by omega)
  have hb := cen_bounds a (2 * s.g) ha (by omega)
  have b1 := hb.1
  have b2 := hb.2.1
  have b3 := hb.2.2
  clear hb
  have h9 : 0 ≤ a - cenI a (2 * s.g) := by omega
  have h4 : (a - cenI a (2 * s.g)).tdiv (2 * s.g) = (a - cenI a (2 * s.g)) / (2 * s.g) := Int.tdiv_eq_ediv_of_nonneg h9
  have h5 : 0 ≤ (a - cenI a (2 * s.g)) / (2 * s.g) := Int.ediv_nonneg h9 (by omega)
  have h6 : (a - cenI a (2 * s.g)) / (2 * s.g) ≤ a - cenI a (2 * s.g) := Int.ediv_le_self _ h9
  have hS := sgAt_new w s
  have qg := hS.g
  have gw : w.grownBy (sgBox w s) none := World.grownBy_alloc w _ none
  unfold decH decL
  obtain ⟨l, hl⟩ : ∃ l, l = cenI a (2 * s.g) := ⟨_, rfl⟩
  rw [← hl] at HC b1 b2 b3 h9 h4 h5 h6 ⊢
  clear hl
  obtain ⟨d, hd⟩ : ∃ d, d = (a - l) / (2 * s.g) := ⟨_, rfl⟩
  rw [← hd] at h4 h5 h6 ⊢
  have hd' := hd.symm
  clear hd
  by_cases hq : a - l = 8380416
  · rw [if_pos hq, if_pos hq]
    have hd : (a - l == 8380416) = true := by simpa using hq
    clear hq
    go_enter Tryz.func132, Tryz.ntmps132
    go_wp2_with (first | (go_at_call 131; refine (HC.out _).mono ?_; rintro e w' ⟨rfl, hw⟩; rw [hw]; clear hw w'))
    go_ret2
    exact ⟨rfl, gw⟩
  · rw [if_neg hq, if_neg hq]
    have hd : (a - l == 8380416) = false := by simpa using hq
    clear hq
    go_enter Tryz.func132, Tryz.ntmps132
    go_wp2_with (first | (go_at_call 131; refine (HC.out _).mono ?_; rintro e w' ⟨rfl, hw⟩; rw [hw]; clear hw w'))
    go_ret2
    exact ⟨rfl, gw⟩
/-- A set that there is. -/
def IsSg (n : Int) (s : Sg) : Prop := (n = 44 ∧ s = ⟨4, 4, 2, 131072, 95232, 39, 128, 80⟩) ∨ (n = 65 ∧ s = ⟨6, 5, 4, 524288, 261888, 49, 192, 55⟩) ∨ (n = 87 ∧ s = ⟨8, 7, 2, 524288, 261888, 60, 256, 75⟩)
theorem IsSg.is {n : Int} {s : Sg} (h : IsSg n s) : (s.g = 95232 ∨ s.g = 261888) ∧ 4 ≤ s.k ∧ s.k ≤ 8 ∧ 55 ≤ s.o ∧ s.o ≤ 80 := by
  rcases h with ⟨_, rfl⟩ | ⟨_, rfl⟩ | ⟨_, rfl⟩ <;> simp
end Go.Proofs.YtkijpphmiogbbaaGreatDoor.Z

namespace Go.Proofs.YtkijpphmiogbbaaGreatDoor
open Go.RowKit
attribute [local go_sem ↓] Go.wp_at_zero Go.wp_at_succ

section
attribute [local go_sem ↓] d32Ld_hide d64St_hide
set_option maxHeartbeats 2000000 in
set_option maxRecDepth 20000 in
theorem lparted_dec (L H M D : Nat → Int) (g kk o : Int) (w : World) (hL : ∀ i, i < 256 → 0 ≤ L i ∧ L i < 8380417) (hH : ∀ i, i < 256 → 0 ≤ H i ∧ H i < 4294967296) (hM0 : ∀ i, i < 256 → 0 ≤ M i ∧ M i < 4294967296) (hD : ∀ i, i < 256 → cenI (M i) 8380417 = D i)
    (hM : ∀ W, Calls Tryz.prog 130 #[.agg #[.int .i64 g, .int .i64 kk, .int .i64 o], .agg (polyA .u32 L)] W fun e W' => e = .returned (.tuple #[.agg (polyA .u32 H), .agg (polyA .u32 M)]) ∧ W.grownBy W' none) :
    Calls Tryz.prog 127 #[.func (.func 130) #[.agg #[.int .i64 g, .int .i64 kk, .int .i64 o]] #[], .agg (polyA .i64 L)] w fun e w' => e = .returned (.tuple #[.agg (polyA .i64 H), .agg (polyA .i64 D), .nilIface]) ∧ w.grownBy w' none := by
  have HM : Hid (∀ W, Calls Tryz.prog 130 #[.agg #[.int .i64 g, .int .i64 kk, .int .i64 o], .agg (polyA .u32 L)] W fun e W' => e = .returned (.tuple #[.agg (polyA .u32 H), .agg (polyA .u32 M)]) ∧ W.grownBy W' none) := hM
  have HN : Hid (∀ W, Calls Tryz.prog 122 #[.agg (polyA .i64 L), .int .i64 8380417] W fun e w' => e = .returned (.tuple #[.agg (polyA .u32 L), .nilIface]) ∧ W.grownBy w' none) := fun W => narrow32_ok L 8380417 W hL (by omega)
  have HW : Hid (∀ W, Calls Tryz.prog 125 #[.agg (polyA .u32 H)] W fun e w' => e = .returned (.agg (polyA .i64 H)) ∧ W.grownBy w' none) := fun W => wide32_any H W hH
  have HC : Hid (∀ W, Calls Tryz.prog 207 #[.agg (polyA .u32 M)] W fun e w' => e = .returned (.agg (polyA .i64 D)) ∧ W.grownBy w' none) := fun W => Centred_any M D W hM0 hD
  clear hL hH hM0 hD hM
  have t1 := thr_mk w 71 .i64 L
  rw [← Tryz.z24] at t1
  go_enter Tryz.func127, Tryz.ntmps127
  go_wp2_with (first | (refine wpL_load rfl .i64 71 _ rfl w.heap.size 0 rfl L t1.r ⟨_, Tryz.uP⟩ Tryz.sP ?_))
  refine (HN.out _).mono ?_
  rintro e w2 ⟨rfl, g2⟩
  have hg2 := grownBy_trans t1.g g2
  have z2 := t1.z.new g2
  have z2' := t1.z'.new g2
  clear t1 g2
  have n3 := new_alloc .u32 w2 (fun _ => 0) 166
  rw [← Tryz.zQ32] at n3
  go_wp2_with (first | (refine wpL_store rfl .u32 166 _ _ rfl w2.heap.size 0 rfl _ rfl .u32 _ n3.r Tryz.sQ32 ?_; intro w3 p3) | (refine wpL_load rfl .u32 166 _ rfl w2.heap.size 0 rfl L p3.r Tryz.oQ32 Tryz.sQ32 ?_))
  refine (HM.out _).mono ?_
  rintro e w4 ⟨rfl, g4⟩
  have l2 := hg2.size
  have zl := z2.lt
  have zl' := z2'.lt
  have z4 := ((z2.new n3.g).far p3.g (by simp; omega)).new g4
  have z4' := ((z2'.new n3.g).far p3.g (by simp; omega)).new g4
  have hg4 := grownBy_trans (grown_new (grownBy_trans hg2 n3.g) p3.g (by omega)) g4
  clear n3 p3 g4 z2 z2' hg2 zl zl'
  have n5 := new_alloc .u32 w4 (fun _ => 0) 166
  rw [← Tryz.zQ32] at n5
  have n6 := new_alloc .u32 (w4.alloc (.cells Tryz.zeroCells166 166)) (fun _ => 0) 166
  rw [← Tryz.zQ32] at n6
  have r5 := n5.r.new n6.g
  have r6 := n6.r
  rw [n5.s] at r6
  go_wp2_with (first | (refine wpL_store rfl .u32 166 _ _ rfl w4.heap.size 0 rfl _ rfl .u32 _ r5 Tryz.sQ32 ?_; intro w7 p7) | (refine wpL_store rfl .u32 166 _ _ rfl (w4.heap.size + 1) 0 rfl _ rfl .u32 _ (r6.far p7.g (by simp)) Tryz.sQ32 ?_; intro w8 p8))
  have l4 := hg4.size
  have zl := z4.lt
  have zl' := z4'.lt
  have z8 := (((((z4.new n5.g).new n6.g).far p7.g (by simp; omega)).far p8.g (by simp; omega))).drew
  have z8' := (((((z4'.new n5.g).new n6.g).far p7.g (by simp; omega)).far p8.g (by simp; omega))).drew
  have hg8 := grown_drew (grown_new (grown_new (grownBy_trans hg4 (grownBy_trans n5.g n6.g)) p7.g (by omega)) p8.g (by omega))
  have a8 := (p7.r.far p8.g (by simp)).drew
  have b8 := p8.r.drew
  clear n5 n6 p7 p8 r5 r6 z4 z4' hg4
  have ld1 := run_d32Ld w8.drew w4.heap.size H a8
  have ld2 := run_d32Ld w8.drew (w4.heap.size + 1) M b8
  obtain ⟨X, hX⟩ : ∃ X, X = w8.drew := ⟨_, rfl⟩
  rw [← hX] at z8 z8' a8 b8 hg8
  go_region_with (first | (go_at_call 125; refine (HW.out _).mono ?_; rintro e w9 ⟨rfl, g9⟩; rw [← hX] at g9; have ld3 := run_d32Ld w9 (w4.heap.size + 1) M (b8.new g9)) | (go_at_call 207; refine (HC.out _).mono ?_; rintro e wa ⟨rfl, ga⟩; have st1 := run_d64St wa (w.heap.size + 1) H _ ((z8.new g9).new ga); have pb := put_cells .i64 wa (w.heap.size + 1) 0 H (((z8.new g9).new ga).there .i64 H); have st2 := run_d64St _ (w.heap.size + 1 + 1) D _ (((z8'.new g9).new ga).far pb.g (by simp))))
  all_goals (
    have zb := ((z8'.new g9).new ga).far pb.g (by simp)
    have pc := put_cells .i64 _ (w.heap.size + 1 + 1) 0 D (zb.there .i64 D)
    clear st1 st2 ld3
    generalize (wa.setCells (w.heap.size + 1) 0 (polyA .i64 H).toList).setCells (w.heap.size + 1 + 1) 0 (polyA .i64 D).toList = wd at *
    go_wp2
    refine bodyPost_ret (res3 rfl .i64 _ wd (w.heap.size + 1) (w.heap.size + 1 + 1) H D _ rfl rfl rfl (pb.r.far pc.g (by simp)) pc.r ⟨_, Tryz.uP⟩ Tryz.sP) rfl ⟨rfl, grown_new (grown_new (grownBy_trans (grownBy_trans hg8 g9) ga) pb.g (by omega)) pc.g (by omega)⟩)
end
end Go.Proofs.YtkijpphmiogbbaaGreatDoor
