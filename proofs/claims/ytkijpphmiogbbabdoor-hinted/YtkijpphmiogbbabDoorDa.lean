import Derived.Test.YtkijpphmiogbbabDoorL1
namespace Go.Proofs.YtkijpphmiogbbabDoor
open Go.RowKit
attribute [local go_sem ↓] Go.wp_at_zero Go.wp_at_succ
attribute [local go_sem] Tryd.zv24 Tryd.zv51

/-- a mod± m. -/
def cenI (a m : Int) : Int := if m / 2 < a % m then a % m - m else a % m
def decH (g a : Int) : Int := if a - cenI a (2 * g) = 8380416 then 0 else (a - cenI a (2 * g)) / (2 * g)
def decL (g a : Int) : Int := if a - cenI a (2 * g) = 8380416 then cenI a (2 * g) - 1 else cenI a (2 * g)
theorem cen_bounds (a m : Int) (ha : 0 ≤ a) (hm : 0 < m) : cenI a m ≤ a ∧ -m < cenI a m ∧ cenI a m < m := by
  have h1 := Int.emod_nonneg a (show m ≠ 0 by omega)
  have h2 := Int.emod_lt_of_pos a hm
  have h3 : a % m ≤ a := by
    have := Int.emod_add_mul_ediv a m
    have : 0 ≤ m * (a / m) := Int.mul_nonneg (by omega) (Int.ediv_nonneg ha (by omega))
    omega
  unfold cenI
  split <;> omega
set_option maxHeartbeats 400000 in
theorem centred_any (a m : Int) (w : World) (ha : 0 ≤ a) (_ : a ≤ 4294967296) (hm : 0 < m) (hm' : m ≤ 4294967296) :
    Calls Tryd.prog 32 #[.int .i64 a, .int .i64 m] w fun e w' => e = .returned (.int .i64 (cenI a m)) ∧ w' = w := by
  have h1 := Int.emod_nonneg a (show m ≠ 0 by omega)
  have h2 := Int.emod_lt_of_pos a hm
  have h3 : a.tmod m = a % m := Int.tmod_eq_emod_of_nonneg ha
  have h4 : m.tdiv 2 = m / 2 := Int.tdiv_eq_ediv_of_nonneg (by omega)
  unfold cenI
  by_cases h : m / 2 < a % m
  · have hd : decide (m / 2 < a % m) = true := by simpa using h
    rw [if_pos h]
    clear h
    generalize a % m = r at *
    go_enter Tryd.func32, Tryd.ntmps32
    go_wp2
    go_ret
    exact ⟨rfl, rfl⟩
  · have hd : decide (m / 2 < a % m) = false := by simpa using h
    rw [if_neg h]
    clear h
    generalize a % m = r at *
    go_enter Tryd.func32, Tryd.ntmps32
    go_wp2
    go_ret
    exact ⟨rfl, rfl⟩
set_option maxHeartbeats 400000 in
theorem nearest_any (a m : Int) (w : World) (ha : 0 ≤ a) (ha' : a ≤ 4294967296) (hm : 0 < m) (hm' : m ≤ 4294967296) :
    Calls Tryd.prog 31 #[.int .i64 a, .int .i64 m] w fun e w' => e = .returned (.tuple #[.int .i64 ((a - cenI a m) / m), .int .i64 (cenI a m)]) ∧ w' = w := by
  have hb := cen_bounds a m ha hm
  have b1 := hb.1
  have b2 := hb.2.1
  have b3 := hb.2.2
  clear hb
  have HC : Hid (∀ W, Calls Tryd.prog 32 #[.int .i64 a, .int .i64 m] W fun e w' => e = .returned (.int .i64 (cenI a m)) ∧ w' = W) := fun W => centred_any a m W ha ha' hm hm'
  generalize cenI a m = c at *
  have h4 : (a - c).tdiv m = (a - c) / m := Int.tdiv_eq_ediv_of_nonneg (by omega)
  have h5 : 0 ≤ (a - c) / m := Int.ediv_nonneg (by omega) (by omega)
  have h6 : (a - c) / m ≤ a - c := Int.ediv_le_self _ (by omega)
  obtain ⟨d, hd⟩ : ∃ d, d = (a - c) / m := ⟨_, rfl⟩
  rw [← hd] at h4 h5 h6 ⊢
  have hd' := hd.symm
  clear hd
  go_enter Tryd.func31, Tryd.ntmps31
  go_wp2_with (first | (go_at_call 32; refine (HC.out _).mono ?_; rintro e w' ⟨rfl, hw⟩; rw [hw]; clear hw w'))
  go_ret2
  exact ⟨rfl, rfl⟩
set_option maxHeartbeats 400000 in
theorem part_any (g k o a : Int) (w : World) (ha : 0 ≤ a) (ha' : a ≤ 4294967296) (hg : 0 < g) (hg' : g ≤ 261888) :
    Calls Tryd.prog 26 #[.agg #[.int .i64 g, .int .i64 k, .int .i64 o], .int .i64 a] w fun e w' => e = .returned (.tuple #[.int .i64 (decH g a), .int .i64 (decL g a)]) ∧ w.grownBy w' none := by
  have HC : Hid (∀ W, Calls Tryd.prog 31 #[.int .i64 a, .int .i64 (2 * g)] W fun e w' => e = .returned (.tuple #[.int .i64 ((a - cenI a (2 * g)) / (2 * g)), .int .i64 (cenI a (2 * g))]) ∧ w' = W) := fun W => nearest_any a (2 * g) W ha ha' (by omega) (by omega)
  have hb := cen_bounds a (2 * g) ha (by omega)
  have b1 := hb.1
  have b2 := hb.2.1
  have b3 := hb.2.2
  clear hb
  unfold decH decL
  generalize (a - cenI a (2 * g)) / (2 * g) = h at *
  generalize cenI a (2 * g) = l at *
  by_cases hq : a - l = 8380416
  · rw [if_pos hq, if_pos hq]
    have hd : (a - l == 8380416) = true := by simpa using hq
    clear hq
    go_enter Tryd.func26, Tryd.ntmps26
    go_wp2_with (first | (go_at_call 31; refine (HC.out _).mono ?_; rintro e w' ⟨rfl, hw⟩; rw [hw]; clear hw w'))
    go_ret2
    exact ⟨rfl, World.grownBy_alloc _ _ _⟩
  · rw [if_neg hq, if_neg hq]
    have hd : (a - l == 8380416) = false := by simpa using hq
    clear hq
    go_enter Tryd.func26, Tryd.ntmps26
    go_wp2_with (first | (go_at_call 31; refine (HC.out _).mono ?_; rintro e w' ⟨rfl, hw⟩; rw [hw]; clear hw w'))
    go_ret2
    exact ⟨rfl, World.grownBy_alloc _ _ _⟩
end Go.Proofs.YtkijpphmiogbbabDoor
