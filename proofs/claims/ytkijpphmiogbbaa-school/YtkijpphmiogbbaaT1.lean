import Derived.Test.YtkijpphmiogbbaaR1x
import Derived.Test.YtkijpphmiogbbaaN7
namespace Go.Proofs.Ytkijpphmiogbbaa
open Go.RowKit
attribute [local go_sem ↓] Go.wp_at_zero Go.wp_at_succ

theorem grown_setOneT (w : World) (p : Addr) (v : Value) : w.grownBy (w.setCell p v) (some p.block) :=
  ⟨rfl, rfl, rfl, by simp, fun k _ hr => Below.heap_setCell _ _ _ _ (fun e => hr (by simp [e]))⟩
set_option maxHeartbeats 4000000 in
set_option maxRecDepth 20000 in
theorem pair_any (b B C : Nat) (z : Nat → Int) (sc : Int) (F G : Nat → Int) (at' root : Nat) (w : World) (hR : Rg16 w b z sc) (hF : PRow .u16 w B 0 F) (hG : PRow .u16 w C 0 G) (hbB : b ≠ B) (hCB : C ≠ B)
    (hat : at' + 1 < 256) (hroot : root ≤ 3329) (a e c d : Nat) (ea : F at' = (a : Int)) (ee : F (at' + 1) = (e : Int)) (ec : G at' = (c : Int)) (ed : G (at' + 1) = (d : Int)) (la : a < 3329) (le : e < 3329) (lc : c < 3329) (ld : d < 3329) :
    Calls Try.prog 68 #[.pointer (some ⟨b, 0, none⟩), .pointer (some ⟨B, 0, none⟩), .pointer (some ⟨C, 0, none⟩), .int .i64 at', .int .u16 root] w fun r w' => r = .returned (.tuple #[]) ∧ w.grownBy w' (some B) ∧
      PRow .u16 w' B 0 (upd (upd F at' (((a * c + e * d % 3329 * root) % 3329 : Nat) : Int)) (at' + 1) (((a * d + e * c) % 3329 : Nat) : Int)) := by
  have c1 := hF.at0 at' (by omega)
  have c2 := hF.at0 (at' + 1) hat
  have c3 := (hG.at0 at' (by omega)).1
  have c4 := (hG.at0 (at' + 1) hat).1
  rw [ea] at c1
  rw [ee] at c2
  rw [ec] at c3
  rw [ed] at c4
  have d1 := c1.1
  have d1f := c1.2
  have d2 := c2.1
  have d2f := c2.2
  have hm := hR.mod
  have a0 : (0 : Int) ≤ (at' : Int) := by omega
  have a1 : (at' : Int) < 256 := by omega
  have a2 : (0 : Int) ≤ (at' : Int) + 1 := by omega
  have a3 : (at' : Int) + 1 < 256 := by omega
  have t1 : ((at' : Int) + 1).toNat = at' + 1 := by omega
  have hed : e * d ≤ 3329 * 3329 := Nat.mul_le_mul (by omega) (by omega)
  have hac : a * c ≤ 3329 * 3329 := Nat.mul_le_mul (by omega) (by omega)
  have had : a * d ≤ 3329 * 3329 := Nat.mul_le_mul (by omega) (by omega)
  have hec : e * c ≤ 3329 * 3329 := Nat.mul_le_mul (by omega) (by omega)
  obtain ⟨m, hmm⟩ : ∃ m, m = e * d % 3329 := ⟨_, rfl⟩
  have lm : m < 3329 := by rw [hmm]; exact Nat.mod_lt _ (by omega)
  have hmr : m * root ≤ 3329 * 3329 := Nat.mul_le_mul (by omega) (by omega)
  obtain ⟨v1, hv1⟩ : ∃ v, v = (a * c + m * root) % 3329 := ⟨_, rfl⟩
  obtain ⟨v2, hv2⟩ : ∃ v, v = (a * d + e * c) % 3329 := ⟨_, rfl⟩
  rw [← hmm, ← hv1, ← hv2]
  have H1 : Hid (∀ W, Calls Try.prog 44 #[.int .u64 ((e : Int) * (d : Int))] W fun r w' => r = .returned (.int .u16 m) ∧ w' = W) := fun W => by
    have h := mod16_any (e * d) W (by omega)
    rw [← hmm] at h
    simpa using h
  have H2 : Hid (∀ W, Calls Try.prog 44 #[.int .u64 ((a : Int) * (c : Int) + (m : Int) * (root : Int))] W fun r w' => r = .returned (.int .u16 v1) ∧ w' = W) := fun W => by
    have h := mod16_any (a * c + m * root) W (by omega)
    rw [← hv1] at h
    simpa using h
  have H3 : Hid (∀ W, Calls Try.prog 44 #[.int .u64 ((a : Int) * (d : Int) + (e : Int) * (c : Int))] W fun r w' => r = .returned (.int .u16 v2) ∧ w' = W) := fun W => by
    have h := mod16_any (a * d + e * c) W (by omega)
    rw [← hv2] at h
    simpa using h
  have k1 : ((e * d : Nat) : Int) = (e : Int) * (d : Int) := by simp
  have k2 : ((a * c : Nat) : Int) = (a : Int) * (c : Int) := by simp
  have k3 : ((m * root : Nat) : Int) = (m : Int) * (root : Int) := by simp
  have k4 : ((a * d : Nat) : Int) = (a : Int) * (d : Int) := by simp
  have k5 : ((e * c : Nat) : Int) = (e : Int) * (c : Int) := by simp
  have b1 : 0 ≤ (e : Int) * (d : Int) ∧ (e : Int) * (d : Int) ≤ 11082241 := by rw [← k1]; omega
  have b2 : 0 ≤ (a : Int) * (c : Int) ∧ (a : Int) * (c : Int) ≤ 11082241 := by rw [← k2]; omega
  have b3 : 0 ≤ (m : Int) * (root : Int) ∧ (m : Int) * (root : Int) ≤ 11082241 := by rw [← k3]; omega
  have b4 : 0 ≤ (a : Int) * (d : Int) ∧ (a : Int) * (d : Int) ≤ 11082241 := by rw [← k4]; omega
  have b5 : 0 ≤ (e : Int) * (c : Int) ∧ (e : Int) * (c : Int) ≤ 11082241 := by rw [← k5]; omega
  obtain ⟨b1a, b1b⟩ := b1
  obtain ⟨b2a, b2b⟩ := b2
  obtain ⟨b3a, b3b⟩ := b3
  obtain ⟨b4a, b4b⟩ := b4
  obtain ⟨b5a, b5b⟩ := b5
  have w_a : IntKind.u64.wrap (a : Int) = (a : Int) := by rw [IntKind.wrap_u64]; omega
  have w_e : IntKind.u64.wrap (e : Int) = (e : Int) := by rw [IntKind.wrap_u64]; omega
  have w_c : IntKind.u64.wrap (c : Int) = (c : Int) := by rw [IntKind.wrap_u64]; omega
  have w_d : IntKind.u64.wrap (d : Int) = (d : Int) := by rw [IntKind.wrap_u64]; omega
  have w_m : IntKind.u64.wrap (m : Int) = (m : Int) := by rw [IntKind.wrap_u64]; omega
  have w_root : IntKind.u64.wrap (root : Int) = (root : Int) := by rw [IntKind.wrap_u64]; omega
  have p_1 : IntKind.u64.wrap ((e : Int) * (d : Int)) = (e : Int) * (d : Int) := by rw [IntKind.wrap_u64]; omega
  have p_2 : IntKind.u64.wrap ((a : Int) * (c : Int)) = (a : Int) * (c : Int) := by rw [IntKind.wrap_u64]; omega
  have p_3 : IntKind.u64.wrap ((m : Int) * (root : Int)) = (m : Int) * (root : Int) := by rw [IntKind.wrap_u64]; omega
  have p_4 : IntKind.u64.wrap ((a : Int) * (d : Int)) = (a : Int) * (d : Int) := by rw [IntKind.wrap_u64]; omega
  have p_5 : IntKind.u64.wrap ((e : Int) * (c : Int)) = (e : Int) * (c : Int) := by rw [IntKind.wrap_u64]; omega
  have p_6 : IntKind.u64.wrap ((a : Int) * (c : Int) + (m : Int) * (root : Int)) = (a : Int) * (c : Int) + (m : Int) * (root : Int) := by rw [IntKind.wrap_u64]; omega
  have p_7 : IntKind.u64.wrap ((a : Int) * (d : Int) + (e : Int) * (c : Int)) = (a : Int) * (d : Int) + (e : Int) * (c : Int) := by rw [IntKind.wrap_u64]; omega
  have wat : IntKind.i64.wrap ((at' : Int) + 1) = (at' : Int) + 1 := by rw [IntKind.wrap_i64] <;> omega
  have hne : ¬ at' = at' + 1 := by omega
  have hne2 : ¬ at' + 1 = at' := by omega
  have hbB' : ¬ b = B := hbB
  have hBb' : ¬ B = b := fun h => hbB h.symm
  have hCB' : ¬ C = B := hCB
  have hBC' : ¬ B = C := fun h => hCB h.symm
  clear k1 k2 k3 k4 k5 hed hac had hec hmr hmm hv1 hv2 c1 c2 ea ee ec ed la le lc ld lm
  go_enter Try.func68, Try.ntmps68
  go_wp2
  go_region
  go_wp2
  go_region
  go_wp2
  go_region_with (first | (go_at_call 44; with_reducible refine (H1.out _).mono ?_; rintro _ w' ⟨rfl, hw⟩; rw [hw]; clear hw w') | (go_at_call 44; with_reducible refine (H2.out _).mono ?_; rintro _ w' ⟨rfl, hw⟩; rw [hw]; clear hw w'))
  all_goals (
    go_wp2
    clear H1 H2 c3 c4 d1 d1f w_m w_root w_c w_d p_1 p_2 p_3 p_6
    go_region_with (first | (go_at_call 44; with_reducible refine (H3.out _).mono ?_; rintro _ w' ⟨rfl, hw⟩; rw [hw]; clear hw w'))
    all_goals (
      go_end0
      exact ⟨rfl, grown_drew (grown_drew (grown_drew (grown_drew (grownBy_trans (grown_setOneT _ _ _) (grown_setOneT _ _ _))))), ((((hF.set0 (i := at') (by omega) (v1 : Int)).set0 (i := at' + 1) hat (v2 : Int)).drew).drew).drew.drew⟩))
end Go.Proofs.Ytkijpphmiogbbaa
