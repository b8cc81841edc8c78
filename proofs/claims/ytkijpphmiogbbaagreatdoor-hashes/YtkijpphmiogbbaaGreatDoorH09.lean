import Derived.Test.YtkijpphmiogbbaaGreatDoorH07
import Derived.Test.YtkijpphmiogbbaaGreatDoorH08
namespace Go.Proofs.YtkijpphmiogbbaaGreatDoor.Z
open Go.RowKit
attribute [local go_sem ↓] Go.wp_at_zero Go.wp_at_succ
variable {X : Side} {B c : Nat} {vT vP : Value} {vS : SV} {ts : List ByteArray} {nP : Nat} {ps : List Value} {Φ : Nat → Prop} {w : World}

set_option maxHeartbeats 2000000 in
set_option maxRecDepth 20000 in
theorem owner_none (hX : X.Local) (hc : c ≤ 40000) (o : OpV) (ho : OpOK o) (hk : o.kind < 1 ∨ 7 < o.kind) (h : SW X B c w) :
    Calls Tryz.prog 15 #[.pointer (some ⟨B, 0, none⟩), opVal o] w fun e w' => e = .returned (.bool false) ∧ w.grownBy w' none := by
  go_enter Tryz.func15, Tryz.ntmps15
  go_wp2_with fail
  obtain ⟨vT, vP, vS, ts, nP, ps, Φ, h⟩ := h
  have hO := opAt_new w o
  have h1 : SWd X B c vT vP vS ts nP ps Φ (opBox w o) := h.keep hX (World.grownBy_alloc w _ none)
  refine (text_any hc _ ho.x h1).mono ?_
  rintro e w1 ⟨t, rfl, ht, hg1⟩
  have h2 := h1.keep hX hg1
  have hO1 := hO.far hg1 (by simp)
  have blt : w.heap.size < w1.heap.size := Nat.lt_of_lt_of_le (by simp) hg1.size
  have hgw : w.grownBy w1 none := grownBy_trans (World.grownBy_alloc w _ none) hg1
  generalize w.heap.size = b at *
  have qk := hO1.kind
  clear h h1 hO hg1
  have hkk := ho.kind
  have k1 : (o.kind == 1) = false := by simp; omega
  have k2 : (o.kind == 2) = false := by simp; omega
  have k3 : (o.kind == 3) = false := by simp; omega
  have k4 : (o.kind == 4) = false := by simp; omega
  have k5 : (o.kind == 5) = false := by simp; omega
  have k6 : (o.kind == 6) = false := by simp; omega
  have k7 : (o.kind == 7) = false := by simp; omega
  clear hk hkk
  go_wp2
  go_ret
  exact ⟨rfl, hgw⟩
set_option maxHeartbeats 2000000 in
set_option maxRecDepth 20000 in
theorem owner_1 (hX : X.Local) (hc : c ≤ 40000) (o : OpV) (ho : OpOK o) (hk : Hid (o.kind = 1)) (h : SW X B c w) :
    Calls Tryz.prog 15 #[.pointer (some ⟨B, 0, none⟩), opVal o] w fun e w' => e = .returned (.bool true) ∧ SW X B (c + 1) w' := by
  go_enter Tryz.func15, Tryz.ntmps15
  go_wp2_with fail
  obtain ⟨vT, vP, vS, ts, nP, ps, Φ, h⟩ := h
  have hO := opAt_new w o
  have h1 : SWd X B c vT vP vS ts nP ps Φ (opBox w o) := h.keep hX (World.grownBy_alloc w _ none)
  refine (text_any hc _ ho.x h1).mono ?_
  rintro e w1 ⟨t, rfl, ht, hg1⟩
  have h2 := h1.keep hX hg1
  have hO1 := hO.far hg1 (by simp)
  have blt : w.heap.size < w1.heap.size := Nat.lt_of_lt_of_le (by simp) hg1.size
  generalize w.heap.size = b at *
  have qk := hO1.kind
  clear h h1 hO hg1
  rw [hk.out] at qk
  have qs := hO1.s
  clear hk
  go_wp2_with fail
  refine (add_any hX hc _ h2 (by have := ho.s; omega)).mono ?_
  rintro e w2 ⟨rfl, h3⟩
  clear qk qs
  go_wp2
  go_ret
  exact ⟨rfl, h3⟩
set_option maxHeartbeats 2000000 in
set_option maxRecDepth 20000 in
theorem owner_2 (hX : X.Local) (hc : c ≤ 40000) (o : OpV) (ho : OpOK o) (hk : Hid (o.kind = 2)) (h : SW X B c w) :
    Calls Tryz.prog 15 #[.pointer (some ⟨B, 0, none⟩), opVal o] w fun e w' => e = .returned (.bool true) ∧ SW X B (c + 1) w' := by
  go_enter Tryz.func15, Tryz.ntmps15
  go_wp2_with fail
  obtain ⟨vT, vP, vS, ts, nP, ps, Φ, h⟩ := h
  have hO := opAt_new w o
  have h1 : SWd X B c vT vP vS ts nP ps Φ (opBox w o) := h.keep hX (World.grownBy_alloc w _ none)
  refine (text_any hc _ ho.x h1).mono ?_
  rintro e w1 ⟨t, rfl, ht, hg1⟩
  have h2 := h1.keep hX hg1
  have hO1 := hO.far hg1 (by simp)
  have blt : w.heap.size < w1.heap.size := Nat.lt_of_lt_of_le (by simp) hg1.size
  generalize w.heap.size = b at *
  have qk := hO1.kind
  clear h h1 hO hg1
  rw [hk.out] at qk
  have qy := hO1.y
  clear hk
  go_wp2_with fail
  refine (text_any hc _ ho.y h2).mono ?_
  rintro e w2 ⟨t2, rfl, ht2, hg2⟩
  have h3 := h2.keep hX hg2
  clear qk qy h2
  go_wp2_with fail
  refine (add_any hX hc _ h3 (by simp; omega)).mono ?_
  rintro e w3 ⟨rfl, h4⟩
  go_wp2
  go_ret
  exact ⟨rfl, h4⟩
set_option maxHeartbeats 2000000 in
set_option maxRecDepth 20000 in
theorem owner_3 (hX : X.Local) (hc : c ≤ 40000) (o : OpV) (ho : OpOK o) (hk : Hid (o.kind = 3)) (h : SW X B c w) :
    Calls Tryz.prog 15 #[.pointer (some ⟨B, 0, none⟩), opVal o] w fun e w' => e = .returned (.bool true) ∧ SW X B (c + 1) w' := by
  go_enter Tryz.func15, Tryz.ntmps15
  go_wp2_with fail
  obtain ⟨vT, vP, vS, ts, nP, ps, Φ, h⟩ := h
  have hO := opAt_new w o
  have h1 : SWd X B c vT vP vS ts nP ps Φ (opBox w o) := h.keep hX (World.grownBy_alloc w _ none)
  refine (text_any hc _ ho.x h1).mono ?_
  rintro e w1 ⟨t, rfl, ht, hg1⟩
  have h2 := h1.keep hX hg1
  have hO1 := hO.far hg1 (by simp)
  have blt : w.heap.size < w1.heap.size := Nat.lt_of_lt_of_le (by simp) hg1.size
  generalize w.heap.size = b at *
  have qk := hO1.kind
  clear h h1 hO hg1
  rw [hk.out] at qk
  have qa := hO1.a
  have qb := hO1.b
  have t0 : (t.size : Int) ≤ 20000 := by omega
  clear hk
  go_wp2_with fail
  refine (pick_any _ _ _ ho.a (by omega) (by omega)).mono ?_
  rintro e w' ⟨k, hk, rfl, hw⟩
  rw [hw]
  clear hw w'
  have k0 : (0 : Int) ≤ (k : Int) := Int.natCast_nonneg k
  have k1 : (k : Int) ≤ (t.size : Int) := by omega
  go_wp2_with fail
  refine (pick_any _ _ _ ho.b (by omega) (by omega)).mono ?_
  rintro e w' ⟨m, hm, rfl, hw⟩
  rw [hw]
  clear hw w'
  have m0 : (0 : Int) ≤ (m : Int) := Int.natCast_nonneg m
  have m1 : (k : Int) + (m : Int) ≤ (t.size : Int) := by omega
  have m2 : (k : Int) ≤ (k : Int) + (m : Int) := by omega
  have ww : IntKind.i64.wrap ((k : Int) + (m : Int)) = (k : Int) + (m : Int) := by rw [IntKind.wrap_i64] <;> omega
  clear qk qa qb
  go_wp2_with fail
  refine (add_any hX hc _ h2 (by simp; omega)).mono ?_
  rintro e w3 ⟨rfl, h4⟩
  clear ww
  go_wp2
  go_ret
  exact ⟨rfl, h4⟩
set_option maxHeartbeats 2000000 in
set_option maxRecDepth 20000 in
theorem owner_7 (hX : X.Local) (hc : c ≤ 40000) (o : OpV) (ho : OpOK o) (hk : Hid (o.kind = 7)) (h : SW X B c w) :
    Calls Tryz.prog 15 #[.pointer (some ⟨B, 0, none⟩), opVal o] w fun e w' => e = .returned (.bool true) ∧ SW X B (c + 1) w' := by
  go_enter Tryz.func15, Tryz.ntmps15
  go_wp2_with fail
  obtain ⟨vT, vP, vS, ts, nP, ps, Φ, h⟩ := h
  have hO := opAt_new w o
  have h1 : SWd X B c vT vP vS ts nP ps Φ (opBox w o) := h.keep hX (World.grownBy_alloc w _ none)
  refine (text_any hc _ ho.x h1).mono ?_
  rintro e w1 ⟨t, rfl, ht, hg1⟩
  have h2 := h1.keep hX hg1
  have hO1 := hO.far hg1 (by simp)
  have blt : w.heap.size < w1.heap.size := Nat.lt_of_lt_of_le (by simp) hg1.size
  generalize w.heap.size = b at *
  have qk := hO1.kind
  clear h h1 hO hg1
  rw [hk.out] at qk
  have qa := hO1.a
  clear hk
  go_wp2_with fail
  refine (pick_any _ _ _ ho.a (by omega) (by omega)).mono ?_
  rintro e w' ⟨k, hk, rfl, hw⟩
  rw [hw]
  clear hw w'
  have k0 : (0 : Int) ≤ (k : Int) := Int.natCast_nonneg k
  have HH : Hid (SWd X B c vT vP vS ts nP ps Φ w1) := h2
  clear qk qa h2 hO1
  go_wp2
  go_loopw [10, 11] (fun s n wr => ∃ (u : ByteArray) (m : Nat), s = .string u ∧ n = .int .i64 m ∧ u.size ≤ 40000 ∧ m ≤ 500 ∧ wr = w1) (fun _ n _ => (intOf n).toNat)
  case atStart => exact ⟨_, k, rfl, rfl, by decide, by omega, rfl⟩
  case round =>
    obtain ⟨u, m, rfl, rfl, hu, hm, rfl⟩ := hrel
    have m0 : (m : Int) ≤ 500 := by omega
    have u0 : (u.size : Int) ≤ 40000 := by omega
    by_cases hz : 0 < m
    · have z0 : (0 : Int) < (m : Int) := by omega
      by_cases hs : u.size < 20000
      · have s0 : (u.size : Int) < 20000 := by omega
        go_wp2
        go_roundw
        case rel => exact ⟨u ++ t, m - 1, rfl, by go_num, by simp; omega, by omega, trivial⟩
        case measure => simp [intOf]; omega
      · have s0 : ¬ (u.size : Int) < 20000 := by omega
        go_wp2_with fail
        refine (add_any hX hc _ HH.out (by omega)).mono ?_
        rintro e w3 ⟨rfl, h4⟩
        go_wp2
        go_ret
        exact ⟨rfl, h4⟩
    · have z0 : m = 0 := by omega
      subst z0
      go_wp2_with fail
      refine (add_any hX hc _ HH.out (by omega)).mono ?_
      rintro e w3 ⟨rfl, h4⟩
      go_wp2
      go_ret
      exact ⟨rfl, h4⟩
end Go.Proofs.YtkijpphmiogbbaaGreatDoor.Z
