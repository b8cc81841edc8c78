import Derived.Test.YtkijpphmiogbbaaL2
import Derived.Test.YtkijpphmiogbbaaN2
namespace Go.Proofs.Ytkijpphmiogbbaa
open Go.RowKit
attribute [local go_sem ↓] Go.wp_at_zero Go.wp_at_succ
theorem hid_of {p : Prop} (h : p) : Hid p := h

/-- A ring lies in block b: its numbers, its function, its zetas, its scale. -/
structure Rg16 (w : World) (b : Nat) (z : Nat → Int) (sc : Int) : Prop where
  q : w.cell? ⟨b, 0, none⟩ = some (.int .u16 3329)
  leaf : w.cell? ⟨b, 1, none⟩ = some (.int .i64 2)
  mod : w.cell? ⟨b, 2, none⟩ = some (.func (.func 44) #[] #[])
  zetas : ∀ i, i < 256 → w.cell? ⟨b, 3 + i, none⟩ = some (.int .u16 (z i)) ∧ w.frozen? ⟨b, 3 + i, none⟩ = false
  scale : w.cell? ⟨b, 259, none⟩ = some (.int .u16 sc) ∧ w.frozen? ⟨b, 259, none⟩ = false
theorem Rg16.new {w w' : World} {b : Nat} {z : Nat → Int} {sc : Int} (h : Rg16 w b z sc) (hg : w.grownBy w' none) : Rg16 w' b z sc := by
  have hb := cell_lt h.q
  exact ⟨hg.cell h.q (by simp), hg.cell h.leaf (by simp), hg.cell h.mod (by simp), fun i hi => ⟨hg.cell (h.zetas i hi).1 (by simp), by rw [hg.frozen_far ⟨b, 3 + i, none⟩ hb (by simp)]; exact (h.zetas i hi).2⟩, ⟨hg.cell h.scale.1 (by simp), by rw [hg.frozen_far ⟨b, 259, none⟩ hb (by simp)]; exact h.scale.2⟩⟩
theorem Rg16.far {w w' : World} {b : Nat} {r : Option Nat} {z : Nat → Int} {sc : Int} (h : Rg16 w b z sc) (hg : w.grownBy w' r) (hne : some b ≠ r) : Rg16 w' b z sc := by
  have hb := cell_lt h.q
  exact ⟨hg.cell h.q hne, hg.cell h.leaf hne, hg.cell h.mod hne, fun i hi => ⟨hg.cell (h.zetas i hi).1 hne, by rw [hg.frozen_far ⟨b, 3 + i, none⟩ hb hne]; exact (h.zetas i hi).2⟩, ⟨hg.cell h.scale.1 hne, by rw [hg.frozen_far ⟨b, 259, none⟩ hb hne]; exact h.scale.2⟩⟩
theorem Rg16.drew {w : World} {b : Nat} {z : Nat → Int} {sc : Int} (h : Rg16 w b z sc) : Rg16 w.drew b z sc := ⟨h.q, h.leaf, h.mod, h.zetas, h.scale⟩

set_option maxHeartbeats 400000 in
theorem mod16_any (a : Nat) (w : World) (ha : a < 18446744073709551616) :
    Calls Try.prog 44 #[.int .u64 a] w fun e w' => e = .returned (.int .u16 ((a % 3329 : Nat) : Int)) ∧ w' = w := by
  have e1 : (a : Int) % 3329 = ((a % 3329 : Nat) : Int) := by omega
  have e2 : (a : Int).tmod 3329 = ((a % 3329 : Nat) : Int) := by rw [Int.tmod_eq_emod_of_nonneg (by omega)]; exact e1
  have e3 : IntKind.u16.wrap ((a % 3329 : Nat) : Int) = ((a % 3329 : Nat) : Int) := by rw [IntKind.wrap_u16]; omega
  generalize a % 3329 = r at *
  go_enter Try.func44, Try.ntmps44
  go_wp2
  go_ret
  exact ⟨rfl, rfl⟩
set_option maxHeartbeats 400000 in
theorem times16_any (b : Nat) (z : Nat → Int) (sc : Int) (x y : Nat) (w : World) (hR : Rg16 w b z sc) (hx : x < 3329) (hy : y < 3329) :
    Calls Try.prog 49 #[.pointer (some ⟨b, 0, none⟩), .int .u16 x, .int .u16 y] w fun e w' => e = .returned (.int .u16 ((x * y % 3329 : Nat) : Int)) ∧ w' = w := by
  have hm := hR.mod
  have hxy : x * y ≤ 3329 * 3329 := Nat.mul_le_mul (by omega) (by omega)
  have HM := mod16_any (x * y) w (by omega)
  have e1 : ((x * y : Nat) : Int) = (x : Int) * (y : Int) := by simp
  rw [e1] at HM
  have h0 : (0 : Int) ≤ (x : Int) * (y : Int) := by rw [← e1]; omega
  have h1 : (x : Int) * (y : Int) < 18446744073709551616 := by rw [← e1]; omega
  have h2 : (x : Int) * (y : Int) % 18446744073709551616 = (x : Int) * (y : Int) := by rw [Int.emod_eq_of_lt h0 h1]
  have HC := hid_of HM
  clear HM e1 hxy
  go_enter Try.func49, Try.ntmps49
  go_wp2_with (first | (go_at_call 44; refine HC.out.mono ?_; rintro e w' ⟨rfl, rfl⟩))
  go_ret
  exact ⟨rfl, rfl⟩
set_option maxHeartbeats 400000 in
theorem plus16_any (b : Nat) (z : Nat → Int) (sc : Int) (x y : Nat) (w : World) (hR : Rg16 w b z sc) (hx : x < 3329) (hy : y < 3329) :
    Calls Try.prog 50 #[.pointer (some ⟨b, 0, none⟩), .int .u16 x, .int .u16 y] w fun e w' => e = .returned (.int .u16 (((x : Int) + (y : Int)) % 3329)) ∧ w' = w := by
  have hq := hR.q
  by_cases h : (x : Int) + (y : Int) < 3329
  · have e : ((x : Int) + (y : Int)) % 3329 = (x : Int) + (y : Int) := by omega
    have d1 : decide ((3329 : Int) ≤ (x : Int) + (y : Int)) = false := by simp; omega
    rw [e]
    clear e
    go_enter Try.func50, Try.ntmps50
    go_wp2
    go_ret
    exact ⟨rfl, rfl⟩
  · have e : ((x : Int) + (y : Int)) % 3329 = (x : Int) + (y : Int) - 3329 := by omega
    have d1 : decide ((3329 : Int) ≤ (x : Int) + (y : Int)) = true := by simp; omega
    rw [e]
    clear e
    go_enter Try.func50, Try.ntmps50
    go_wp2
    go_ret
    exact ⟨rfl, rfl⟩
set_option maxHeartbeats 400000 in
theorem minus16_any (b : Nat) (z : Nat → Int) (sc : Int) (x y : Nat) (w : World) (hR : Rg16 w b z sc) (hx : x < 3329) (hy : y < 3329) :
    Calls Try.prog 51 #[.pointer (some ⟨b, 0, none⟩), .int .u16 x, .int .u16 y] w fun e w' => e = .returned (.int .u16 (((x : Int) - (y : Int)) % 3329)) ∧ w' = w := by
  have hq := hR.q
  by_cases h : (x : Int) < (y : Int)
  · have e : ((x : Int) - (y : Int)) % 3329 = (x : Int) - (y : Int) + 3329 := by omega
    have e2 : (((x : Int) - (y : Int)) % 65536 + 3329) % 65536 = (x : Int) - (y : Int) + 3329 := by omega
    have e3 : IntKind.u16.wrap (IntKind.u16.wrap ((x : Int) - (y : Int)) + 3329) = (x : Int) - (y : Int) + 3329 := by rw [IntKind.wrap_u16, IntKind.wrap_u16]; omega
    have d1 : decide ((x : Int) < (y : Int)) = true := by simp; omega
    rw [e]
    have HE := hid_of e2
    have HE3 := hid_of e3
    clear e e2 e3
    go_enter Try.func51, Try.ntmps51
    go_wp2
    go_ret
    refine ⟨?_, rfl⟩
    first
      | rfl
      | exact congrArg (fun x => Ending.returned (.int .u16 x)) HE.out
      | exact congrArg (fun x => Ending.returned (.int .u16 x)) HE3.out
      | (show Ending.returned (.int .u16 _) = _; congr 2; omega)
  · have e : ((x : Int) - (y : Int)) % 3329 = (x : Int) - (y : Int) := by omega
    have d1 : decide ((x : Int) < (y : Int)) = false := by simp; omega
    have d2 : (y : Int) ≤ (x : Int) := by omega
    rw [e]
    clear e
    go_enter Try.func51, Try.ntmps51
    go_wp2
    go_ret
    exact ⟨rfl, rfl⟩
end Go.Proofs.Ytkijpphmiogbbaa
