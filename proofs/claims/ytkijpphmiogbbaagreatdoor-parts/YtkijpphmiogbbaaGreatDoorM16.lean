import Derived.Test.YtkijpphmiogbbaaGreatDoorM15
import Derived.Test.YtkijpphmiogbbaaGreatDoorM03
import Derived.Test.YtkijpphmiogbbaaGreatDoorM14
import Derived.Lib.Tables
import Derived.Laws.BitsAllLaws
namespace Go.Proofs.YtkijpphmiogbbaaGreatDoor
open Go.RowKit
attribute [local go_sem ↓] Go.wp_at_zero Go.wp_at_succ
theorem hid_of32 {p : Prop} (h : p) : Hid p := h

/-- A ring lies in block b: its numbers, its function, its zetas, its scale. -/
structure Rg32 (w : World) (b : Nat) (z : Nat → Int) (sc : Int) : Prop where
  q : w.cell? ⟨b, 0, none⟩ = some (.int .u32 8380417)
  leaf : w.cell? ⟨b, 1, none⟩ = some (.int .i64 1)
  mod : w.cell? ⟨b, 2, none⟩ = some (.func (.func 279) #[] #[])
  zetas : ∀ i, i < 256 → w.cell? ⟨b, 3 + i, none⟩ = some (.int .u32 (z i)) ∧ w.frozen? ⟨b, 3 + i, none⟩ = false
  scale : w.cell? ⟨b, 259, none⟩ = some (.int .u32 sc) ∧ w.frozen? ⟨b, 259, none⟩ = false
theorem Rg32.new {w w' : World} {b : Nat} {z : Nat → Int} {sc : Int} (h : Rg32 w b z sc) (hg : w.grownBy w' none) : Rg32 w' b z sc := by
  have hb := cell_lt h.q
  exact ⟨hg.cell h.q (by simp), hg.cell h.leaf (by simp), hg.cell h.mod (by simp), fun i hi => ⟨hg.cell (h.zetas i hi).1 (by simp), by rw [hg.frozen_far ⟨b, 3 + i, none⟩ hb (by simp)]; exact (h.zetas i hi).2⟩, ⟨hg.cell h.scale.1 (by simp), by rw [hg.frozen_far ⟨b, 259, none⟩ hb (by simp)]; exact h.scale.2⟩⟩
theorem Rg32.far {w w' : World} {b : Nat} {r : Option Nat} {z : Nat → Int} {sc : Int} (h : Rg32 w b z sc) (hg : w.grownBy w' r) (hne : some b ≠ r) : Rg32 w' b z sc := by
  have hb := cell_lt h.q
  exact ⟨hg.cell h.q hne, hg.cell h.leaf hne, hg.cell h.mod hne, fun i hi => ⟨hg.cell (h.zetas i hi).1 hne, by rw [hg.frozen_far ⟨b, 3 + i, none⟩ hb hne]; exact (h.zetas i hi).2⟩, ⟨hg.cell h.scale.1 hne, by rw [hg.frozen_far ⟨b, 259, none⟩ hb hne]; exact h.scale.2⟩⟩
theorem Rg32.drew {w : World} {b : Nat} {z : Nat → Int} {sc : Int} (h : Rg32 w b z sc) : Rg32 w.drew b z sc := ⟨h.q, h.leaf, h.mod, h.zetas, h.scale⟩

set_option maxHeartbeats 400000 in
theorem mod32_any (a : Nat) (w : World) (ha : a < 18446744073709551616) :
    Calls Tryz.prog 279 #[.int .u64 a] w fun e w' => e = .returned (.int .u32 ((a % 8380417 : Nat) : Int)) ∧ w' = w := by
  have e1 : (a : Int) % 8380417 = ((a % 8380417 : Nat) : Int) := by omega
  have e2 : (a : Int).tmod 8380417 = ((a % 8380417 : Nat) : Int) := by rw [Int.tmod_eq_emod_of_nonneg (by omega)]; exact e1
  have e3 : IntKind.u32.wrap ((a % 8380417 : Nat) : Int) = ((a % 8380417 : Nat) : Int) := by rw [IntKind.wrap_u32]; omega
  generalize a % 8380417 = r at *
  go_enter Tryz.func279, Tryz.ntmps279
  go_wp2
  go_ret
  exact ⟨rfl, rfl⟩
set_option maxHeartbeats 400000 in
theorem times32_any (b : Nat) (z : Nat → Int) (sc : Int) (x y : Nat) (w : World) (hR : Rg32 w b z sc) (hx : x < 8380417) (hy : y < 8380417) :
    Calls Tryz.prog 283 #[.pointer (some ⟨b, 0, none⟩), .int .u32 x, .int .u32 y] w fun e w' => e = .returned (.int .u32 ((x * y % 8380417 : Nat) : Int)) ∧ w' = w := by
  have hm := hR.mod
  have hxy : x * y ≤ 8380417 * 8380417 := Nat.mul_le_mul (by omega) (by omega)
  have HM := mod32_any (x * y) w (by omega)
  have e1 : ((x * y : Nat) : Int) = (x : Int) * (y : Int) := by simp
  rw [e1] at HM
  have h0 : (0 : Int) ≤ (x : Int) * (y : Int) := by rw [← e1]; omega
  have h1 : (x : Int) * (y : Int) < 18446744073709551616 := by rw [← e1]; omega
  have h2 : (x : Int) * (y : Int) % 18446744073709551616 = (x : Int) * (y : Int) := by rw [Int.emod_eq_of_lt h0 h1]
  have HC := hid_of32 HM
  clear HM e1 hxy
  go_enter Tryz.func283, Tryz.ntmps283
  go_wp2_with (first | (go_at_call 279; refine HC.out.mono ?_; rintro e w' ⟨rfl, rfl⟩))
  go_ret
  exact ⟨rfl, rfl⟩
set_option maxHeartbeats 400000 in
theorem plus32_any (b : Nat) (z : Nat → Int) (sc : Int) (x y : Nat) (w : World) (hR : Rg32 w b z sc) (hx : x < 8380417) (hy : y < 8380417) :
    Calls Tryz.prog 284 #[.pointer (some ⟨b, 0, none⟩), .int .u32 x, .int .u32 y] w fun e w' => e = .returned (.int .u32 (((x : Int) + (y : Int)) % 8380417)) ∧ w' = w := by
  have hq := hR.q
  by_cases h : (x : Int) + (y : Int) < 8380417
  · have e : ((x : Int) + (y : Int)) % 8380417 = (x : Int) + (y : Int) := by omega
    have d1 : decide ((8380417 : Int) ≤ (x : Int) + (y : Int)) = false := by simp; omega
    rw [e]
    clear e
    go_enter Tryz.func284, Tryz.ntmps284
    go_wp2
    go_ret
    exact ⟨rfl, rfl⟩
  · have e : ((x : Int) + (y : Int)) % 8380417 = (x : Int) + (y : Int) - 8380417 := by omega
    have d1 : decide ((8380417 : Int) ≤ (x : Int) + (y : Int)) = true := by simp; omega
    rw [e]
    clear e
    go_enter Tryz.func284, Tryz.ntmps284
    go_wp2
    go_ret
    exact ⟨rfl, rfl⟩
set_option maxHeartbeats 400000 in
theorem minus32_any (b : Nat) (z : Nat → Int) (sc : Int) (x y : Nat) (w : World) (hR : Rg32 w b z sc) (hx : x < 8380417) (hy : y < 8380417) :
    Calls Tryz.prog 285 #[.pointer (some ⟨b, 0, none⟩), .int .u32 x, .int .u32 y] w fun e w' => e = .returned (.int .u32 (((x : Int) - (y : Int)) % 8380417)) ∧ w' = w := by
  have hq := hR.q
  by_cases h : (x : Int) < (y : Int)
  · have e : ((x : Int) - (y : Int)) % 8380417 = (x : Int) - (y : Int) + 8380417 := by omega
    have e2 : (((x : Int) - (y : Int)) % 4294967296 + 8380417) % 4294967296 = (x : Int) - (y : Int) + 8380417 := by omega
    have e3 : IntKind.u32.wrap (IntKind.u32.wrap ((x : Int) - (y : Int)) + 8380417) = (x : Int) - (y : Int) + 8380417 := by rw [IntKind.wrap_u32, IntKind.wrap_u32]; omega
    have d1 : decide ((x : Int) < (y : Int)) = true := by simp; omega
    rw [e]
    have HE := hid_of32 e2
    have HE3 := hid_of32 e3
    clear e e2 e3
    go_enter Tryz.func285, Tryz.ntmps285
    go_wp2
    go_ret
    refine ⟨?_, rfl⟩
    first
      | rfl
      | exact congrArg (fun x => Ending.returned (.int .u32 x)) HE.out
      | exact congrArg (fun x => Ending.returned (.int .u32 x)) HE3.out
      | (show Ending.returned (.int .u32 _) = _; congr 2; omega)
  · have e : ((x : Int) - (y : Int)) % 8380417 = (x : Int) - (y : Int) := by omega
    have d1 : decide ((x : Int) < (y : Int)) = false := by simp; omega
    have d2 : (y : Int) ≤ (x : Int) := by omega
    rw [e]
    clear e
    go_enter Tryz.func285, Tryz.ntmps285
    go_wp2
    go_ret
    exact ⟨rfl, rfl⟩
end Go.Proofs.YtkijpphmiogbbaaGreatDoor

namespace Go.Proofs.YtkijpphmiogbbaaGreatDoor
open Go.RowKit
attribute [local go_sem ↓] Go.wp_at_zero Go.wp_at_succ

theorem rev8_lib (i : Nat) (h : i < 256) : Lib.rev8 (i : Int) = ((rev8 i : Nat) : Int) := by
  have : ∀ i : Fin 256, Lib.rev8 ((i.val : Nat) : Int) = ((rev8 i.val : Nat) : Int) := by decide +kernel
  exact this ⟨i, h⟩
theorem rev8_lt (i : Nat) (h : i < 256) : rev8 i < 256 := by
  have : ∀ i : Fin 256, rev8 i.val < 256 := by decide +kernel
  exact this ⟨i, h⟩
set_option maxHeartbeats 1000000 in
theorem reverse16_any (i : Nat) (w : World) (h : i < 256) :
    Calls Tryz.prog 373 #[.int .u16 i] w fun e w' => e = .returned (.int .u16 ((rev8 i * 256 : Nat) : Int)) ∧ w.grownBy w' none := by
  have hr := rev8_lib i h
  have hl := rev8_lt i h
  have e0 : (i : Int) / 256 = 0 := by omega
  have e1 : bits BinOp.and IntKind.u16 (i : Int) 255 = (i : Int) := by
    have : ∀ i : Fin 256, bits BinOp.and IntKind.u16 ((i.val : Nat) : Int) 255 = ((i.val : Nat) : Int) := by decide +kernel
    exact this ⟨i, h⟩
  have e2 : Lib.rev8 0 = 0 := by decide +kernel
  have i0 : (0 : Int) ≤ (i : Int) := by omega
  have i1 : (i : Int) ≤ 255 := by omega
  generalize rev8 i = r at *
  have e3 : bits BinOp.or IntKind.u16 0 ((r : Int) * 256) = (r : Int) * 256 := by
    have : ∀ r : Fin 256, bits BinOp.or IntKind.u16 0 (((r.val : Nat) : Int) * 256) = ((r.val : Nat) : Int) * 256 := by decide +kernel
    exact this ⟨r, hl⟩
  go_enter Tryz.func373, Tryz.ntmps373
  go_wp2
  go_region
  all_goals (
    go_wp2
    go_ret
    refine ⟨?_, grown_drew (World.grownBy.refl _ _)⟩
    show Ending.returned (.int .u16 ((r : Int) * 256)) = _
    simp)
set_option maxHeartbeats 400000 in
set_option maxRecDepth 100000 in
theorem len_128 (w : World) : Calls Tryz.prog 341 #[.int .u64 128] w fun e w' => e = .returned (.int .i64 8) ∧ w.grownBy w' none := by
  have l1 : Lib.len8 128 = 8 := by decide +kernel
  go_enter Tryz.func341, Tryz.ntmps341
  go_wp2_with go_in
  go_ret
  exact ⟨rfl, World.grownBy.refl _ _⟩
set_option maxHeartbeats 400000 in
set_option maxRecDepth 100000 in
theorem len_256 (w : World) : Calls Tryz.prog 341 #[.int .u64 256] w fun e w' => e = .returned (.int .i64 9) ∧ w.grownBy w' none := by
  have l1 : Lib.len8 1 = 1 := by decide +kernel
  go_enter Tryz.func341, Tryz.ntmps341
  go_wp2_with go_in
  go_ret
  exact ⟨rfl, World.grownBy.refl _ _⟩
set_option maxHeartbeats 400000 in
theorem reversed_7 (i : Nat) (w : World) (h : i < 128) :
    Calls Tryz.prog 342 #[.int .i64 i, .int .i64 7] w fun e w' => e = .returned (.int .i64 ((rev8 i / 2 : Nat) : Int)) ∧ w.grownBy w' none := by
  have hl := rev8_lt i (by omega)
  have HC := hid_of (reverse16_any i w (by omega))
  have e1 : (rev8 i * 256) / 512 = rev8 i / 2 := by omega
  rw [← e1]
  generalize rev8 i = r at *
  have e2 : (((r * 256 : Nat) : Int)) / 512 = (((r * 256) / 512 : Nat) : Int) := by omega
  obtain ⟨x, hx⟩ : ∃ x, x = r * 256 := ⟨_, rfl⟩
  rw [← hx] at HC e2 ⊢
  have hx1 : x < 65536 := by omega
  clear hx e1
  generalize x / 512 = y at *
  go_enter Tryz.func342, Tryz.ntmps342
  go_wp2_with (first | (go_at_call 373; refine HC.out.mono ?_; rintro e w1 ⟨rfl, g1⟩))
  go_ret
  exact ⟨rfl, g1⟩
set_option maxHeartbeats 400000 in
theorem reversed_8 (i : Nat) (w : World) (h : i < 256) :
    Calls Tryz.prog 342 #[.int .i64 i, .int .i64 8] w fun e w' => e = .returned (.int .i64 ((rev8 i : Nat) : Int)) ∧ w.grownBy w' none := by
  have hl := rev8_lt i (by omega)
  have HC := hid_of (reverse16_any i w (by omega))
  have e1 : (rev8 i * 256) / 256 = rev8 i := by omega
  rw [← e1]
  generalize rev8 i = r at *
  have e2 : (((r * 256 : Nat) : Int)) / 256 = (((r * 256) / 256 : Nat) : Int) := by omega
  obtain ⟨x, hx⟩ : ∃ x, x = r * 256 := ⟨_, rfl⟩
  rw [← hx] at HC e2 ⊢
  have hx1 : x < 65536 := by omega
  clear hx e1
  generalize x / 256 = y at *
  go_enter Tryz.func342, Tryz.ntmps342
  go_wp2_with (first | (go_at_call 373; refine HC.out.mono ?_; rintro e w1 ⟨rfl, g1⟩))
  go_ret
  exact ⟨rfl, g1⟩
end Go.Proofs.YtkijpphmiogbbaaGreatDoor

namespace Go.Proofs.YtkijpphmiogbbaaGreatDoor
open Go.RowKit
attribute [local go_sem ↓] Go.wp_at_zero Go.wp_at_succ

def revN16 (i : Nat) : Nat := rev8 i / 2
theorem revN16_lt (i : Nat) (h : i < 128) : revN16 i < 128 ∧ revN16 (revN16 i) = i := by
  have : ∀ i : Fin 128, revN16 i.val < 128 ∧ revN16 (revN16 i.val) = i.val := by decide +kernel
  exact this ⟨i, h⟩
def zTo16 (e : Nat) : Nat → Int := fun i => if i < 128 ∧ revN16 i < e then ((17 ^ revN16 i % 3329 : Nat) : Int) else 0
theorem zTo16_step (e : Nat) (he : e < 128) (j : Nat) : upd (zTo16 e) (revN16 e) ((17 ^ e % 3329 : Nat) : Int) j = zTo16 (e + 1) j := by
  have h1 := revN16_lt e he
  unfold upd zTo16
  by_cases h : j = revN16 e
  · subst h
    rw [if_pos rfl, h1.2, if_pos ⟨h1.1, by omega⟩]
  · rw [if_neg h]
    by_cases h2 : j < 128
    · have h3 := revN16_lt j h2
      have hne : revN16 j ≠ e := fun q => h (by rw [← q, h3.2])
      by_cases h4 : revN16 j < e
      · rw [if_pos ⟨h2, h4⟩, if_pos ⟨h2, by omega⟩]
      · rw [if_neg (by omega), if_neg (by omega)]
    · rw [if_neg (by omega), if_neg (by omega)]
theorem zTo16_all (i : Nat) : zTo16 128 i = zetS i := by
  unfold zTo16 zetS
  by_cases h : i < 128
  · rw [if_pos ⟨h, (revN16_lt i h).1⟩, if_pos h]; rfl
  · rw [if_neg (by omega), if_neg h]
theorem pw16_step (e : Nat) : (17 ^ e % 3329) * 17 % 3329 = 17 ^ (e + 1) % 3329 := by
  rw [Nat.pow_succ, Nat.mul_mod, Nat.mod_mod, ← Nat.mul_mod]
theorem Rg16.zet {w : World} {b : Nat} {z : Nat → Int} {sc : Int} (h : Rg16 w b z sc) {i : Nat} (hi : i < 256) (v : Int) : Rg16 (w.setCell ⟨b, 3 + i, none⟩ (.int .u16 v)) b (upd z i v) sc := by
  refine ⟨?_, ?_, ?_, fun j hj => ⟨?_, by rw [frozen_set]; exact (h.zetas j hj).2⟩, ⟨?_, by rw [frozen_set]; exact h.scale.2⟩⟩
  · rw [cell_other _ _ _ _ (Or.inr (by simp; omega))]; exact h.q
  · rw [cell_other _ _ _ _ (Or.inr (by simp; omega))]; exact h.leaf
  · rw [cell_other _ _ _ _ (Or.inr (by simp; omega))]; exact h.mod
  · by_cases e : j = i
    · subst e; rw [cell_same (h.zetas j hj).1, upd_same]
    · rw [cell_other _ _ _ _ (Or.inr (by simp; omega)), upd_ne _ _ _ _ e]; exact (h.zetas j hj).1
  · rw [cell_other _ _ _ _ (Or.inr (by simp; omega))]; exact h.scale.1
theorem Rg16.sca {w : World} {b : Nat} {z : Nat → Int} {sc : Int} (h : Rg16 w b z sc) (v : Int) : Rg16 (w.setCell ⟨b, 259, none⟩ (.int .u16 v)) b z v := by
  refine ⟨?_, ?_, ?_, fun j hj => ⟨?_, by rw [frozen_set]; exact (h.zetas j hj).2⟩, ⟨?_, by rw [frozen_set]; exact h.scale.2⟩⟩
  · rw [cell_other _ _ _ _ (Or.inr (by simp))]; exact h.q
  · rw [cell_other _ _ _ _ (Or.inr (by simp))]; exact h.leaf
  · rw [cell_other _ _ _ _ (Or.inr (by simp))]; exact h.mod
  · rw [cell_other _ _ _ _ (Or.inr (by simp; omega))]; exact (h.zetas j hj).1
  · rw [cell_same h.scale.1]
theorem Rg16.ext {w : World} {b : Nat} {z y : Nat → Int} {sc : Int} (h : Rg16 w b z sc) (e : ∀ i, i < 256 → z i = y i) : Rg16 w b y sc := ⟨h.q, h.leaf, h.mod, fun i hi => by rw [← e i hi]; exact h.zetas i hi, h.scale⟩

def invSt16 : Nat → Nat × Nat
  | 0 => (1, 128)
  | n + 1 => (if (3329 - 2) / 2 ^ n % 2 = 1 then (invSt16 n).1 * (invSt16 n).2 % 3329 else (invSt16 n).1, (invSt16 n).2 * (invSt16 n).2 % 3329)
theorem invSt16_lt (n : Nat) : (invSt16 n).1 < 3329 ∧ (invSt16 n).2 < 3329 := by
  induction n with
  | zero => exact ⟨by decide, by decide⟩
  | succ n ih =>
    refine ⟨?_, Nat.mod_lt _ (by omega)⟩
    show (if (3329 - 2) / 2 ^ n % 2 = 1 then (invSt16 n).1 * (invSt16 n).2 % 3329 else (invSt16 n).1) < 3329
    split
    · exact Nat.mod_lt _ (by omega)
    · exact ih.1
theorem invSt16_end (n : Nat) (hn : n ≤ 24) (h : (3329 - 2) / 2 ^ n = 0) : (invSt16 n).1 = 3303 := by
  have : ∀ n : Fin 25, (3329 - 2) / 2 ^ n.val = 0 → (invSt16 n.val).1 = 3303 := by decide +kernel
  exact this ⟨n, by omega⟩ h
theorem invSt16_go (n : Nat) (hn : n ≤ 24) (h : 0 < (3329 - 2) / 2 ^ n) : n < 24 := by
  rcases Nat.lt_or_ge n 24 with q | q
  · exact q
  · have : n = 24 := by omega
    subst this
    exact absurd h (by decide)
set_option maxHeartbeats 1000000 in
theorem inverse16_any (b : Nat) (z : Nat → Int) (sc : Int) (w : World) (hR : Rg16 w b z sc) :
    Calls Tryz.prog 343 #[.pointer (some ⟨b, 0, none⟩), .int .u16 128] w fun e w' => e = .returned (.int .u16 3303) ∧ w' = w := by
  have hq := hR.q
  go_enter Tryz.func343, Tryz.ntmps343
  go_wp2
  go_loopw [1, 5, 6] (fun a p e wr => ∃ n ee : Nat, n ≤ 24 ∧ a = .int .u16 ((invSt16 n).2 : Int) ∧ p = .int .u16 ((invSt16 n).1 : Int) ∧ e = .int .u16 ee ∧ Hid (ee = (3329 - 2) / 2 ^ n) ∧ wr = w) (fun _ _ e _ => (intOf e).toNat)
  case atStart => exact ⟨0, 3329 - 2, by omega, rfl, rfl, rfl, show 3329 - 2 = (3329 - 2) / 2 ^ 0 by decide, rfl⟩
  case round =>
    obtain ⟨n, ee, hn, rfl, rfl, rfl, HE, hw⟩ := hrel
    subst hw
    have hl := invSt16_lt n
    by_cases h0 : 0 < ee
    · have hlt := invSt16_go n hn (by rw [← HE.out]; exact h0)
      have HN := hid_of (show invSt16 (n + 1) = (if (3329 - 2) / 2 ^ n % 2 = 1 then (invSt16 n).1 * (invSt16 n).2 % 3329 else (invSt16 n).1, (invSt16 n).2 * (invSt16 n).2 % 3329) from rfl)
      rw [← HE.out] at HN
      generalize (invSt16 n).1 = p at *
      generalize (invSt16 n).2 = a at *
      have HT := hid_of (fun x y hx hy => times16_any b z sc x y wr hR hx hy)
      have hpl := hl.1
      have hal := hl.2
      have hee : ee ≤ 3329 := by rw [HE.out]; exact Nat.le_trans (Nat.div_le_self (3329 - 2) (2 ^ n)) (by decide)
      have c0 : (0 : Int) < (ee : Int) := by omega
      by_cases ho : ee % 2 = 1
      · have o1 : (((ee : Int) % 2) == 1) = true := by simp; omega
        go_wp2_with (first | (go_at_call 280; refine (HT.out _ _ (by assumption) (by assumption)).mono ?_; rintro _ w' ⟨rfl, hw⟩; rw [hw]; clear hw w'))
        go_roundw
        case rel =>
          rw [if_pos ho] at HN
          refine ⟨n + 1, ee / 2, by omega, by rw [HN.out]; simp, by rw [HN.out]; simp, ?_, ?_, trivial⟩
          · congr 1
          · show ee / 2 = _
            rw [Nat.pow_succ, ← Nat.div_div_eq_div_mul, ← HE.out]
        case measure => simp [intOf]; omega
      · have o1 : (((ee : Int) % 2) == 1) = false := by simp; omega
        go_wp2_with (first | (go_at_call 280; refine (HT.out _ _ (by assumption) (by assumption)).mono ?_; rintro _ w' ⟨rfl, hw⟩; rw [hw]; clear hw w'))
        go_roundw
        case rel =>
          rw [if_neg ho] at HN
          refine ⟨n + 1, ee / 2, by omega, by rw [HN.out]; simp, by rw [HN.out], ?_, ?_, trivial⟩
          · congr 1
          · show ee / 2 = _
            rw [Nat.pow_succ, ← Nat.div_div_eq_div_mul, ← HE.out]
        case measure => simp [intOf]; omega
    · have h00 : ee = 0 := by omega
      subst h00
      have he := invSt16_end n hn HE.out.symm
      rw [he]
      go_wp2
      go_ret
      exact ⟨rfl, rfl⟩
end Go.Proofs.YtkijpphmiogbbaaGreatDoor
