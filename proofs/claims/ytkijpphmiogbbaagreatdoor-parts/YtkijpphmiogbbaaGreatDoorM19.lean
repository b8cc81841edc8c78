import Derived.Test.YtkijpphmiogbbaaGreatDoorM16
import Derived.Laws.Tables
import Derived.Test.YtkijpphmiogbbaaGreatDoorM18
namespace Go.Proofs.YtkijpphmiogbbaaGreatDoor
open Go.RowKit
attribute [local go_sem ↓] Go.wp_at_zero Go.wp_at_succ

def revN32 (i : Nat) : Nat := rev8 i
theorem revN32_lt (i : Nat) (h : i < 256) : revN32 i < 256 ∧ revN32 (revN32 i) = i := by
  have : ∀ i : Fin 256, revN32 i.val < 256 ∧ revN32 (revN32 i.val) = i.val := by decide +kernel
  exact this ⟨i, h⟩
def zTo32 (e : Nat) : Nat → Int := fun i => if i < 256 ∧ revN32 i < e then ((1753 ^ revN32 i % 8380417 : Nat) : Int) else 0
theorem zTo32_step (e : Nat) (he : e < 256) (j : Nat) : upd (zTo32 e) (revN32 e) ((1753 ^ e % 8380417 : Nat) : Int) j = zTo32 (e + 1) j := by
  have h1 := revN32_lt e he
  unfold upd zTo32
  by_cases h : j = revN32 e
  · subst h
    rw [if_pos rfl, h1.2, if_pos ⟨h1.1, by omega⟩]
  · rw [if_neg h]
    by_cases h2 : j < 256
    · have h3 := revN32_lt j h2
      have hne : revN32 j ≠ e := fun q => h (by rw [← q, h3.2])
      by_cases h4 : revN32 j < e
      · rw [if_pos ⟨h2, h4⟩, if_pos ⟨h2, by omega⟩]
      · rw [if_neg (by omega), if_neg (by omega)]
    · rw [if_neg (by omega), if_neg (by omega)]
theorem zTo32_all (i : Nat) : zTo32 256 i = zetG i := by
  unfold zTo32 zetG
  by_cases h : i < 256
  · rw [if_pos ⟨h, (revN32_lt i h).1⟩, if_pos h]; rfl
  · rw [if_neg (by omega), if_neg h]
theorem pw32_step (e : Nat) : (1753 ^ e % 8380417) * 1753 % 8380417 = 1753 ^ (e + 1) % 8380417 := by
  rw [Nat.pow_succ, Nat.mul_mod, Nat.mod_mod, ← Nat.mul_mod]
theorem Rg32.zet {w : World} {b : Nat} {z : Nat → Int} {sc : Int} (h : Rg32 w b z sc) {i : Nat} (hi : i < 256) (v : Int) : Rg32 (w.setCell ⟨b, 3 + i, none⟩ (.int .u32 v)) b (upd z i v) sc := by
  refine ⟨?_, ?_, ?_, fun j hj => ⟨?_, by rw [frozen_set]; exact (h.zetas j hj).2⟩, ⟨?_, by rw [frozen_set]; exact h.scale.2⟩⟩
  · rw [cell_other _ _ _ _ (Or.inr (by simp; omega))]; exact h.q
  · rw [cell_other _ _ _ _ (Or.inr (by simp; omega))]; exact h.leaf
  · rw [cell_other _ _ _ _ (Or.inr (by simp; omega))]; exact h.mod
  · by_cases e : j = i
    · subst e; rw [cell_same (h.zetas j hj).1, upd_same]
    · rw [cell_other _ _ _ _ (Or.inr (by simp; omega)), upd_ne _ _ _ _ e]; exact (h.zetas j hj).1
  · rw [cell_other _ _ _ _ (Or.inr (by simp; omega))]; exact h.scale.1
theorem Rg32.sca {w : World} {b : Nat} {z : Nat → Int} {sc : Int} (h : Rg32 w b z sc) (v : Int) : Rg32 (w.setCell ⟨b, 259, none⟩ (.int .u32 v)) b z v := by
  refine ⟨?_, ?_, ?_, fun j hj => ⟨?_, by rw [frozen_set]; exact (h.zetas j hj).2⟩, ⟨?_, by rw [frozen_set]; exact h.scale.2⟩⟩
  · rw [cell_other _ _ _ _ (Or.inr (by simp))]; exact h.q
  · rw [cell_other _ _ _ _ (Or.inr (by simp))]; exact h.leaf
  · rw [cell_other _ _ _ _ (Or.inr (by simp))]; exact h.mod
  · rw [cell_other _ _ _ _ (Or.inr (by simp; omega))]; exact (h.zetas j hj).1
  · rw [cell_same h.scale.1]
theorem Rg32.ext {w : World} {b : Nat} {z y : Nat → Int} {sc : Int} (h : Rg32 w b z sc) (e : ∀ i, i < 256 → z i = y i) : Rg32 w b y sc := ⟨h.q, h.leaf, h.mod, fun i hi => by rw [← e i hi]; exact h.zetas i hi, h.scale⟩

def invSt32 : Nat → Nat × Nat
  | 0 => (1, 256)
  | n + 1 => (if (8380417 - 2) / 2 ^ n % 2 = 1 then (invSt32 n).1 * (invSt32 n).2 % 8380417 else (invSt32 n).1, (invSt32 n).2 * (invSt32 n).2 % 8380417)
theorem invSt32_lt (n : Nat) : (invSt32 n).1 < 8380417 ∧ (invSt32 n).2 < 8380417 := by
  induction n with
  | zero => exact ⟨by decide, by decide⟩
  | succ n ih =>
    refine ⟨?_, Nat.mod_lt _ (by omega)⟩
    show (if (8380417 - 2) / 2 ^ n % 2 = 1 then (invSt32 n).1 * (invSt32 n).2 % 8380417 else (invSt32 n).1) < 8380417
    split
    · exact Nat.mod_lt _ (by omega)
    · exact ih.1
theorem invSt32_end (n : Nat) (hn : n ≤ 24) (h : (8380417 - 2) / 2 ^ n = 0) : (invSt32 n).1 = 8347681 := by
  have : ∀ n : Fin 25, (8380417 - 2) / 2 ^ n.val = 0 → (invSt32 n.val).1 = 8347681 := by decide +kernel
  exact this ⟨n, by omega⟩ h
theorem invSt32_go (n : Nat) (hn : n ≤ 24) (h : 0 < (8380417 - 2) / 2 ^ n) : n < 24 := by
  rcases Nat.lt_or_ge n 24 with q | q
  · exact q
  · have : n = 24 := by omega
    subst this
    exact absurd h (by decide)
set_option maxHeartbeats 1000000 in
theorem inverse32_any (b : Nat) (z : Nat → Int) (sc : Int) (w : World) (hR : Rg32 w b z sc) :
    Calls Tryz.prog 344 #[.pointer (some ⟨b, 0, none⟩), .int .u32 256] w fun e w' => e = .returned (.int .u32 8347681) ∧ w' = w := by
  have hq := hR.q
  go_enter Tryz.func344, Tryz.ntmps344
  go_wp2
  go_loopw [1, 5, 6] (fun a p e wr => ∃ n ee : Nat, n ≤ 24 ∧ a = .int .u32 ((invSt32 n).2 : Int) ∧ p = .int .u32 ((invSt32 n).1 : Int) ∧ e = .int .u32 ee ∧ Hid (ee = (8380417 - 2) / 2 ^ n) ∧ wr = w) (fun _ _ e _ => (intOf e).toNat)
  case atStart => exact ⟨0, 8380417 - 2, by omega, rfl, rfl, rfl, show 8380417 - 2 = (8380417 - 2) / 2 ^ 0 by decide, rfl⟩
  case round =>
    obtain ⟨n, ee, hn, rfl, rfl, rfl, HE, hw⟩ := hrel
    subst hw
    have hl := invSt32_lt n
    by_cases h0 : 0 < ee
    · have hlt := invSt32_go n hn (by rw [← HE.out]; exact h0)
      have HN := hid_of (show invSt32 (n + 1) = (if (8380417 - 2) / 2 ^ n % 2 = 1 then (invSt32 n).1 * (invSt32 n).2 % 8380417 else (invSt32 n).1, (invSt32 n).2 * (invSt32 n).2 % 8380417) from rfl)
      rw [← HE.out] at HN
      generalize (invSt32 n).1 = p at *
      generalize (invSt32 n).2 = a at *
      have HT := hid_of (fun x y hx hy => times32_any b z sc x y wr hR hx hy)
      have hpl := hl.1
      have hal := hl.2
      have hee : ee ≤ 8380417 := by rw [HE.out]; exact Nat.le_trans (Nat.div_le_self (8380417 - 2) (2 ^ n)) (by decide)
      have c0 : (0 : Int) < (ee : Int) := by omega
      by_cases ho : ee % 2 = 1
      · have o1 : (((ee : Int) % 2) == 1) = true := by simp; omega
        go_wp2_with (first | (go_at_call 283; refine (HT.out _ _ (by assumption) (by assumption)).mono ?_; rintro _ w' ⟨rfl, hw⟩; rw [hw]; clear hw w'))
        go_roundw
        case rel =>
          rw [if_pos ho] at HN
          refine ⟨n + 1, ee / 2, by omega, by rw [HN.out]; simp, by rw [HN.out]; simp, ?_, ?_, trivial⟩
          · congr 1
          · show ee / 2 = _
            rw [Nat.pow_succ, ← Nat.div_div_eq_div_mul, ← HE.out]
        case measure => simp [intOf]; omega
      · have o1 : (((ee : Int) % 2) == 1) = false := by simp; omega
        go_wp2_with (first | (go_at_call 283; refine (HT.out _ _ (by assumption) (by assumption)).mono ?_; rintro _ w' ⟨rfl, hw⟩; rw [hw]; clear hw w'))
        go_roundw
        case rel =>
          rw [if_neg ho] at HN
          refine ⟨n + 1, ee / 2, by omega, by rw [HN.out]; simp, by rw [HN.out], ?_, ?_, trivial⟩
          · congr 1
          · show ee / 2 = _
            rw [Nat.pow_succ, ← Nat.div_div_eq_div_mul, ← HE.out]
        case measure => simp [intOf]; omega
    · have h00 : ee = 0 := by omega
      subst h00
      have he := invSt32_end n hn HE.out.symm
      rw [he]
      go_wp2
      go_ret
      exact ⟨rfl, rfl⟩
end Go.Proofs.YtkijpphmiogbbaaGreatDoor

namespace Go.Proofs.YtkijpphmiogbbaaGreatDoor
open Go.RowKit
attribute [local go_sem ↓] Go.wp_at_zero Go.wp_at_succ

def ringA32 : Array Value := #[.int .u32 8380417, .int .i64 1, .func (.func 279) #[] #[]] ++ polyA .u32 (fun _ => 0) ++ #[.int .u32 0]
def hidBd32 (parts : Array (Nat × Value)) : Sem Value := Instr.build 325 parts
theorem bd_hide32 (parts : Array (Nat × Value)) : Instr.build 325 parts = hidBd32 parts := rfl
theorem run_hidBd32 (W : World) : (hidBd32 #[(0, .int .u32 8380417), (1, .int .i64 1), (2, .func (.func 279) #[] #[])]).run Tryz.prog W = .ok (.agg ringA32) W :=
  run_build W 325 _ ringA32 (by kernel_rfl)
attribute [local go_sem ↓] bd_hide32
attribute [local go_sem] run_hidBd32
theorem ringA32_at (i : Nat) (h : i < 256) : ringA32[3 + i]? = some (.int .u32 0) := by
  unfold ringA32
  rw [Array.getElem?_append_left (by simp [polyA_size]; omega), Array.getElem?_append_right (by simp)]
  simp only [List.size_toArray, List.length_cons, List.length_nil]
  rw [show 3 + i - (0 + 1 + 1 + 1) = i by omega]
  exact polyA_at .u32 (fun _ => 0) i h
theorem ringA32_rg (w : World) (T : TypeId) : Rg32 (w.alloc (.cells ringA32 T)) w.heap.size (zTo32 0) 0 := by
  refine ⟨?_, ?_, ?_, fun i hi => ⟨?_, World.frozen?_alloc_at _ _ _ _ rfl⟩, ⟨?_, World.frozen?_alloc_at _ _ _ _ rfl⟩⟩
  · rw [World.cell?_alloc_new]; kernel_rfl
  · rw [World.cell?_alloc_new]; kernel_rfl
  · rw [World.cell?_alloc_new]; kernel_rfl
  · rw [World.cell?_alloc_new, ringA32_at i hi]
    unfold zTo32; rw [if_neg (by omega)]
  · rw [World.cell?_alloc_new]; kernel_rfl
set_option maxHeartbeats 1000000 in
set_option maxRecDepth 20000 in
theorem newRing32_any (w : World) :
    Calls Tryz.prog 278 #[.int .u32 8380417, .int .u32 1753, .int .i64 1, .func (.func 279) #[] #[]] w fun e w' => e = .returned (.pointer (some ⟨w.heap.size, 0, none⟩)) ∧ w.grownBy w' none ∧ Rg32 w' w.heap.size zetG 8347681 := by
  have hR0 := ringA32_rg w 325
  have g0 := World.grownBy_alloc w (.cells ringA32 325) none
  go_enter Tryz.func278, Tryz.ntmps278
  go_wp2_with (first | (go_at_call 341; refine (len_256 _).mono ?_; rintro e w1 ⟨rfl, g1⟩))
  obtain ⟨b, hb⟩ : ∃ b, b = w.heap.size := ⟨_, rfl⟩
  rw [← hb] at hR0 ⊢
  have hR1 := hR0.new g1
  have hg1 := grownBy_trans g0 g1
  have hbw : w.heap.size ≤ b := by omega
  have HB := hid_of hb
  clear hR0 g0 g1 hb
  go_loopw [12, 13, 27] (fun pw _ i wr => ∃ e : Nat, e ≤ 256 ∧ pw = .int .u32 ((1753 ^ e % 8380417 : Nat) : Int) ∧ i = .int .i64 e ∧ w.grownBy wr none ∧ Rg32 wr b (zTo32 e) 0) (fun _ _ i _ => 256 - (intOf i).toNat)
  case atStart => exact ⟨0, by omega, rfl, rfl, hg1, hR1⟩
  case round =>
    clear hR1 hg1
    obtain ⟨e, he, rfl, rfl, hg, hR⟩ := hrel
    by_cases hlt : e < 256
    · have hrv := (revN32_lt e hlt).1
      have HS := hid_of (zTo32_step e hlt)
      have HPW := hid_of (pw32_step e)
      have hpl : 1753 ^ e % 8380417 < 8380417 := Nat.mod_lt _ (by omega)
      have HRV := hid_of (fun W => reversed_8 e W hlt)
      have eRV : rev8 e = revN32 e := rfl
      rw [eRV] at HRV
      generalize 1753 ^ e % 8380417 = p at *
      generalize revN32 e = rv at *
      clear eRV
      have e0 : (0 : Int) ≤ (e : Int) := by omega
      have e1 : (e : Int) < 256 := by omega
      have r0 : (0 : Int) ≤ (rv : Int) := by omega
      have r1 : (rv : Int) < 256 := by omega
      have hrv2 : rv < 256 := by omega
      go_wp2
      go_region_with (first | (go_at_call 342; refine (HRV.out _).mono ?_; rintro _ w2 ⟨rfl, g2⟩; have hR2 := hR.drew.new g2; have cc := (hR2.zetas rv hrv2).1; have ff := (hR2.zetas rv hrv2).2))
      all_goals (
        have hR3 := hR2.zet (i := rv) hrv2 (p : Int)
        have hg3 := grown_setNew (grownBy_trans (grown_drew hg) g2) (p := ⟨b, 3 + rv, none⟩) hbw (.int .u32 (p : Int))
        generalize w2.setCell ⟨b, 3 + rv, none⟩ (.int .u32 (p : Int)) = w3 at *
        clear cc ff hR2 g2
        have HT := hid_of (times32_any b _ _ p 1753 w3 hR3 hpl (by omega))
        go_wp2_with (first | (go_at_call 283; refine HT.out.mono ?_; rintro _ w' ⟨rfl, hw⟩; rw [hw]; clear hw w'))
        refine ⟨⟨e + 1, by omega, by rw [← HPW.out]; simp, by go_num, hg3, hR3.ext (fun i _ => HS.out i)⟩, by simp [intOf]; omega⟩)
    · have he2 : e = 256 := by omega
      subst he2
      have hI := hid_of (inverse32_any b _ _ wr hR)
      have cs := hR.scale.1
      have fs := hR.scale.2
      go_wp2_with (first | (go_at_call 344; refine hI.out.mono ?_; rintro _ w' ⟨rfl, hw⟩; rw [hw]; clear hw w'))
      go_ret
      rw [← HB.out]
      exact ⟨rfl, grown_setNew hg hbw _, (hR.sca 8347681).ext (fun i _ => zTo32_all i)⟩
set_option maxHeartbeats 400000 in
theorem ring32_any (w : World) :
    Calls Tryz.prog 191 #[] w fun e w' => e = .returned (.pointer (some ⟨w.heap.size, 0, none⟩)) ∧ w.grownBy w' none ∧ Rg32 w' w.heap.size zetG 8347681 := by
  go_enter Tryz.func191, Tryz.ntmps191
  go_wp2_with (first | (go_at_call 278; refine (newRing32_any _).mono ?_; rintro e w1 ⟨rfl, g1, hR1⟩))
  go_ret
  exact ⟨rfl, g1, hR1⟩
end Go.Proofs.YtkijpphmiogbbaaGreatDoor

namespace Go.Proofs.YtkijpphmiogbbaaGreatDoor
open Go.RowKit
attribute [local go_sem ↓] Go.wp_at_zero Go.wp_at_succ

theorem zet32_range (i : Nat) : 0 ≤ zetG i ∧ zetG i < 8380417 := by
  unfold zetG
  split
  · have := Nat.mod_lt (1753 ^ (rev8 i)) (show 0 < 8380417 by omega)
    omega
  · omega
def hidSt32 (p v : Value) := Instr.storeAt 166 p v
theorem st_hide32 (p v : Value) : Instr.storeAt 166 p v = hidSt32 p v := rfl
theorem run_hidSt32 (W : World) (b : Nat) (L M : Nat → Int) (hr : PRow .u32 W b 0 M) : (hidSt32 (.pointer (some ⟨b, 0, none⟩)) (.agg (polyA .u32 L))).run Tryz.prog W = .ok () (W.setCells b 0 (polyA .u32 L).toList) :=
  run_storeAt_mid W b 0 166 (polyA .u32 L) (hr.there .u32 L) (by rw [polyA_size]; exact Tryz.sQ32) (polyA_one .u32 L)

set_option maxHeartbeats 1000000 in
set_option maxRecDepth 20000 in
theorem fn32_forward (b n : Nat) (L : Nat → Int) (w : World) (hR : Rg32 w b zetG 8347681) (hr : PRow .u32 w n 0 L) (hL : ∀ i, i < 256 → 0 ≤ L i ∧ L i < 8380417) :
    Calls Tryz.prog 104 #[.pointer (some ⟨b, 0, none⟩), .slice (some ⟨n, 0, none⟩) 1 1] w fun e w' => e = .returned (.agg (polyA .u32 (fwdN 8380417 zetG 8 L))) ∧ w.grownBy w' none := by
  have n1 := new_alloc .u32 w (fun _ => 0) 166
  rw [← Tryz.zQ32] at n1
  have HC := hid_of32 (fwd32_any b zetG 8347681 L (w.alloc (.cells Tryz.zeroCells166 166)) (hR.new n1.g) (fun i _ => zet32_range i) hL)
  go_enter Tryz.func104, Tryz.ntmps104
  go_wp2_with (first | (refine wpL_load rfl .u32 166 _ rfl n 0 rfl _ (hr.new n1.g) Tryz.oQ32 Tryz.sQ32 ?_) | (go_at_call 193; refine HC.out.mono ?_; rintro e w3 ⟨rfl, g3⟩) | (refine wpL_store rfl .u32 166 _ _ rfl w.heap.size 0 rfl _ rfl .u32 _ (n1.r.new g3) Tryz.sQ32 ?_; intro w4 p4))
  refine bodyPost_ret (res1 rfl .u32 _ w4 w.heap.size _ rfl p4.r Tryz.oQ32 Tryz.sQ32) rfl ⟨rfl, grown_new (grownBy_trans n1.g g3) p4.g (Nat.le_refl _)⟩
section
attribute [local go_sem ↓] st_hide32
set_option maxHeartbeats 1000000 in
set_option maxRecDepth 20000 in
theorem modC32_forward (c n : Nat) (L : Nat → Int) (w : World) (hc : w.cell? ⟨c, 0, none⟩ = some (.func (.func 104) #[] #[])) (hr : PRow .u32 w n 0 L) (hL : ∀ i, i < 256 → 0 ≤ L i ∧ L i < 8380417) :
    Calls Tryz.prog 190 #[.slice (some ⟨n, 0, none⟩) 1 1, .pointer (some ⟨c, 0, none⟩)] w fun e w' => e = .returned (.agg (polyA .u32 (fwdN 8380417 zetG 8 L))) ∧ w.grownBy w' none := by
  have n1 := new_alloc .u32 w (fun _ => 0) 166
  rw [← Tryz.zQ32] at n1
  have hc1 := n1.g.cell hc (by simp)
  have HL := hid_of32 hL
  go_enter Tryz.func190, Tryz.ntmps190
  go_wp2_with fail
  generalize w.alloc (.cells Tryz.zeroCells166 166) = w1 at *
  have g1 := n1.g
  have r1 := n1.r
  have hr1 := hr.new g1
  clear n1 hc hL
  go_region_with (first | (go_at_call 191; refine (ring32_any _).mono ?_; rintro e w5 ⟨rfl, g5, hR5⟩; have hc5 := g5.cell hc1 (by simp); have hR6 : Rg32 w5 w1.heap.size zetG 8347681 := hR5; have hr5 := hr1.drew.new g5; have z5 := r1.drew.new g5; clear hR5) | (go_at_call 104; refine (fn32_forward w1.heap.size n L w5 hR6 hr5 HL.out).mono ?_; rintro e w6 ⟨rfl, g6⟩; have st := run_hidSt32 w6 w.heap.size (fwdN 8380417 zetG 8 L) _ (z5.new g6)))
  all_goals (
    have p6 := put_cells .u32 w6 w.heap.size 0 (fwdN 8380417 zetG 8 L) ((z5.new g6).there .u32 _)
    have g7 := grown_new (grownBy_trans (grown_drew g1) (grownBy_trans g5 g6)) p6.g (Nat.le_refl _)
    generalize w6.setCells w.heap.size 0 (polyA .u32 (fwdN 8380417 zetG 8 L)).toList = w7 at *
    clear st
    go_wp2
    refine bodyPost_ret (res1 rfl .u32 _ w7 w.heap.size _ rfl p6.r Tryz.oQ32 Tryz.sQ32) rfl ⟨rfl, g7⟩)
end

set_option maxHeartbeats 1000000 in
set_option maxRecDepth 20000 in
theorem fn32_inverse (b n : Nat) (L : Nat → Int) (w : World) (hR : Rg32 w b zetG 8347681) (hr : PRow .u32 w n 0 L) (hL : ∀ i, i < 256 → 0 ≤ L i ∧ L i < 8380417) :
    Calls Tryz.prog 106 #[.pointer (some ⟨b, 0, none⟩), .slice (some ⟨n, 0, none⟩) 1 1] w fun e w' => e = .returned (.agg (polyA .u32 (fun i => invN 8380417 zetG 8 L i * 8347681 % 8380417))) ∧ w.grownBy w' none := by
  have n1 := new_alloc .u32 w (fun _ => 0) 166
  rw [← Tryz.zQ32] at n1
  have HC := hid_of32 (inv32_any b zetG 8347681 L (w.alloc (.cells Tryz.zeroCells166 166)) (hR.new n1.g) (by omega) (fun i _ => zet32_range i) hL)
  go_enter Tryz.func106, Tryz.ntmps106
  go_wp2_with (first | (refine wpL_load rfl .u32 166 _ rfl n 0 rfl _ (hr.new n1.g) Tryz.oQ32 Tryz.sQ32 ?_) | (go_at_call 195; refine HC.out.mono ?_; rintro e w3 ⟨rfl, g3⟩) | (refine wpL_store rfl .u32 166 _ _ rfl w.heap.size 0 rfl _ rfl .u32 _ (n1.r.new g3) Tryz.sQ32 ?_; intro w4 p4))
  refine bodyPost_ret (res1 rfl .u32 _ w4 w.heap.size _ rfl p4.r Tryz.oQ32 Tryz.sQ32) rfl ⟨rfl, grown_new (grownBy_trans n1.g g3) p4.g (Nat.le_refl _)⟩
section
attribute [local go_sem ↓] st_hide32
set_option maxHeartbeats 1000000 in
set_option maxRecDepth 20000 in
theorem modC32_inverse (c n : Nat) (L : Nat → Int) (w : World) (hc : w.cell? ⟨c, 0, none⟩ = some (.func (.func 106) #[] #[])) (hr : PRow .u32 w n 0 L) (hL : ∀ i, i < 256 → 0 ≤ L i ∧ L i < 8380417) :
    Calls Tryz.prog 190 #[.slice (some ⟨n, 0, none⟩) 1 1, .pointer (some ⟨c, 0, none⟩)] w fun e w' => e = .returned (.agg (polyA .u32 (fun i => invN 8380417 zetG 8 L i * 8347681 % 8380417))) ∧ w.grownBy w' none := by
  have n1 := new_alloc .u32 w (fun _ => 0) 166
  rw [← Tryz.zQ32] at n1
  have hc1 := n1.g.cell hc (by simp)
  have HL := hid_of32 hL
  go_enter Tryz.func190, Tryz.ntmps190
  go_wp2_with fail
  generalize w.alloc (.cells Tryz.zeroCells166 166) = w1 at *
  have g1 := n1.g
  have r1 := n1.r
  have hr1 := hr.new g1
  clear n1 hc hL
  go_region_with (first | (go_at_call 191; refine (ring32_any _).mono ?_; rintro e w5 ⟨rfl, g5, hR5⟩; have hc5 := g5.cell hc1 (by simp); have hR6 : Rg32 w5 w1.heap.size zetG 8347681 := hR5; have hr5 := hr1.drew.new g5; have z5 := r1.drew.new g5; clear hR5) | (go_at_call 106; refine (fn32_inverse w1.heap.size n L w5 hR6 hr5 HL.out).mono ?_; rintro e w6 ⟨rfl, g6⟩; have st := run_hidSt32 w6 w.heap.size (fun i => invN 8380417 zetG 8 L i * 8347681 % 8380417) _ (z5.new g6)))
  all_goals (
    have p6 := put_cells .u32 w6 w.heap.size 0 (fun i => invN 8380417 zetG 8 L i * 8347681 % 8380417) ((z5.new g6).there .u32 _)
    have g7 := grown_new (grownBy_trans (grown_drew g1) (grownBy_trans g5 g6)) p6.g (Nat.le_refl _)
    generalize w6.setCells w.heap.size 0 (polyA .u32 (fun i => invN 8380417 zetG 8 L i * 8347681 % 8380417)).toList = w7 at *
    clear st
    go_wp2
    refine bodyPost_ret (res1 rfl .u32 _ w7 w.heap.size _ rfl p6.r Tryz.oQ32 Tryz.sQ32) rfl ⟨rfl, g7⟩)
end
end Go.Proofs.YtkijpphmiogbbaaGreatDoor
