import Derived.Test.YtkijpphmiogbbaaGreatDoorK36
import Derived.Laws.IdiomCopy
namespace Go.Proofs.YtkijpphmiogbbaaGreatDoor
open Go.RowKit
attribute [local go_sem ↓] Go.wp_at_zero Go.wp_at_succ

theorem sl0 (b : Nat) (W : World) : (Instr.sliceAt 145 (.pointer (some ⟨b, 0, none⟩)) (some (.int .i64 0)) (some (.int .i64 5)) none).run Tryz.prog W = .ok (.slice (some ⟨b, 0, none⟩) 5 25) W := by kernel_rfl
theorem sl1 (b : Nat) (W : World) : (Instr.sliceAt 145 (.pointer (some ⟨b, 0, none⟩)) (some (.int .i64 5)) (some (.int .i64 10)) none).run Tryz.prog W = .ok (.slice (some ⟨b, 5, none⟩) 5 20) W := by kernel_rfl
theorem sl2 (b : Nat) (W : World) : (Instr.sliceAt 145 (.pointer (some ⟨b, 0, none⟩)) (some (.int .i64 10)) (some (.int .i64 15)) none).run Tryz.prog W = .ok (.slice (some ⟨b, 10, none⟩) 5 15) W := by kernel_rfl
theorem sl3 (b : Nat) (W : World) : (Instr.sliceAt 145 (.pointer (some ⟨b, 0, none⟩)) (some (.int .i64 15)) (some (.int .i64 20)) none).run Tryz.prog W = .ok (.slice (some ⟨b, 15, none⟩) 5 10) W := by kernel_rfl
theorem sl4 (b : Nat) (W : World) : (Instr.sliceAt 145 (.pointer (some ⟨b, 0, none⟩)) (some (.int .i64 20)) (some (.int .i64 25)) none).run Tryz.prog W = .ok (.slice (some ⟨b, 20, none⟩) 5 5) W := by kernel_rfl
theorem run_sl (b k y : Nat) (hk : k < 5) (hy : y = 5 * k) (W : World) :
    (Instr.sliceAt 145 (.pointer (some ⟨b, 0, none⟩)) (some (.int .i64 (y : Int))) (some (.int .i64 ((y : Int) + 5))) none).run Tryz.prog W = .ok (.slice (some ⟨b, y, none⟩) 5 (25 - y)) W := by
  have h : k = 0 ∨ k = 1 ∨ k = 2 ∨ k = 3 ∨ k = 4 := by omega
  subst hy
  rcases h with rfl | rfl | rfl | rfl | rfl
  · exact sl0 b W
  · exact sl1 b W
  · exact sl2 b W
  · exact sl3 b W
  · exact sl4 b W
theorem sl80 (h : Nat) (W : World) : (Instr.sliceAt 303 (.pointer (some ⟨h, 0, none⟩)) none none none).run Tryz.prog W = .ok (.slice (some ⟨h, 0, none⟩) 5 5) W := by kernel_rfl
theorem Tryz.under51 : Tryz.prog.underlying 302 = some (.slice 143) := by kernel_rfl
theorem Tryz.size35 : (Tryz.prog.info? 143).map (·.size) = some 1 := by kernel_rfl

theorem run_cp (b h y c : Nat) (L R : Nat → Int) (w wr : World) (hy : y + 5 ≤ 25) (hb : b < w.heap.size) (hh : w.heap.size ≤ h) (hK : Keep b w wr) (hR : Row wr b 25 L) (hS : Row wr h 5 R) :
    ∃ W1, (Builtin.copy_ #[302, 302] 3 #[.slice (some ⟨h, 0, none⟩) 5 5, .slice (some ⟨b, y, none⟩) 5 c]).run Tryz.prog wr.drew = .ok (.int .i64 5) W1 ∧ Keep b w W1 ∧ Row W1 b 25 L ∧ Row W1 h 5 (fun i => L (y + i)) := by
  have hrun := run_copy_cells (P := Tryz.prog) wr.drew 302 302 3 143 h 0 5 5 ⟨b, y, none⟩ 5 c [.int .u64 (L y), .int .u64 (L (y + 1)), .int .u64 (L (y + 2)), .int .u64 (L (y + 3)), .int .u64 (L (y + 4))] Tryz.under51 Tryz.size35 rfl
    (by
      intro j v hv
      have hadd : (⟨b, y, none⟩ : Addr).add j = ⟨b, y + j, none⟩ := by unfold Addr.add; split <;> simp_all
      rw [hadd, World.cell?_drew]
      have hj : j < 5 := by
        rcases Nat.lt_or_ge j 5 with h1 | h1
        · exact h1
        · rw [List.getElem?_eq_none (by simpa using h1)] at hv; cases hv
      rw [(hR (y + j) (by omega)).1]
      match j, hj with
      | 0, _ => exact hv
      | 1, _ => exact hv
      | 2, _ => exact hv
      | 3, _ => exact hv
      | 4, _ => exact hv)
    (by intro j hj; rw [World.cell?_drew, Nat.zero_add, (hS j (by simpa using hj)).1]; rfl)
    (by intro j hj; rw [Nat.zero_add]; exact (hS j (by simpa using hj)).2)
    (by intro v hv; simp at hv; rcases hv with rfl | rfl | rfl | rfl | rfl <;> rfl)
  refine ⟨_, hrun, ?_, ?_, ?_⟩
  · simp only [World.setCells]
    refine (((((hK.drew.set_new ?_ hb _).set_new ?_ hb _).set_new ?_ hb _).set_new ?_ hb _).set_new ?_ hb _) <;> exact hh
  · simp only [World.setCells]
    refine (((((hR.drew.set_other ?_ _).set_other ?_ _).set_other ?_ _).set_other ?_ _).set_other ?_ _) <;> (simp; omega)
  · simp only [World.setCells]
    refine ((((((hS.drew.set (i := 0) (by omega) _).set (i := 1) (by omega) _).set (i := 2) (by omega) _).set (i := 3) (by omega) _).set (i := 4) (by omega) _)).ext ?_
    intro j hj
    match j, hj with
    | 0, _ => rfl
    | 1, _ => rfl
    | 2, _ => rfl
    | 3, _ => rfl
    | 4, _ => rfl

abbrev chiI (a p q : Int) : Int := bits BinOp.xor IntKind.u64 a (bits BinOp.and IntKind.u64 (bits BinOp.xor IntKind.u64 IntKind.u64.max p) q)
def mixRowsF (L : Nat → Int) : Nat → Int := fun j => chiI (L j) (L (j / 5 * 5 + (j + 1) % 5)) (L (j / 5 * 5 + (j + 2) % 5))
def rowsTo (L : Nat → Int) (k : Nat) : Nat → Int := fun j => if j < 5 * k then mixRowsF L j else L j
theorem rowsTo_ge (L : Nat → Int) (k j : Nat) (h : 5 * k ≤ j) : rowsTo L k j = L j := by unfold rowsTo; rw [if_neg (by omega)]
theorem rowsTo_zero (L : Nat → Int) (j : Nat) : rowsTo L 0 j = L j := rowsTo_ge L 0 j (by omega)
theorem rowsTo_all (L : Nat → Int) (j : Nat) (h : j < 25) : rowsTo L 5 j = mixRowsF L j := by unfold rowsTo; rw [if_pos (by omega)]
theorem rowsTo_step (L : Nat → Int) (k y j : Nat) (hy : y = 5 * k) :
    upd (upd (upd (upd (upd (rowsTo L k) y (chiI (L y) (L (y + 1)) (L (y + 2)))) (y + 1) (chiI (L (y + 1)) (L (y + 2)) (L (y + 3)))) (y + 2) (chiI (L (y + 2)) (L (y + 3)) (L (y + 4)))) (y + 3) (chiI (L (y + 3)) (L (y + 4)) (L y))) (y + 4) (chiI (L (y + 4)) (L y) (L (y + 1))) j = rowsTo L (k + 1) j := by
  subst hy
  by_cases h4 : j = 5 * k + 4
  · subst h4; rw [upd_same]; unfold rowsTo mixRowsF; rw [if_pos (by omega), show (5 * k + 4) / 5 * 5 + (5 * k + 4 + 1) % 5 = 5 * k by omega, show (5 * k + 4) / 5 * 5 + (5 * k + 4 + 2) % 5 = 5 * k + 1 by omega]
  rw [upd_ne _ _ _ _ h4]
  by_cases h3 : j = 5 * k + 3
  · subst h3; rw [upd_same]; unfold rowsTo mixRowsF; rw [if_pos (by omega), show (5 * k + 3) / 5 * 5 + (5 * k + 3 + 1) % 5 = 5 * k + 4 by omega, show (5 * k + 3) / 5 * 5 + (5 * k + 3 + 2) % 5 = 5 * k by omega]
  rw [upd_ne _ _ _ _ h3]
  by_cases h2 : j = 5 * k + 2
  · subst h2; rw [upd_same]; unfold rowsTo mixRowsF; rw [if_pos (by omega), show (5 * k + 2) / 5 * 5 + (5 * k + 2 + 1) % 5 = 5 * k + 3 by omega, show (5 * k + 2) / 5 * 5 + (5 * k + 2 + 2) % 5 = 5 * k + 4 by omega]
  rw [upd_ne _ _ _ _ h2]
  by_cases h1 : j = 5 * k + 1
  · subst h1; rw [upd_same]; unfold rowsTo mixRowsF; rw [if_pos (by omega), show (5 * k + 1) / 5 * 5 + (5 * k + 1 + 1) % 5 = 5 * k + 2 by omega, show (5 * k + 1) / 5 * 5 + (5 * k + 1 + 2) % 5 = 5 * k + 3 by omega]
  rw [upd_ne _ _ _ _ h1]
  by_cases h0 : j = 5 * k
  · subst h0; rw [upd_same]; unfold rowsTo mixRowsF; rw [if_pos (by omega), show 5 * k / 5 * 5 + (5 * k + 1) % 5 = 5 * k + 1 by omega, show 5 * k / 5 * 5 + (5 * k + 2) % 5 = 5 * k + 2 by omega]
  rw [upd_ne _ _ _ _ h0]
  unfold rowsTo
  by_cases h : j < 5 * k
  · rw [if_pos h, if_pos (by omega)]
  · rw [if_neg h, if_neg (by omega)]

set_option maxHeartbeats 4000000 in
set_option maxRecDepth 10000 in
theorem mixRows_any (b : Nat) (L : Nat → Int) (w : World) (hL : Row w b 25 L) :
    Calls Tryz.prog 340 #[.pointer (some ⟨b, 0, none⟩)] w fun e w' => e = .returned (.tuple #[]) ∧ Keep b w w' ∧ Row w' b 25 (mixRowsF L) := by
  have hb := hL.lt (by omega)
  go_enter Tryz.func340, Tryz.ntmps340
  go_wp2
  go_loopw [3] (fun i wr => ∃ k y : Nat, k ≤ 5 ∧ y = 5 * k ∧ i = .int .i64 y ∧ Keep b w wr ∧ Row wr b 25 (rowsTo L k) ∧ ∃ R, Row wr w.heap.size 5 R) (fun i _ => 25 - (intOf i).toNat)
  case atStart =>
    refine ⟨0, 0, by omega, rfl, rfl, (Keep.refl b w).alloc hb _, (hL.alloc _).ext (fun j _ => (rowsTo_zero L j).symm), fun _ => 0, ?_⟩
    intro j hj
    refine ⟨?_, World.frozen?_alloc_at _ _ _ _ rfl⟩
    rw [World.cell?_alloc_new]
    match j, hj with
    | 0, _ => rfl
    | 1, _ => rfl
    | 2, _ => rfl
    | 3, _ => rfl
    | 4, _ => rfl
  case round =>
    obtain ⟨k, y, hk, hy, rfl, hK, hR, R, hS⟩ := hrel
    by_cases hlt : y < 25
    · have b0 : (0 : Int) ≤ (y : Int) := by omega
      have b1 : (y : Int) < 25 := by omega
      have w1 : IntKind.i64.wrap ((y : Int) + 5) = (y : Int) + 5 := by rw [IntKind.wrap_i64] <;> omega
      have h1 := run_sl b k y (by omega) hy
      have HY : Hid (y = 5 * k) := hy
      clear hy
      have h2 := sl80 w.heap.size
      obtain ⟨W1, h3, hK1, hR1, hS1⟩ := run_cp b w.heap.size y (25 - y) (rowsTo L k) R w wr (by have := HY.out; omega) hb (Nat.le_refl _) hK hR hS
      have hne : ¬ w.heap.size = b := by omega
      have hne' : ¬ b = w.heap.size := by omega
      clear hK hR hS
      go_wp2
      go_region
      clear h1 h2 h3 w1
      go_wp2
      have c0 : W1.cell? ⟨b, y, none⟩ = some (.int .u64 (L y)) := by rw [(hR1 y (by have := HY.out; omega)).1, rowsTo_ge L k y (by have := HY.out; omega)]
      have f0 := (hR1 y (by have := HY.out; omega)).2
      have r1 : W1.cell? ⟨w.heap.size, 1, none⟩ = some (.int .u64 (L (y + 1))) := by rw [← rowsTo_ge L k (y + 1) (by have := HY.out; omega)]; exact (hS1 1 (by omega)).1
      have r2 : W1.cell? ⟨w.heap.size, 2, none⟩ = some (.int .u64 (L (y + 2))) := by rw [← rowsTo_ge L k (y + 2) (by have := HY.out; omega)]; exact (hS1 2 (by omega)).1
      go_region
      go_wp2
      obtain ⟨W2, hW⟩ : ∃ W, W = (W1.setCell ⟨b, y, none⟩ (.int .u64 (chiI (L y) (L (y + 1)) (L (y + 2))))).drew := ⟨_, rfl⟩
      rw [← hW]
      have hK2 : Keep b w W2 := by rw [hW]; exact (hK1.set (i := y) (by have := HY.out; omega) _).drew
      have hR2 := (hR1.set (i := y) (by have := HY.out; omega) (chiI (L y) (L (y + 1)) (L (y + 2)))).drew
      rw [← hW] at hR2
      have hS2 := (hS1.set_other (p := ⟨b, y, none⟩) hne' (.int .u64 (chiI (L y) (L (y + 1)) (L (y + 2))))).drew
      rw [← hW] at hS2
      clear hW hK1 hR1 hS1 c0 f0 r1 r2
      have w11 : IntKind.i64.wrap ((y : Int) + 1) = (y : Int) + 1 := by rw [IntKind.wrap_i64] <;> omega
      have t11 : ((y : Int) + 1).toNat = y + 1 := by omega
      have b11 : (0 : Int) ≤ (y : Int) + 1 := by omega
      have b21 : (y : Int) + 1 < 25 := by have := HY.out; omega
      have c1 : W2.cell? ⟨b, y + 1, none⟩ = some (.int .u64 (L (y + 1))) := by rw [(hR2 (y + 1) (by have := HY.out; omega)).1, upd_ne _ _ _ _ (show y + 1 ≠ y by omega), rowsTo_ge L k (y + 1) (by have := HY.out; omega)]
      have f1 := (hR2 (y + 1) (by have := HY.out; omega)).2
      have r2 : W2.cell? ⟨w.heap.size, 2, none⟩ = some (.int .u64 (L (y + 2))) := by rw [← rowsTo_ge L k (y + 2) (by have := HY.out; omega)]; exact (hS2 2 (by omega)).1
      have r3 : W2.cell? ⟨w.heap.size, 3, none⟩ = some (.int .u64 (L (y + 3))) := by rw [← rowsTo_ge L k (y + 3) (by have := HY.out; omega)]; exact (hS2 3 (by omega)).1
      go_region
      go_wp2
      obtain ⟨W3, hW⟩ : ∃ W, W = (W2.setCell ⟨b, y + 1, none⟩ (.int .u64 (chiI (L (y + 1)) (L (y + 2)) (L (y + 3))))).drew := ⟨_, rfl⟩
      rw [← hW]
      have hK3 : Keep b w W3 := by rw [hW]; exact (hK2.set (i := y + 1) (by have := HY.out; omega) _).drew
      have hR3 := (hR2.set (i := y + 1) (by have := HY.out; omega) (chiI (L (y + 1)) (L (y + 2)) (L (y + 3)))).drew
      rw [← hW] at hR3
      have hS3 := (hS2.set_other (p := ⟨b, y + 1, none⟩) hne' (.int .u64 (chiI (L (y + 1)) (L (y + 2)) (L (y + 3))))).drew
      rw [← hW] at hS3
      clear hW hK2 hR2 hS2 c1 f1 r2 r3 w11 t11 b11 b21
      have w12 : IntKind.i64.wrap ((y : Int) + 2) = (y : Int) + 2 := by rw [IntKind.wrap_i64] <;> omega
      have t12 : ((y : Int) + 2).toNat = y + 2 := by omega
      have b12 : (0 : Int) ≤ (y : Int) + 2 := by omega
      have b22 : (y : Int) + 2 < 25 := by have := HY.out; omega
      have c2 : W3.cell? ⟨b, y + 2, none⟩ = some (.int .u64 (L (y + 2))) := by rw [(hR3 (y + 2) (by have := HY.out; omega)).1, upd_ne _ _ _ _ (show y + 2 ≠ y + 1 by omega), upd_ne _ _ _ _ (show y + 2 ≠ y by omega), rowsTo_ge L k (y + 2) (by have := HY.out; omega)]
      have f2 := (hR3 (y + 2) (by have := HY.out; omega)).2
      have r3 : W3.cell? ⟨w.heap.size, 3, none⟩ = some (.int .u64 (L (y + 3))) := by rw [← rowsTo_ge L k (y + 3) (by have := HY.out; omega)]; exact (hS3 3 (by omega)).1
      have r4 : W3.cell? ⟨w.heap.size, 4, none⟩ = some (.int .u64 (L (y + 4))) := by rw [← rowsTo_ge L k (y + 4) (by have := HY.out; omega)]; exact (hS3 4 (by omega)).1
      go_region
      go_wp2
      obtain ⟨W4, hW⟩ : ∃ W, W = (W3.setCell ⟨b, y + 2, none⟩ (.int .u64 (chiI (L (y + 2)) (L (y + 3)) (L (y + 4))))).drew := ⟨_, rfl⟩
      rw [← hW]
      have hK4 : Keep b w W4 := by rw [hW]; exact (hK3.set (i := y + 2) (by have := HY.out; omega) _).drew
      have hR4 := (hR3.set (i := y + 2) (by have := HY.out; omega) (chiI (L (y + 2)) (L (y + 3)) (L (y + 4)))).drew
      rw [← hW] at hR4
      have hS4 := (hS3.set_other (p := ⟨b, y + 2, none⟩) hne' (.int .u64 (chiI (L (y + 2)) (L (y + 3)) (L (y + 4))))).drew
      rw [← hW] at hS4
      clear hW hK3 hR3 hS3 c2 f2 r3 r4 w12 t12 b12 b22
      have w13 : IntKind.i64.wrap ((y : Int) + 3) = (y : Int) + 3 := by rw [IntKind.wrap_i64] <;> omega
      have t13 : ((y : Int) + 3).toNat = y + 3 := by omega
      have b13 : (0 : Int) ≤ (y : Int) + 3 := by omega
      have b23 : (y : Int) + 3 < 25 := by have := HY.out; omega
      have c3 : W4.cell? ⟨b, y + 3, none⟩ = some (.int .u64 (L (y + 3))) := by rw [(hR4 (y + 3) (by have := HY.out; omega)).1, upd_ne _ _ _ _ (show y + 3 ≠ y + 2 by omega), upd_ne _ _ _ _ (show y + 3 ≠ y + 1 by omega), upd_ne _ _ _ _ (show y + 3 ≠ y by omega), rowsTo_ge L k (y + 3) (by have := HY.out; omega)]
      have f3 := (hR4 (y + 3) (by have := HY.out; omega)).2
      have r4 : W4.cell? ⟨w.heap.size, 4, none⟩ = some (.int .u64 (L (y + 4))) := by rw [← rowsTo_ge L k (y + 4) (by have := HY.out; omega)]; exact (hS4 4 (by omega)).1
      have r0 : W4.cell? ⟨w.heap.size, 0, none⟩ = some (.int .u64 (L y)) := by rw [← rowsTo_ge L k y (by have := HY.out; omega)]; exact (hS4 0 (by omega)).1
      go_region
      go_wp2
      obtain ⟨W5, hW⟩ : ∃ W, W = (W4.setCell ⟨b, y + 3, none⟩ (.int .u64 (chiI (L (y + 3)) (L (y + 4)) (L y)))).drew := ⟨_, rfl⟩
      rw [← hW]
      have hK5 : Keep b w W5 := by rw [hW]; exact (hK4.set (i := y + 3) (by have := HY.out; omega) _).drew
      have hR5 := (hR4.set (i := y + 3) (by have := HY.out; omega) (chiI (L (y + 3)) (L (y + 4)) (L y))).drew
      rw [← hW] at hR5
      have hS5 := (hS4.set_other (p := ⟨b, y + 3, none⟩) hne' (.int .u64 (chiI (L (y + 3)) (L (y + 4)) (L y)))).drew
      rw [← hW] at hS5
      clear hW hK4 hR4 hS4 c3 f3 r4 r0 w13 t13 b13 b23
      have w14 : IntKind.i64.wrap ((y : Int) + 4) = (y : Int) + 4 := by rw [IntKind.wrap_i64] <;> omega
      have t14 : ((y : Int) + 4).toNat = y + 4 := by omega
      have b14 : (0 : Int) ≤ (y : Int) + 4 := by omega
      have b24 : (y : Int) + 4 < 25 := by have := HY.out; omega
      have c4 : W5.cell? ⟨b, y + 4, none⟩ = some (.int .u64 (L (y + 4))) := by rw [(hR5 (y + 4) (by have := HY.out; omega)).1, upd_ne _ _ _ _ (show y + 4 ≠ y + 3 by omega), upd_ne _ _ _ _ (show y + 4 ≠ y + 2 by omega), upd_ne _ _ _ _ (show y + 4 ≠ y + 1 by omega), upd_ne _ _ _ _ (show y + 4 ≠ y by omega), rowsTo_ge L k (y + 4) (by have := HY.out; omega)]
      have f4 := (hR5 (y + 4) (by have := HY.out; omega)).2
      have r0 : W5.cell? ⟨w.heap.size, 0, none⟩ = some (.int .u64 (L y)) := by rw [← rowsTo_ge L k y (by have := HY.out; omega)]; exact (hS5 0 (by omega)).1
      have r1 : W5.cell? ⟨w.heap.size, 1, none⟩ = some (.int .u64 (L (y + 1))) := by rw [← rowsTo_ge L k (y + 1) (by have := HY.out; omega)]; exact (hS5 1 (by omega)).1
      go_region
      go_wp2
      obtain ⟨W6, hW⟩ : ∃ W, W = (W5.setCell ⟨b, y + 4, none⟩ (.int .u64 (chiI (L (y + 4)) (L y) (L (y + 1))))).drew := ⟨_, rfl⟩
      rw [← hW]
      have hK6 : Keep b w W6 := by rw [hW]; exact (hK5.set (i := y + 4) (by have := HY.out; omega) _).drew
      have hR6 := (hR5.set (i := y + 4) (by have := HY.out; omega) (chiI (L (y + 4)) (L y) (L (y + 1)))).drew
      rw [← hW] at hR6
      have hS6 := (hS5.set_other (p := ⟨b, y + 4, none⟩) hne' (.int .u64 (chiI (L (y + 4)) (L y) (L (y + 1))))).drew
      rw [← hW] at hS6
      clear hW hK5 hR5 hS5 c4 f4 r0 r1 w14 t14 b14 b24
      go_roundw
      case rel => exact ⟨k + 1, y + 5, by have := HY.out; omega, by have := HY.out; omega, by go_num, hK6, hR6.ext (fun j _ => rowsTo_step L k y j HY.out), _, hS6⟩
      case measure => simp [intOf]; omega
    · have hk5 : k = 5 := by omega
      subst hk5
      go_wp2
      go_end0
      exact ⟨rfl, hK, hR.ext (fun j hj => rowsTo_all L j hj)⟩
end Go.Proofs.YtkijpphmiogbbaaGreatDoor
