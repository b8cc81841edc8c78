import Derived.Test.YtkijpphmiogbbaaGreatDoorH46
namespace Go.Proofs.YtkijpphmiogbbaaGreatDoor
open Go.RowKit
attribute [local go_sem ↓] Go.wp_at_zero Go.wp_at_succ

theorem grown_p {w1 w2 : World} (h : w1.grownBy w2 none) (p i j : Nat) (u v : Value) : w1.grownBy ((w2.setCell ⟨p, i, none⟩ u).setCell ⟨p, j, none⟩ v) (some p) :=
  ⟨h.os, h.tape, h.output, by simpa using h.size, fun k hk hr => by
    have hkp : k ≠ p := fun e => hr (by rw [e])
    rw [Below.heap_setCell _ _ _ _ hkp, Below.heap_setCell _ _ _ _ hkp]
    exact h.block k hk (by simp)⟩
theorem did_squeeze (r : St) (n : Nat) (hn : n ≤ 10000) {w w1 w2 : World} (HH : StAt w r) (HG : w.grownBy w1 (some r.b)) (HG2 : w1.grownBy w2 none) (HB : w1.heap[r.p]? = some (.cells #[.pointer (some ⟨r.b, 0, none⟩), .int .i64 (128 + 128 * (r.k : Int)), .string r.s, .bool r.sp, .int .i64 (r.a : Int)] 85)) (HS : Sp w1 r.b (sqTo (stF r.k r.s.data.toList) (r.a + n))) :
    ∃ r', Did 20000 r r' w ((w2.setCell ⟨r.p, 3, none⟩ (.bool true)).setCell ⟨r.p, 4, none⟩ (.int .i64 ((r.a : Int) + (n : Int)))) := by
  refine ⟨⟨r.p, r.b, r.k, r.s, true, r.a + n⟩, ((two_of HG).trans (two_new HG2)).trans ((two_set _ _ _).trans (two_set _ _ _)), ⟨?_, ?_, HH.k, HH.b4, HH.pb, fun h => by cases h⟩, rfl, rfl, Nat.le_add_right _ _, by show r.a + n ≤ r.a + 20000; omega⟩
  · have hlt := (Array.getElem?_eq_some_iff.1 HB).1
    have h2 := heap_set5 (i := 4) (v := .int .i64 ((r.a : Int) + (n : Int))) (heap_set5 (i := 3) (v := .bool true) ((HG2.block r.p hlt (by simp)).trans HB))
    rw [← Int.natCast_add] at h2
    exact h2
  · have e9 : stS r.k r.s.data.toList true (r.a + n) = sqTo (stF r.k r.s.data.toList) (r.a + n) := by unfold stS; rw [if_pos rfl]
    show Sp _ r.b (stS r.k r.s.data.toList true (r.a + n))
    rw [e9]
    exact HS.far (grown_p HG2 _ _ _ _ _) (Ne.symm HH.pb)
set_option maxHeartbeats 4000000 in
set_option maxRecDepth 10000 in
theorem squeezed_ok (r : St) (n : Nat) (hn : n ≤ 10000) (hrs : r.s.size ≤ 1000000000) (hra : r.a ≤ 1000000000) (w : World) (h : StAt w r) (hG : Globs w) :
    Calls Tryz.prog 26 #[.pointer (some ⟨r.p, 0, none⟩), .int .i64 n] w fun e w' => e = .returned (.bool true) ∧ ∃ r', Did 20000 r r' w w' := by
  have c0 : w.cell? ⟨r.p, 0, none⟩ = some (.pointer (some ⟨r.b, 0, none⟩)) := h.c 0 _ rfl
  have c1 : w.cell? ⟨r.p, 1, none⟩ = some (.int .i64 (128 + 128 * (r.k : Int))) := h.c 1 _ rfl
  have c2 : w.cell? ⟨r.p, 2, none⟩ = some (.string r.s) := h.c 2 _ rfl
  have c3 : w.cell? ⟨r.p, 3, none⟩ = some (.bool r.sp) := h.c 3 _ rfl
  have c4 : w.cell? ⟨r.p, 4, none⟩ = some (.int .i64 (r.a : Int)) := h.c 4 _ rfl
  obtain ⟨hrd, hsq, hout⟩ := st_ready r w h
  have hsk : ∀ W, Calls Tryz.prog 48 #[.int .i64 (128 + 128 * (r.k : Int)), .string r.s, .int .i64 ((r.a : Int) + (n : Int))] W fun e w' => e = .returned (.string (outStr (stF r.k r.s.data.toList) (r.a + n))) ∧ W.grownBy w' none := fun W => by
    have := shake_any r.k h.k r.s (by omega) (r.a + n) (by omega) W
    rw [Int.natCast_add] at this
    exact this
  have hrest := out_rest (stF r.k r.s.data.toList) r.a n
  have hXs := outStr_size (stF r.k r.s.data.toList) (r.a + n)
  rw [← hout n] at hrest
  have hsqz := squeeze_any r.b h.b4 n hn _ hrd w h.sp hG
  rw [hsq] at hsqz
  obtain ⟨X, hX⟩ : ∃ X, X = outStr (stF r.k r.s.data.toList) (r.a + n) := ⟨_, rfl⟩
  obtain ⟨Y, hY⟩ : ∃ Y, Y = outStr (ended (stS r.k r.s.data.toList r.sp r.a)) n := ⟨_, rfl⟩
  rw [← hX] at hrest hXs hsk
  rw [← hY] at hrest hsqz
  have HK : Hid (∀ W, Calls Tryz.prog 48 #[.int .i64 (128 + 128 * (r.k : Int)), .string r.s, .int .i64 ((r.a : Int) + (n : Int))] W fun e w' => e = .returned (.string X) ∧ W.grownBy w' none) := hsk
  have HQ : Hid (Calls Tryz.prog 47 #[.pointer (some ⟨r.b, 0, none⟩), .int .i64 n] w fun e w' => e = .returned (.tuple #[.string Y, .nilIface]) ∧ w.grownBy w' (some r.b) ∧ Sp w' r.b (sqTo (stF r.k r.s.data.toList) (r.a + n))) := hsqz
  have HH : Hid (StAt w r) := h
  have hpl := h.plt
  have hpb := h.pb
  have f3 := h.fz 3
  have f4 := h.fz 4
  have n0 : (0 : Int) ≤ (n : Int) := Int.natCast_nonneg n
  have n1 : (n : Int) ≤ 10000 := by omega
  have a0 : (0 : Int) ≤ (r.a : Int) := Int.natCast_nonneg r.a
  have a1 : (r.a : Int) ≤ 1000000000 := by omega
  have ww : IntKind.i64.wrap ((r.a : Int) + (n : Int)) = (r.a : Int) + (n : Int) := by rw [IntKind.wrap_i64] <;> omega
  have xs : (X.size : Int) = (r.a : Int) + (n : Int) := by rw [hXs]; omega
  clear h hsk hsqz hX hY hout hsq hrd
  go_enter Tryz.func26, Tryz.ntmps26
  go_wp2_with fail
  refine HQ.out.mono ?_
  rintro e w1 ⟨rfl, hg1, hS1⟩
  have hne : some r.p ≠ some r.b := by simpa using hpb
  have d1 := hg1.cell c1 hne
  have d2 := hg1.cell c2 hne
  have d3 := hg1.cell c3 hne
  have d4 := hg1.cell c4 hne
  have g3 : w1.frozen? ⟨r.p, 3, none⟩ = false := by rw [hg1.frozen_far ⟨r.p, 3, none⟩ hpl hne]; exact f3
  have g4 : w1.frozen? ⟨r.p, 4, none⟩ = false := by rw [hg1.frozen_far ⟨r.p, 4, none⟩ hpl hne]; exact f4
  have hbk : w1.heap[r.p]? = _ := (hg1.block r.p hpl hne).trans HH.out.blk
  have hpl1 : r.p < w1.heap.size := Nat.lt_of_lt_of_le hpl hg1.size
  have HB : Hid (w1.heap[r.p]? = some (.cells #[.pointer (some ⟨r.b, 0, none⟩), .int .i64 (128 + 128 * (r.k : Int)), .string r.s, .bool r.sp, .int .i64 (r.a : Int)] 85)) := hbk
  have HG : Hid (w.grownBy w1 (some r.b)) := hg1
  have HS : Hid (Sp w1 r.b (sqTo (stF r.k r.s.data.toList) (r.a + n))) := hS1
  clear c0 c1 c2 c3 c4 f3 f4 hg1 hS1 hbk HQ
  go_wp2
  go_region_with (first | (go_at_call 48; refine (HK.out _).mono ?_; rintro e w2 ⟨rfl, hg2⟩))
  all_goals
    have hg2 : w1.grownBy w2 none := ⟨hg2.os, hg2.tape, hg2.output, hg2.size, hg2.block⟩
    have e3 := hg2.cell (a := ⟨r.p, 3, none⟩) d3 (by simp)
    have e4 := hg2.cell (a := ⟨r.p, 4, none⟩) d4 (by simp)
    have k3 : w2.frozen? ⟨r.p, 3, none⟩ = false := by rw [hg2.frozen_far ⟨r.p, 3, none⟩ hpl1 (by simp)]; exact g3
    have k4 : w2.frozen? ⟨r.p, 4, none⟩ = false := by rw [hg2.frozen_far ⟨r.p, 4, none⟩ hpl1 (by simp)]; exact g4
    have HG2 : Hid (w1.grownBy w2 none) := hg2
    clear d1 d2 d3 d4 g3 g4 hg2
    go_wp2
    go_ret
    exact ⟨rfl, did_squeeze r n hn HH.out HG.out HG2.out HB.out HS.out⟩
end Go.Proofs.YtkijpphmiogbbaaGreatDoor
