import Derived.Test.YtkijpphmiogbbaaGreatDoorH38
namespace Go.Proofs.YtkijpphmiogbbaaGreatDoor
open Go.RowKit
attribute [local go_sem ↓] Go.wp_at_zero Go.wp_at_succ

def lenOf : Value → Nat | .slice _ n _ => n | _ => 0
theorem perm_next {a : Nat → Int} {L : Nat → Int} {m : Nat} (h : Same a (permN L m)) : Same (permR a 24) (permN L (m + 1)) := perm_same h 24 (Nat.le_refl _)
set_option maxHeartbeats 1000000 in
set_option maxRecDepth 10000 in
theorem ph_out (Q0 : Exit → Act → World → Prop) (A rate cnt : Nat) (F : Spg) (b : Nat → Int) (c1 c2 c4 c5 c6 c7 c8 c10 c11 c12 c14 c15 c16 c17 c18 c19 c20 c21 c22 c23 c24 c25 c26 c27 c28 c29 c30 c31 c32 c33 c34 c35 c36 c37 c38 c39 c40 c41 c42 c43 c44 c45 c46 c47 c48 c49 c50 c51 c52 c53 c54 c55 c56 c57 c58 c59 c60 c61 c62 c63 c64 c65 c66 c67 c68 c69 c70 c71 c72 c73 c74 c75 c76 c77 c78 c79 c80 c81 c82 c83 c84 c85 c86 c87 c88 c89 c90 c91 c92 c93 c94 c95 c96 c97 c98 c99 c100 c101 c102 c103 c104 c105 c106 c107 c108 : Value) (w W : World)
    (hr0 : 0 < rate) (hr : rate ≤ 200) (hcn : cnt ≤ 1099511627776) (hFp : F.place = 0) (hFr : F.rate = rate) (hb : Same b F.L) (hAw : w.heap.size ≤ A)
    (hg0 : w.grownBy W none) (hA0 : Row W A 25 b)
    (hexit : Hid (∀ (u14 u74 u75 u76 u77 u78 u79 u80 u81 u82 u83 u84 u85 u86 u87 u88 u89 u90 u91 u92 u93 u94 u95 u96 u97 u98 u99 u100 u101 u102 u103 u104 u105 u106 v1 : Value) (W' : World), w.grownBy W' none → W'.ownsRow (A + 1) 5 1 v1 cnt (outV F cnt) → Q0 (.exit 6) ⟨((.int .i64 (rate : Int)) :: c1 :: c2 :: (.int .i64 (cnt : Int)) :: c4 :: c5 :: c6 :: c7 :: c8 :: (.pointer (some ⟨A, 0, none⟩)) :: c10 :: c11 :: c12 :: v1 :: u14 :: c15 :: c16 :: c17 :: c18 :: c19 :: c20 :: c21 :: c22 :: c23 :: c24 :: c25 :: c26 :: c27 :: c28 :: c29 :: c30 :: c31 :: c32 :: c33 :: c34 :: c35 :: c36 :: c37 :: c38 :: c39 :: c40 :: c41 :: c42 :: c43 :: c44 :: c45 :: c46 :: c47 :: c48 :: c49 :: c50 :: c51 :: c52 :: c53 :: c54 :: c55 :: c56 :: c57 :: c58 :: c59 :: c60 :: c61 :: c62 :: c63 :: c64 :: c65 :: c66 :: c67 :: c68 :: c69 :: c70 :: c71 :: c72 :: c73 :: u74 :: u75 :: u76 :: u77 :: u78 :: u79 :: u80 :: u81 :: u82 :: u83 :: u84 :: u85 :: u86 :: u87 :: u88 :: u89 :: u90 :: u91 :: u92 :: u93 :: u94 :: u95 :: u96 :: u97 :: u98 :: u99 :: u100 :: u101 :: u102 :: u103 :: u104 :: u105 :: u106 :: c107 :: c108 :: []).toArray, []⟩ W')) :
    Code.wp Tryz.prog (Code.loop ((((Tryz.f94.body.map loopsOf).getD [])[3]?).getD .skip)) Q0 ⟨((.int .i64 (rate : Int)) :: c1 :: c2 :: (.int .i64 (cnt : Int)) :: c4 :: c5 :: c6 :: c7 :: c8 :: (.pointer (some ⟨A, 0, none⟩)) :: c10 :: c11 :: c12 :: (.slice none 0 0) :: c14 :: c15 :: c16 :: c17 :: c18 :: c19 :: c20 :: c21 :: c22 :: c23 :: c24 :: c25 :: c26 :: c27 :: c28 :: c29 :: c30 :: c31 :: c32 :: c33 :: c34 :: c35 :: c36 :: c37 :: c38 :: c39 :: c40 :: c41 :: c42 :: c43 :: c44 :: c45 :: c46 :: c47 :: c48 :: c49 :: c50 :: c51 :: c52 :: c53 :: c54 :: c55 :: c56 :: c57 :: c58 :: c59 :: c60 :: c61 :: c62 :: c63 :: c64 :: c65 :: c66 :: c67 :: c68 :: c69 :: c70 :: c71 :: c72 :: c73 :: c74 :: c75 :: c76 :: c77 :: c78 :: c79 :: c80 :: c81 :: c82 :: c83 :: c84 :: c85 :: c86 :: c87 :: c88 :: c89 :: c90 :: c91 :: c92 :: c93 :: c94 :: c95 :: c96 :: c97 :: c98 :: c99 :: c100 :: c101 :: c102 :: c103 :: c104 :: c105 :: c106 :: c107 :: c108 :: []).toArray, []⟩ W := by
  conv => arg 2; arg 1; whnf
  refine Code.wp_mono NoPanic.imp ?_
  have c40 : (cnt : Int) ≤ 1099511627776 := by omega
  have r200 : (rate : Int) ≤ 200 := by omega
  go_loopw [13] (fun v wr => ∃ (m i : Nat) (a : Nat → Int), i ≤ cnt ∧ Hid (i = cnt ∨ (i = m * rate ∧ Same a (permN F.L m))) ∧ w.grownBy wr none ∧ Row wr A 25 a ∧ wr.ownsRow (A + 1) 5 1 v i (outV F i)) (fun v _ => cnt - lenOf v)
  case atStart => exact ⟨0, 0, b, Nat.zero_le _, Or.inr ⟨by omega, hb⟩, hg0, hA0, World.ownsRow_nil _ _ _ _⟩
  case round =>
    clear hg0 hA0
    obtain ⟨m, i, a, hic, HC, hg, hA, hown⟩ := hrel
    obtain ⟨s0, cap, rfl⟩ := own_form hown
    by_cases hlt : i < cnt
    · obtain ⟨him, ha⟩ : i = m * rate ∧ Same a (permN F.L m) := by
        rcases HC.out with h | h
        · omega
        · exact h
      have hl2 : (i : Int) < (cnt : Int) := by omega
      clear HC
      go_wp2
      have hm : m * rate < cnt := by omega
      have hown2 : wr.ownsRow (A + 1) 5 1 (.slice s0 i cap) (m * rate) (outV F (m * rate)) := by rw [← him]; exact hown
      refine ph_row _ A rate cnt m F a _ _ _ _ _ _ _ _ _ _ _ _ _ _ _ _ _ _ _ _ _ _ _ _ _ _ _ _ _ _ _ _ _ _ _ _ _ _ _ _ _ _ _ _ _ _ _ _ _ _ _ _ _ _ _ _ _ _ _ _ _ _ _ _ _ _ _ _ _ _ _ _ _ _ _ _ _ _ _ _ _ _ _ _ _ _ _ _ _ _ _ _ _ _ _ _ _ _ _ _ _ _ _ _ _ w _ hr0 hr hcn hFp hFr ha hAw hg hA hm hown2 ?_
      intro x14 x78 x79 x80 x81 x82 x83 x84 x85 x86 x87 x88 x89 x90 x91 x92 x93 x94 x95 x96 x97 x98 x99 x100 v1 W1 i1 hcase hg1 hA1 hown1
      have hle : i < i1 := by
        rcases hcase with h | ⟨h, _⟩
        · omega
        · rw [h, him, Nat.add_mul, Nat.one_mul]; omega
      clear hown hown2 hg hA
      obtain ⟨s1, cap1, rfl⟩ := own_form hown1
      by_cases hlt1 : i1 < cnt
      · have h5 : i1 = (m + 1) * rate := by
          rcases hcase with h | ⟨h, _⟩
          · omega
          · exact h
        have hl3 : (i1 : Int) < (cnt : Int) := by omega
        have H5 : Hid (i1 = (m + 1) * rate) := h5
        clear him hcase h5
        go_wp2_with (first | (refine wpList_load_cells rfl 225 _ rfl A rfl (lanesA a) _ (lanesA_cells hA1) Tryz.uState rfl (Tryz.sState a) ?_))
        refine (permuted_any a _).mono ?_
        rintro e W2 ⟨rfl, hg2⟩
        have hA2 := row_kept hA1 hg2 (by simp)
        have hth : W2.there A 0 (lanesA (permR a 24)).size := fun j hj => by
          rw [lanesA_size] at hj
          rw [Nat.zero_add]
          exact ⟨by rw [(hA2 j hj).1]; rfl, (hA2 j hj).2⟩
        go_wp2_with (first | (refine wpList_store_mid rfl 225 _ _ rfl A 0 (lanesA (permR a 24)) rfl rfl hth (Tryz.sState _) (lanesA_one _) ?_))
        go_roundw
        case rel =>
          refine ⟨_, _, _, _, _, _, _, _, _, _, _, _, _, _, _, _, _, _, _, _, _, _, _, _, _, _, _, _, _, _, _, _, _, _, _, ?_, rfl⟩
          exact ⟨m + 1, i1, permR a 24, Nat.le_of_lt hlt1, Or.inr ⟨H5.out, perm_next ha⟩, grown_setNews w A hAw _ _ _ (grownBy_trans hg1 hg2), hA2.set25 _, ((hown1.kept hg2 (Classical.em _)).kept (grown_setCells A _ 0 W2) (Or.inr (Ne.symm (own_far hown1))))⟩
        case measure => show cnt - i1 < cnt - i; omega
      · have h5 : cnt = i1 := by
          rcases hcase with h | ⟨_, h⟩
          · omega
          · omega
        subst h5
        go_wp2
        go_roundw
        case rel => exact ⟨m, cnt, a, Nat.le_refl _, Or.inl rfl, hg1, hA1, hown1⟩
        case measure => show cnt - cnt < cnt - i; omega
    · have h5 : cnt = i := by omega
      subst h5
      go_wp2
      exact hexit.out _ _ _ _ _ _ _ _ _ _ _ _ _ _ _ _ _ _ _ _ _ _ _ _ _ _ _ _ _ _ _ _ _ _ _ wr hg hown
end Go.Proofs.YtkijpphmiogbbaaGreatDoor
