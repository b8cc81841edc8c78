import Derived.Test.YtkijpphmiogbbaaGreatDoorH31
namespace Go.Proofs.YtkijpphmiogbbaaGreatDoor
open Go.RowKit
attribute [local go_sem ↓] Go.wp_at_zero Go.wp_at_succ
theorem turned_1 (x : Int) (w : World) :
    Calls Tryz.prog 268 #[.int .u64 x, .int .i64 1] w fun e w' => e = .returned (.int .u64 (rotI x 1)) ∧ w' = w.drew := turned_any x 1 w (by omega) (by omega)
set_option maxHeartbeats 4000000 in
set_option maxRecDepth 10000 in
theorem ph_theta (Q0 : Exit → Act → World → Prop) (A R C : Nat) (M Z : Nat → Int) (c0 c2 c3 c4 c6 c8 c9 c10 c11 c12 c13 c14 c15 c16 c17 c18 c19 c20 c21 c22 c23 c24 c25 c26 c27 c28 c29 c30 c31 c32 c33 c34 c35 c36 c37 c38 c39 c40 c41 c42 c43 c44 c45 c46 c47 c48 c49 c50 c51 c52 c53 c54 c55 c56 c57 c58 c59 c60 c61 c62 c63 c64 c65 c66 c67 c68 c69 c70 c71 c72 c73 c74 c75 c76 c77 c78 c79 c80 c81 c82 c83 c84 c85 c86 c87 c88 c89 c90 c91 c92 c93 c94 c95 c96 c97 c98 c99 c100 c101 c102 c103 c104 c105 c106 c107 c108 c109 c110 c111 c112 c113 c114 c115 c116 c117 c118 c119 c120 c121 c122 c123 c124 c125 c126 c127 c128 c129 c130 c131 c132 c133 c134 c135 c136 c137 c138 c139 c140 c141 c142 c143 c144 c145 c146 c147 c148 c149 c150 c151 c152 c153 c154 c155 c156 c157 c158 c159 c160 c161 c162 c163 c164 c165 c166 c167 c168 c169 c170 c171 c172 c173 c174 c175 c176 c177 c178 c179 : Value) (w W : World)
    (hAw : w.heap.size ≤ A) (n1 : C ≠ A) (n4 : A ≠ R)
    (hg0 : w.grownBy W none) (hA0 : Row W A 25 M) (hR0 : Row W R 25 Z) (hS0 : Row W C 5 (colSum M))
    (hexit : Hid (∀ (u7 u8 u9 u52 u53 u54 u55 u56 u57 u58 u59 u60 u61 u62 u63 u64 u65 u66 u67 u68 u69 u70 u71 u72 u73 u74 u75 u76 u77 u78 u79 u80 u81 u82 u83 u84 : Value) (W' : World), w.grownBy W' none → Row W' A 25 (thetaR M) → Row W' R 25 Z → Q0 (.exit 4) ⟨(c0 :: (.pointer (some ⟨A, 0, none⟩)) :: c2 :: c3 :: c4 :: (.pointer (some ⟨C, 0, none⟩)) :: c6 :: u7 :: u8 :: u9 :: c10 :: c11 :: c12 :: c13 :: c14 :: c15 :: c16 :: c17 :: c18 :: c19 :: c20 :: c21 :: c22 :: c23 :: c24 :: c25 :: c26 :: c27 :: c28 :: c29 :: c30 :: c31 :: c32 :: c33 :: c34 :: c35 :: c36 :: c37 :: c38 :: c39 :: c40 :: c41 :: c42 :: c43 :: c44 :: c45 :: c46 :: c47 :: c48 :: c49 :: c50 :: c51 :: u52 :: u53 :: u54 :: u55 :: u56 :: u57 :: u58 :: u59 :: u60 :: u61 :: u62 :: u63 :: u64 :: u65 :: u66 :: u67 :: u68 :: u69 :: u70 :: u71 :: u72 :: u73 :: u74 :: u75 :: u76 :: u77 :: u78 :: u79 :: u80 :: u81 :: u82 :: u83 :: u84 :: c85 :: c86 :: c87 :: c88 :: c89 :: c90 :: c91 :: c92 :: c93 :: c94 :: c95 :: c96 :: c97 :: c98 :: c99 :: c100 :: c101 :: c102 :: c103 :: c104 :: c105 :: c106 :: c107 :: c108 :: c109 :: c110 :: c111 :: c112 :: c113 :: c114 :: c115 :: c116 :: c117 :: c118 :: c119 :: c120 :: c121 :: c122 :: c123 :: c124 :: c125 :: c126 :: c127 :: c128 :: c129 :: c130 :: c131 :: c132 :: c133 :: c134 :: c135 :: c136 :: c137 :: c138 :: c139 :: c140 :: c141 :: c142 :: c143 :: c144 :: c145 :: c146 :: c147 :: c148 :: c149 :: c150 :: c151 :: c152 :: c153 :: c154 :: c155 :: c156 :: c157 :: c158 :: c159 :: c160 :: c161 :: c162 :: c163 :: c164 :: c165 :: c166 :: c167 :: c168 :: c169 :: c170 :: c171 :: c172 :: c173 :: c174 :: c175 :: c176 :: c177 :: c178 :: c179 :: []).toArray, []⟩ W')) :
    Code.wp Tryz.prog (Code.loop ((((Tryz.f182.body.map loopsOf).getD [])[2]?).getD .skip)) Q0 ⟨(c0 :: (.pointer (some ⟨A, 0, none⟩)) :: c2 :: c3 :: c4 :: (.pointer (some ⟨C, 0, none⟩)) :: c6 :: (.int .i64 0) :: c8 :: c9 :: c10 :: c11 :: c12 :: c13 :: c14 :: c15 :: c16 :: c17 :: c18 :: c19 :: c20 :: c21 :: c22 :: c23 :: c24 :: c25 :: c26 :: c27 :: c28 :: c29 :: c30 :: c31 :: c32 :: c33 :: c34 :: c35 :: c36 :: c37 :: c38 :: c39 :: c40 :: c41 :: c42 :: c43 :: c44 :: c45 :: c46 :: c47 :: c48 :: c49 :: c50 :: c51 :: c52 :: c53 :: c54 :: c55 :: c56 :: c57 :: c58 :: c59 :: c60 :: c61 :: c62 :: c63 :: c64 :: c65 :: c66 :: c67 :: c68 :: c69 :: c70 :: c71 :: c72 :: c73 :: c74 :: c75 :: c76 :: c77 :: c78 :: c79 :: c80 :: c81 :: c82 :: c83 :: c84 :: c85 :: c86 :: c87 :: c88 :: c89 :: c90 :: c91 :: c92 :: c93 :: c94 :: c95 :: c96 :: c97 :: c98 :: c99 :: c100 :: c101 :: c102 :: c103 :: c104 :: c105 :: c106 :: c107 :: c108 :: c109 :: c110 :: c111 :: c112 :: c113 :: c114 :: c115 :: c116 :: c117 :: c118 :: c119 :: c120 :: c121 :: c122 :: c123 :: c124 :: c125 :: c126 :: c127 :: c128 :: c129 :: c130 :: c131 :: c132 :: c133 :: c134 :: c135 :: c136 :: c137 :: c138 :: c139 :: c140 :: c141 :: c142 :: c143 :: c144 :: c145 :: c146 :: c147 :: c148 :: c149 :: c150 :: c151 :: c152 :: c153 :: c154 :: c155 :: c156 :: c157 :: c158 :: c159 :: c160 :: c161 :: c162 :: c163 :: c164 :: c165 :: c166 :: c167 :: c168 :: c169 :: c170 :: c171 :: c172 :: c173 :: c174 :: c175 :: c176 :: c177 :: c178 :: c179 :: []).toArray, []⟩ W := by
  conv => arg 2; arg 1; whnf
  refine Code.wp_mono NoPanic.imp ?_
  have n1' : ¬ C = A := n1
  have n2' : ¬ A = C := Ne.symm n1
  go_loopw [7] (fun i wr => ∃ k : Nat, k ≤ 5 ∧ i = .int .i64 k ∧ w.grownBy wr none ∧ Row wr A 25 (thTo M k 0) ∧ Row wr R 25 Z ∧ Row wr C 5 (colSum M)) (fun i _ => 5 - (intOf i).toNat)
  case atStart => exact ⟨0, by omega, rfl, hg0, hA0.ext (fun j _ => (thTo_zero M j).symm), hR0, hS0⟩
  case round =>
    clear hg0 hA0 hR0 hS0
    obtain ⟨k, hk, rfl, hg, hA, hR, hS⟩ := hrel
    by_cases hlt5 : k < 5
    · obtain ⟨p, hp⟩ : ∃ p, p = (k + 4) % 5 := ⟨_, rfl⟩
      obtain ⟨q, hq⟩ : ∃ q, q = (k + 1) % 5 := ⟨_, rfl⟩
      have s1 := (hS q (by omega)).1
      have b0 : (0 : Int) ≤ (k : Int) := by omega
      have b1 : (k : Int) < 5 := by omega
      have b2 : (0 : Int) ≤ (p : Int) := by omega
      have b3 : (p : Int) < 5 := by omega
      have b4 : (0 : Int) ≤ (q : Int) := by omega
      have b5 : (q : Int) < 5 := by omega
      have m2 : ((k : Int) + 1).tmod 5 = (q : Int) := by rw [Int.tmod_eq_emod_of_nonneg (by omega)]; omega
      have m4 : ((k : Int) + 1) % 5 = (q : Int) := by omega
      have HP : Hid (p = (k + 4) % 5) := hp
      have HQ : Hid (q = (k + 1) % 5) := hq
      clear hp hq
      go_wp2_with (first | (go_at_call 268; refine (turned_1 _ _).mono ?_; rintro e w' ⟨rfl, rfl⟩))
      clear s1 m2 m4
      go_loopw [9] (fun i wr => ∃ m : Nat, m ≤ 5 ∧ i = .int .i64 m ∧ w.grownBy wr none ∧ Row wr A 25 (thTo M k m) ∧ Row wr R 25 Z ∧ Row wr C 5 (colSum M)) (fun i _ => 5 - (intOf i).toNat)
      case atStart => exact ⟨0, by omega, rfl, grown_drew hg, hA.drew, hR.drew, hS.drew⟩
      case round =>
        clear hg hA hR hS
        obtain ⟨m, hm, rfl, hg, hA, hR, hS⟩ := hrel
        by_cases hltm : m < 5
        · have e0 := (hA (k + 5 * m) (by omega)).1
          have f0 := (hA (k + 5 * m) (by omega)).2
          rw [thTo_at M k m hlt5] at e0
          have s0 := (hS p (by omega)).1
          have d0 : (0 : Int) ≤ (m : Int) := by omega
          have d1 : (m : Int) < 5 := by omega
          have d2 : (0 : Int) ≤ (k : Int) + 5 * (m : Int) := by omega
          have d3 : (k : Int) + 5 * (m : Int) < 25 := by omega
          have w0 : IntKind.i64.wrap (5 * (m : Int)) = 5 * (m : Int) := by rw [IntKind.wrap_i64] <;> omega
          have w1 : IntKind.i64.wrap ((k : Int) + 5 * (m : Int)) = (k : Int) + 5 * (m : Int) := by rw [IntKind.wrap_i64] <;> omega
          have t1 : ((k : Int) + 5 * (m : Int)).toNat = k + 5 * m := by omega
          have w4 : IntKind.i64.wrap ((k : Int) + 4) = (k : Int) + 4 := by rw [IntKind.wrap_i64] <;> omega
          have m1 : ((k : Int) + 4).tmod 5 = (p : Int) := by rw [Int.tmod_eq_emod_of_nonneg (by omega)]; have := HP.out; omega
          have m3 : ((k : Int) + 4) % 5 = (p : Int) := by have := HP.out; omega
          have w3 : IntKind.i64.wrap (p : Int) = (p : Int) := by rw [IntKind.wrap_i64] <;> omega
          go_wp2
          go_region
          go_wp2
          go_roundw
          case rel =>
            refine ⟨m + 1, by omega, by go_num, grown_drew (grown_setNew hg hAw _), ?_, (hR.set_other n4 _).drew, (hS.set_other (Ne.symm n1) _).drew⟩
            exact ((hA.set (i := k + 5 * m) (by omega) _).drew).ext (fun j _ => by rw [HP.out, HQ.out]; exact thTo_step M k m j hlt5)
          case measure => simp [intOf]; omega
        · have hm5 : m = 5 := by omega
          subst hm5
          have HA : Hid (Row wr A 25 (thTo M (k + 1) 0)) := hA.ext (fun j hj => thTo_five M k j hj)
          clear hA
          go_wp2
          go_roundw
          case rel =>
            exact ⟨k + 1, by omega, by go_num, hg, HA.out, hR, hS⟩
          case measure => simp [intOf]; omega
    · have hk5 : k = 5 := by omega
      subst hk5
      go_wp2
      exact hexit.out _ _ _ _ _ _ _ _ _ _ _ _ _ _ _ _ _ _ _ _ _ _ _ _ _ _ _ _ _ _ _ _ _ _ _ _ wr hg (hA.ext (fun j _ => thTo_all M j)) hR
end Go.Proofs.YtkijpphmiogbbaaGreatDoor
