import Derived.Test.YtkijpphmiogbbaaGreatDoorH31
namespace Go.Proofs.YtkijpphmiogbbaaGreatDoor
open Go.RowKit
attribute [local go_sem ↓] Go.wp_at_zero Go.wp_at_succ
set_option maxHeartbeats 4000000 in
set_option maxRecDepth 10000 in
theorem ph_sums (Q0 : Exit → Act → World → Prop) (A R C : Nat) (M Z : Nat → Int) (c0 c2 c3 c4 c7 c8 c9 c10 c11 c12 c13 c14 c15 c16 c17 c18 c19 c20 c21 c22 c23 c24 c25 c26 c27 c28 c29 c30 c31 c32 c33 c34 c35 c36 c37 c38 c39 c40 c41 c42 c43 c44 c45 c46 c47 c48 c49 c50 c51 c52 c53 c54 c55 c56 c57 c58 c59 c60 c61 c62 c63 c64 c65 c66 c67 c68 c69 c70 c71 c72 c73 c74 c75 c76 c77 c78 c79 c80 c81 c82 c83 c84 c85 c86 c87 c88 c89 c90 c91 c92 c93 c94 c95 c96 c97 c98 c99 c100 c101 c102 c103 c104 c105 c106 c107 c108 c109 c110 c111 c112 c113 c114 c115 c116 c117 c118 c119 c120 c121 c122 c123 c124 c125 c126 c127 c128 c129 c130 c131 c132 c133 c134 c135 c136 c137 c138 c139 c140 c141 c142 c143 c144 c145 c146 c147 c148 c149 c150 c151 c152 c153 c154 c155 c156 c157 c158 c159 c160 c161 c162 c163 c164 c165 c166 c167 c168 c169 c170 c171 c172 c173 c174 c175 c176 c177 c178 c179 : Value) (w W : World)
    (hAw : w.heap.size ≤ C) (n1 : C ≠ A) (n3 : C ≠ R)
    (hg0 : w.grownBy W none) (hA0 : Row W A 25 M) (hR0 : Row W R 25 Z) (hS0 : Row W C 5 (fun _ => 0))
    (hexit : Hid (∀ (u6 u23 u24 u25 u26 u27 u28 u29 u30 u31 u32 u33 u34 u35 u36 u37 u38 u39 u40 u41 u42 u43 u44 u45 u46 u47 u48 u49 u50 u51 : Value) (W' : World), w.grownBy W' none → Row W' A 25 M → Row W' R 25 Z → Row W' C 5 (colSum M) → Q0 (.exit 2) ⟨(c0 :: (.pointer (some ⟨A, 0, none⟩)) :: c2 :: c3 :: c4 :: (.pointer (some ⟨C, 0, none⟩)) :: u6 :: c7 :: c8 :: c9 :: c10 :: c11 :: c12 :: c13 :: c14 :: c15 :: c16 :: c17 :: c18 :: c19 :: c20 :: c21 :: c22 :: u23 :: u24 :: u25 :: u26 :: u27 :: u28 :: u29 :: u30 :: u31 :: u32 :: u33 :: u34 :: u35 :: u36 :: u37 :: u38 :: u39 :: u40 :: u41 :: u42 :: u43 :: u44 :: u45 :: u46 :: u47 :: u48 :: u49 :: u50 :: u51 :: c52 :: c53 :: c54 :: c55 :: c56 :: c57 :: c58 :: c59 :: c60 :: c61 :: c62 :: c63 :: c64 :: c65 :: c66 :: c67 :: c68 :: c69 :: c70 :: c71 :: c72 :: c73 :: c74 :: c75 :: c76 :: c77 :: c78 :: c79 :: c80 :: c81 :: c82 :: c83 :: c84 :: c85 :: c86 :: c87 :: c88 :: c89 :: c90 :: c91 :: c92 :: c93 :: c94 :: c95 :: c96 :: c97 :: c98 :: c99 :: c100 :: c101 :: c102 :: c103 :: c104 :: c105 :: c106 :: c107 :: c108 :: c109 :: c110 :: c111 :: c112 :: c113 :: c114 :: c115 :: c116 :: c117 :: c118 :: c119 :: c120 :: c121 :: c122 :: c123 :: c124 :: c125 :: c126 :: c127 :: c128 :: c129 :: c130 :: c131 :: c132 :: c133 :: c134 :: c135 :: c136 :: c137 :: c138 :: c139 :: c140 :: c141 :: c142 :: c143 :: c144 :: c145 :: c146 :: c147 :: c148 :: c149 :: c150 :: c151 :: c152 :: c153 :: c154 :: c155 :: c156 :: c157 :: c158 :: c159 :: c160 :: c161 :: c162 :: c163 :: c164 :: c165 :: c166 :: c167 :: c168 :: c169 :: c170 :: c171 :: c172 :: c173 :: c174 :: c175 :: c176 :: c177 :: c178 :: c179 :: []).toArray, []⟩ W')) :
    Code.wp Tryz.prog (Code.loop ((((Tryz.f182.body.map loopsOf).getD [])[1]?).getD .skip)) Q0 ⟨(c0 :: (.pointer (some ⟨A, 0, none⟩)) :: c2 :: c3 :: c4 :: (.pointer (some ⟨C, 0, none⟩)) :: (.int .i64 0) :: c7 :: c8 :: c9 :: c10 :: c11 :: c12 :: c13 :: c14 :: c15 :: c16 :: c17 :: c18 :: c19 :: c20 :: c21 :: c22 :: c23 :: c24 :: c25 :: c26 :: c27 :: c28 :: c29 :: c30 :: c31 :: c32 :: c33 :: c34 :: c35 :: c36 :: c37 :: c38 :: c39 :: c40 :: c41 :: c42 :: c43 :: c44 :: c45 :: c46 :: c47 :: c48 :: c49 :: c50 :: c51 :: c52 :: c53 :: c54 :: c55 :: c56 :: c57 :: c58 :: c59 :: c60 :: c61 :: c62 :: c63 :: c64 :: c65 :: c66 :: c67 :: c68 :: c69 :: c70 :: c71 :: c72 :: c73 :: c74 :: c75 :: c76 :: c77 :: c78 :: c79 :: c80 :: c81 :: c82 :: c83 :: c84 :: c85 :: c86 :: c87 :: c88 :: c89 :: c90 :: c91 :: c92 :: c93 :: c94 :: c95 :: c96 :: c97 :: c98 :: c99 :: c100 :: c101 :: c102 :: c103 :: c104 :: c105 :: c106 :: c107 :: c108 :: c109 :: c110 :: c111 :: c112 :: c113 :: c114 :: c115 :: c116 :: c117 :: c118 :: c119 :: c120 :: c121 :: c122 :: c123 :: c124 :: c125 :: c126 :: c127 :: c128 :: c129 :: c130 :: c131 :: c132 :: c133 :: c134 :: c135 :: c136 :: c137 :: c138 :: c139 :: c140 :: c141 :: c142 :: c143 :: c144 :: c145 :: c146 :: c147 :: c148 :: c149 :: c150 :: c151 :: c152 :: c153 :: c154 :: c155 :: c156 :: c157 :: c158 :: c159 :: c160 :: c161 :: c162 :: c163 :: c164 :: c165 :: c166 :: c167 :: c168 :: c169 :: c170 :: c171 :: c172 :: c173 :: c174 :: c175 :: c176 :: c177 :: c178 :: c179 :: []).toArray, []⟩ W := by
  conv => arg 2; arg 1; whnf
  refine Code.wp_mono NoPanic.imp ?_
  have n1' : ¬ C = A := n1
  have n2' : ¬ A = C := Ne.symm n1
  go_loopw [6] (fun i wr => ∃ k : Nat, k ≤ 5 ∧ i = .int .i64 k ∧ w.grownBy wr none ∧ Row wr A 25 M ∧ Row wr R 25 Z ∧ Row wr C 5 (sumsTo M k)) (fun i _ => 5 - (intOf i).toNat)
  case atStart => exact ⟨0, by omega, rfl, hg0, hA0, hR0, hS0⟩
  case round =>
    clear hg0 hA0 hR0 hS0
    obtain ⟨k, hk, rfl, hg, hA, hR, hS⟩ := hrel
    by_cases hlt5 : k < 5
    · have e0 := (hA k (by omega)).1
      have e1 := (hA (k + 5) (by omega)).1
      have e2 := (hA (k + 10) (by omega)).1
      have e3 := (hA (k + 15) (by omega)).1
      have e4 := (hA (k + 20) (by omega)).1
      have s0 := (hS k (by omega)).1
      have f0 := (hS k (by omega)).2
      have b0 : (0 : Int) ≤ (k : Int) := by omega
      have b1 : (k : Int) < 5 := by omega
      have b2 : (k : Int) < 25 := by omega
      have w5 : IntKind.i64.wrap ((k : Int) + 5) = (k : Int) + 5 := by rw [IntKind.wrap_i64] <;> omega
      have v5 : ((k : Int) + 5).toNat = k + 5 := by omega
      have y5 : (0 : Int) ≤ (k : Int) + 5 := by omega
      have z5 : (k : Int) + 5 < 25 := by omega
      have w10 : IntKind.i64.wrap ((k : Int) + 10) = (k : Int) + 10 := by rw [IntKind.wrap_i64] <;> omega
      have v10 : ((k : Int) + 10).toNat = k + 10 := by omega
      have y10 : (0 : Int) ≤ (k : Int) + 10 := by omega
      have z10 : (k : Int) + 10 < 25 := by omega
      have w15 : IntKind.i64.wrap ((k : Int) + 15) = (k : Int) + 15 := by rw [IntKind.wrap_i64] <;> omega
      have v15 : ((k : Int) + 15).toNat = k + 15 := by omega
      have y15 : (0 : Int) ≤ (k : Int) + 15 := by omega
      have z15 : (k : Int) + 15 < 25 := by omega
      have w20 : IntKind.i64.wrap ((k : Int) + 20) = (k : Int) + 20 := by rw [IntKind.wrap_i64] <;> omega
      have v20 : ((k : Int) + 20).toNat = k + 20 := by omega
      have y20 : (0 : Int) ≤ (k : Int) + 20 := by omega
      have z20 : (k : Int) + 20 < 25 := by omega
      go_wp2
      go_region_held3 (fun w' => w'.cell? ⟨A, k, none⟩ = some (.int .u64 (M k)) ∧ w'.cell? ⟨A, k + 5, none⟩ = some (.int .u64 (M (k + 5))) ∧ w'.cell? ⟨A, k + 10, none⟩ = some (.int .u64 (M (k + 10))) ∧ w'.cell? ⟨A, k + 15, none⟩ = some (.int .u64 (M (k + 15))) ∧ w'.cell? ⟨A, k + 20, none⟩ = some (.int .u64 (M (k + 20)))) (go_keep) (fail)
      go_wp2
      go_roundw
      case rel =>
        refine ⟨k + 1, by omega, by go_num, grown_drew (grown_setNew hg hAw _), (hA.set_other n1 _).drew, (hR.set_other n3 _).drew, ?_⟩
        exact ((hS.set (i := k) (by omega) _).drew).ext (fun j _ => sumsTo_step M k j)
      case measure => simp [intOf]; omega
    · have hk5 : k = 5 := by omega
      subst hk5
      go_wp2
      exact hexit.out _ _ _ _ _ _ _ _ _ _ _ _ _ _ _ _ _ _ _ _ _ _ _ _ _ _ _ _ _ _ wr hg hA hR (hS.ext (fun j hj => if_pos hj))
end Go.Proofs.YtkijpphmiogbbaaGreatDoor
