import Derived.Test.YtkijpphmiogbbaaGreatDoorH31
namespace Go.Proofs.YtkijpphmiogbbaaGreatDoor
open Go.RowKit
attribute [local go_sem ↓] Go.wp_at_zero Go.wp_at_succ
theorem chi_facts (m k : Nat) (hm : m < 5) (hk : k < 5) : ∃ p q : Nat, Hid (p = (m + 1) % 5) ∧ Hid (q = (m + 2) % 5) ∧ p + 5 * k < 25 ∧ q + 5 * k < 25 ∧ m + 5 * k < 25 ∧ (0 : Int) ≤ (m : Int) ∧ (m : Int) < 5 ∧ (0 : Int) ≤ (p : Int) ∧ (p : Int) < 5 ∧ (0 : Int) ≤ (q : Int) ∧ (q : Int) < 5 ∧ IntKind.i64.wrap (5 * (k : Int)) = 5 * (k : Int) ∧ IntKind.i64.wrap ((m : Int) + 5 * (k : Int)) = (m : Int) + 5 * (k : Int) ∧ IntKind.i64.wrap ((p : Int) + 5 * (k : Int)) = (p : Int) + 5 * (k : Int) ∧ IntKind.i64.wrap ((q : Int) + 5 * (k : Int)) = (q : Int) + 5 * (k : Int) ∧ IntKind.i64.wrap ((m : Int) + 1) = (m : Int) + 1 ∧ IntKind.i64.wrap ((m : Int) + 2) = (m : Int) + 2 ∧ IntKind.i64.wrap ((p : Int)) = (p : Int) ∧ IntKind.i64.wrap ((q : Int)) = (q : Int) ∧ ((m : Int) + 1).tmod 5 = (p : Int) ∧ ((m : Int) + 2).tmod 5 = (q : Int) ∧ ((m : Int) + 1) % 5 = (p : Int) ∧ ((m : Int) + 2) % 5 = (q : Int) ∧ (0 : Int) ≤ (m : Int) + 5 * (k : Int) ∧ (m : Int) + 5 * (k : Int) < 25 ∧ ((m : Int) + 5 * (k : Int)).toNat = m + 5 * k ∧ (0 : Int) ≤ (p : Int) + 5 * (k : Int) ∧ (p : Int) + 5 * (k : Int) < 25 ∧ ((p : Int) + 5 * (k : Int)).toNat = p + 5 * k ∧ (0 : Int) ≤ (q : Int) + 5 * (k : Int) ∧ (q : Int) + 5 * (k : Int) < 25 ∧ ((q : Int) + 5 * (k : Int)).toNat = q + 5 * k := by
  refine ⟨(m + 1) % 5, (m + 2) % 5, show _ = _ from rfl, show _ = _ from rfl, by omega, by omega, by omega, ?_⟩
  have h1 : ((m : Int) + 1).tmod 5 = (((m + 1) % 5 : Nat) : Int) := by rw [Int.tmod_eq_emod_of_nonneg (by omega)]; omega
  have h2 : ((m : Int) + 2).tmod 5 = (((m + 2) % 5 : Nat) : Int) := by rw [Int.tmod_eq_emod_of_nonneg (by omega)]; omega
  simp only [IntKind.wrap_i64]
  refine ⟨?_, ?_, ?_, ?_, ?_, ?_, ?_, ?_, ?_, ?_, ?_, ?_, ?_, ?_, h1, h2, ?_, ?_, ?_, ?_, ?_, ?_, ?_, ?_, ?_, ?_, ?_⟩ <;> omega
set_option maxHeartbeats 4000000 in
set_option maxRecDepth 10000 in
theorem ph_chi (Q0 : Exit → Act → World → Prop) (A R B : Nat) (N Z F : Nat → Int) (c0 c2 c3 c4 c5 c6 c7 c8 c9 c11 c12 c13 c14 c15 c17 c18 c19 c20 c21 c22 c23 c24 c25 c26 c27 c28 c29 c30 c31 c32 c33 c34 c35 c36 c37 c38 c39 c40 c41 c42 c43 c44 c45 c46 c47 c48 c49 c50 c51 c52 c53 c54 c55 c56 c57 c58 c59 c60 c61 c62 c63 c64 c65 c66 c67 c68 c69 c70 c71 c72 c73 c74 c75 c76 c77 c78 c79 c80 c81 c82 c83 c84 c85 c86 c87 c88 c89 c90 c91 c92 c93 c94 c95 c96 c97 c98 c99 c100 c101 c102 c103 c104 c105 c106 c107 c108 c109 c110 c111 c112 c113 c114 c115 c116 c117 c118 c119 c120 c121 c122 c123 c124 c125 c126 c127 c128 c129 c130 c131 c132 c133 c134 c135 c136 c137 c138 c139 c140 c141 c142 c143 c144 c145 c146 c147 c148 c149 c150 c151 c152 c153 c154 c155 c156 c157 c158 c159 c160 c161 c162 c163 c164 c165 c166 c167 c168 c169 c170 c171 c172 c173 c174 c175 c176 c177 c178 c179 : Value) (w W : World)
    (hAw : w.heap.size ≤ A) (n1 : B ≠ A) (n4 : A ≠ R)
    (hg0 : w.grownBy W none) (hC0 : Row W A 25 N) (hR0 : Row W R 25 Z) (hB0 : Row W B 25 F)
    (hexit : Hid (∀ (u16 u17 u120 u121 u122 u123 u124 u125 u126 u127 u128 u129 u130 u131 u132 u133 u134 u135 u136 u137 u138 u139 u140 u141 u142 u143 u144 u145 u146 u147 u148 u149 u150 u151 u152 u153 u154 u155 u156 u157 : Value) (W' : World), w.grownBy W' none → Row W' A 25 (chiR F) → Row W' R 25 Z → Q0 (.exit 10) ⟨(c0 :: (.pointer (some ⟨A, 0, none⟩)) :: c2 :: c3 :: c4 :: c5 :: c6 :: c7 :: c8 :: c9 :: (.pointer (some ⟨B, 0, none⟩)) :: c11 :: c12 :: c13 :: c14 :: c15 :: u16 :: u17 :: c18 :: c19 :: c20 :: c21 :: c22 :: c23 :: c24 :: c25 :: c26 :: c27 :: c28 :: c29 :: c30 :: c31 :: c32 :: c33 :: c34 :: c35 :: c36 :: c37 :: c38 :: c39 :: c40 :: c41 :: c42 :: c43 :: c44 :: c45 :: c46 :: c47 :: c48 :: c49 :: c50 :: c51 :: c52 :: c53 :: c54 :: c55 :: c56 :: c57 :: c58 :: c59 :: c60 :: c61 :: c62 :: c63 :: c64 :: c65 :: c66 :: c67 :: c68 :: c69 :: c70 :: c71 :: c72 :: c73 :: c74 :: c75 :: c76 :: c77 :: c78 :: c79 :: c80 :: c81 :: c82 :: c83 :: c84 :: c85 :: c86 :: c87 :: c88 :: c89 :: c90 :: c91 :: c92 :: c93 :: c94 :: c95 :: c96 :: c97 :: c98 :: c99 :: c100 :: c101 :: c102 :: c103 :: c104 :: c105 :: c106 :: c107 :: c108 :: c109 :: c110 :: c111 :: c112 :: c113 :: c114 :: c115 :: c116 :: c117 :: c118 :: c119 :: u120 :: u121 :: u122 :: u123 :: u124 :: u125 :: u126 :: u127 :: u128 :: u129 :: u130 :: u131 :: u132 :: u133 :: u134 :: u135 :: u136 :: u137 :: u138 :: u139 :: u140 :: u141 :: u142 :: u143 :: u144 :: u145 :: u146 :: u147 :: u148 :: u149 :: u150 :: u151 :: u152 :: u153 :: u154 :: u155 :: u156 :: u157 :: c158 :: c159 :: c160 :: c161 :: c162 :: c163 :: c164 :: c165 :: c166 :: c167 :: c168 :: c169 :: c170 :: c171 :: c172 :: c173 :: c174 :: c175 :: c176 :: c177 :: c178 :: c179 :: []).toArray, []⟩ W')) :
    Code.wp Tryz.prog (Code.loop ((((Tryz.f182.body.map loopsOf).getD [])[5]?).getD .skip)) Q0 ⟨(c0 :: (.pointer (some ⟨A, 0, none⟩)) :: c2 :: c3 :: c4 :: c5 :: c6 :: c7 :: c8 :: c9 :: (.pointer (some ⟨B, 0, none⟩)) :: c11 :: c12 :: c13 :: c14 :: c15 :: (.int .i64 0) :: c17 :: c18 :: c19 :: c20 :: c21 :: c22 :: c23 :: c24 :: c25 :: c26 :: c27 :: c28 :: c29 :: c30 :: c31 :: c32 :: c33 :: c34 :: c35 :: c36 :: c37 :: c38 :: c39 :: c40 :: c41 :: c42 :: c43 :: c44 :: c45 :: c46 :: c47 :: c48 :: c49 :: c50 :: c51 :: c52 :: c53 :: c54 :: c55 :: c56 :: c57 :: c58 :: c59 :: c60 :: c61 :: c62 :: c63 :: c64 :: c65 :: c66 :: c67 :: c68 :: c69 :: c70 :: c71 :: c72 :: c73 :: c74 :: c75 :: c76 :: c77 :: c78 :: c79 :: c80 :: c81 :: c82 :: c83 :: c84 :: c85 :: c86 :: c87 :: c88 :: c89 :: c90 :: c91 :: c92 :: c93 :: c94 :: c95 :: c96 :: c97 :: c98 :: c99 :: c100 :: c101 :: c102 :: c103 :: c104 :: c105 :: c106 :: c107 :: c108 :: c109 :: c110 :: c111 :: c112 :: c113 :: c114 :: c115 :: c116 :: c117 :: c118 :: c119 :: c120 :: c121 :: c122 :: c123 :: c124 :: c125 :: c126 :: c127 :: c128 :: c129 :: c130 :: c131 :: c132 :: c133 :: c134 :: c135 :: c136 :: c137 :: c138 :: c139 :: c140 :: c141 :: c142 :: c143 :: c144 :: c145 :: c146 :: c147 :: c148 :: c149 :: c150 :: c151 :: c152 :: c153 :: c154 :: c155 :: c156 :: c157 :: c158 :: c159 :: c160 :: c161 :: c162 :: c163 :: c164 :: c165 :: c166 :: c167 :: c168 :: c169 :: c170 :: c171 :: c172 :: c173 :: c174 :: c175 :: c176 :: c177 :: c178 :: c179 :: []).toArray, []⟩ W := by
  conv => arg 2; arg 1; whnf
  refine Code.wp_mono NoPanic.imp ?_
  have n1' : ¬ B = A := n1
  have n2' : ¬ A = B := Ne.symm n1
  go_loopw [16] (fun i wr => ∃ k : Nat, k ≤ 5 ∧ i = .int .i64 k ∧ w.grownBy wr none ∧ Row wr A 25 (chTo N F k 0) ∧ Row wr R 25 Z ∧ Row wr B 25 F) (fun i _ => 5 - (intOf i).toNat)
  case atStart => exact ⟨0, by omega, rfl, hg0, hC0.ext (fun j _ => (chTo_zero N F j).symm), hR0, hB0⟩
  case round =>
    clear hg0 hC0 hR0 hB0
    obtain ⟨k, hk, rfl, hg, hC, hR, hB⟩ := hrel
    by_cases hlt5 : k < 5
    · have k0 : (0 : Int) ≤ (k : Int) := by omega
      have k1 : (k : Int) < 5 := by omega
      go_wp2
      go_loopw [17] (fun i wr => ∃ m : Nat, m ≤ 5 ∧ i = .int .i64 m ∧ w.grownBy wr none ∧ Row wr A 25 (chTo N F k m) ∧ Row wr R 25 Z ∧ Row wr B 25 F) (fun i _ => 5 - (intOf i).toNat)
      case atStart => exact ⟨0, by omega, rfl, hg, hC, hR, hB⟩
      case round =>
        clear hg hC hR hB
        obtain ⟨m, hm, rfl, hg, hC, hR, hB⟩ := hrel
        by_cases hltm : m < 5
        · obtain ⟨p, q, HP, HQ, lp, lq, lm, d0, d1, p0, p1, q0, q1, w0, w1, w2, w3, w4, w5, w6, w7, m1, m2, m3, m4, im, jm, vm, ip, jp, vp, iq, jq, vq⟩ := chi_facts m k hltm hlt5
          have e0 := (hB (m + 5 * k) lm).1
          have e1 := (hB (p + 5 * k) lp).1
          have e2 := (hB (q + 5 * k) lq).1
          have s0 := (hC (m + 5 * k) lm).1
          have f0 := (hC (m + 5 * k) lm).2
          go_wp2
          go_region_held3 (fun w' => w'.cell? ⟨B, m + 5 * k, none⟩ = some (.int .u64 (F (m + 5 * k))) ∧ w'.cell? ⟨B, p + 5 * k, none⟩ = some (.int .u64 (F (p + 5 * k))) ∧ w'.cell? ⟨B, q + 5 * k, none⟩ = some (.int .u64 (F (q + 5 * k)))) (go_keep) (fail)
          go_wp2
          go_roundw
          case rel =>
            refine ⟨m + 1, hltm, by go_num, grown_drew (grown_setNew hg hAw _), ?_, (hR.set_other n4 _).drew, (hB.set_other (Ne.symm n1) _).drew⟩
            exact ((hC.set (i := m + 5 * k) lm _).drew).ext (fun j _ => by rw [HP.out, HQ.out]; exact chTo_step N F k m j hltm)
          case measure => simp [intOf]; omega
        · have hm5 : m = 5 := by omega
          subst hm5
          have HA : Hid (Row wr A 25 (chTo N F (k + 1) 0)) := hC.ext (fun j _ => chTo_five N F k j)
          clear hC
          go_wp2
          go_roundw
          case rel => exact ⟨k + 1, by omega, by go_num, hg, HA.out, hR, hB⟩
          case measure => simp [intOf]; omega
    · have hk5 : k = 5 := by omega
      subst hk5
      go_wp2
      exact hexit.out _ _ _ _ _ _ _ _ _ _ _ _ _ _ _ _ _ _ _ _ _ _ _ _ _ _ _ _ _ _ _ _ _ _ _ _ _ _ _ _ wr hg (hC.ext (fun j hj => chTo_all N F j hj)) hR
end Go.Proofs.YtkijpphmiogbbaaGreatDoor
