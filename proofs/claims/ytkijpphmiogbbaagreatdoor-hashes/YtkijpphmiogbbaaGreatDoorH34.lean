import Derived.Test.YtkijpphmiogbbaaGreatDoorH31
namespace Go.Proofs.YtkijpphmiogbbaaGreatDoor
open Go.RowKit
attribute [local go_sem ↓] Go.wp_at_zero Go.wp_at_succ
set_option maxHeartbeats 4000000 in
set_option maxRecDepth 10000 in
theorem ph_rho (Q0 : Exit → Act → World → Prop) (A R B : Nat) (N Z : Nat → Int) (c0 c2 c3 c4 c5 c6 c7 c8 c9 c14 c15 c16 c17 c18 c19 c20 c21 c22 c23 c24 c25 c26 c27 c28 c29 c30 c31 c32 c33 c34 c35 c36 c37 c38 c39 c40 c41 c42 c43 c44 c45 c46 c47 c48 c49 c50 c51 c52 c53 c54 c55 c56 c57 c58 c59 c60 c61 c62 c63 c64 c65 c66 c67 c68 c69 c70 c71 c72 c73 c74 c75 c76 c77 c78 c79 c80 c81 c82 c83 c84 c85 c86 c87 c88 c89 c90 c91 c92 c93 c94 c95 c96 c97 c98 c99 c100 c101 c102 c103 c104 c105 c106 c107 c108 c109 c110 c111 c112 c113 c114 c115 c116 c117 c118 c119 c120 c121 c122 c123 c124 c125 c126 c127 c128 c129 c130 c131 c132 c133 c134 c135 c136 c137 c138 c139 c140 c141 c142 c143 c144 c145 c146 c147 c148 c149 c150 c151 c152 c153 c154 c155 c156 c157 c158 c159 c160 c161 c162 c163 c164 c165 c166 c167 c168 c169 c170 c171 c172 c173 c174 c175 c176 c177 c178 c179 : Value) (w W : World)
    (hBw : w.heap.size ≤ B) (n1 : B ≠ A) (n3 : B ≠ R)
    (hg0 : w.grownBy W none) (hN0 : Row W A 25 N) (hR0 : Row W R 25 Z) (hB0 : Row W B 25 (rhoR N 0))
    (hexit : Hid (∀ (u11 u12 u13 u14 u15 u88 u89 u90 u91 u92 u93 u94 u95 u96 u97 u98 u99 u100 u101 u102 u103 u104 u105 u106 u107 u108 u109 u110 u111 u112 u113 u114 u115 u116 u117 u118 u119 : Value) (W' : World), w.grownBy W' none → Row W' A 25 N → Row W' R 25 Z → Row W' B 25 (rhoR N 24) → Q0 (.exit 8) ⟨(c0 :: (.pointer (some ⟨A, 0, none⟩)) :: c2 :: c3 :: c4 :: c5 :: c6 :: c7 :: c8 :: c9 :: (.pointer (some ⟨B, 0, none⟩)) :: u11 :: u12 :: u13 :: u14 :: u15 :: c16 :: c17 :: c18 :: c19 :: c20 :: c21 :: c22 :: c23 :: c24 :: c25 :: c26 :: c27 :: c28 :: c29 :: c30 :: c31 :: c32 :: c33 :: c34 :: c35 :: c36 :: c37 :: c38 :: c39 :: c40 :: c41 :: c42 :: c43 :: c44 :: c45 :: c46 :: c47 :: c48 :: c49 :: c50 :: c51 :: c52 :: c53 :: c54 :: c55 :: c56 :: c57 :: c58 :: c59 :: c60 :: c61 :: c62 :: c63 :: c64 :: c65 :: c66 :: c67 :: c68 :: c69 :: c70 :: c71 :: c72 :: c73 :: c74 :: c75 :: c76 :: c77 :: c78 :: c79 :: c80 :: c81 :: c82 :: c83 :: c84 :: c85 :: c86 :: c87 :: u88 :: u89 :: u90 :: u91 :: u92 :: u93 :: u94 :: u95 :: u96 :: u97 :: u98 :: u99 :: u100 :: u101 :: u102 :: u103 :: u104 :: u105 :: u106 :: u107 :: u108 :: u109 :: u110 :: u111 :: u112 :: u113 :: u114 :: u115 :: u116 :: u117 :: u118 :: u119 :: c120 :: c121 :: c122 :: c123 :: c124 :: c125 :: c126 :: c127 :: c128 :: c129 :: c130 :: c131 :: c132 :: c133 :: c134 :: c135 :: c136 :: c137 :: c138 :: c139 :: c140 :: c141 :: c142 :: c143 :: c144 :: c145 :: c146 :: c147 :: c148 :: c149 :: c150 :: c151 :: c152 :: c153 :: c154 :: c155 :: c156 :: c157 :: c158 :: c159 :: c160 :: c161 :: c162 :: c163 :: c164 :: c165 :: c166 :: c167 :: c168 :: c169 :: c170 :: c171 :: c172 :: c173 :: c174 :: c175 :: c176 :: c177 :: c178 :: c179 :: []).toArray, []⟩ W')) :
    Code.wp Tryz.prog (Code.loop ((((Tryz.f182.body.map loopsOf).getD [])[4]?).getD .skip)) Q0 ⟨(c0 :: (.pointer (some ⟨A, 0, none⟩)) :: c2 :: c3 :: c4 :: c5 :: c6 :: c7 :: c8 :: c9 :: (.pointer (some ⟨B, 0, none⟩)) :: (.int .i64 1) :: (.int .i64 0) :: (.int .i64 0) :: c14 :: c15 :: c16 :: c17 :: c18 :: c19 :: c20 :: c21 :: c22 :: c23 :: c24 :: c25 :: c26 :: c27 :: c28 :: c29 :: c30 :: c31 :: c32 :: c33 :: c34 :: c35 :: c36 :: c37 :: c38 :: c39 :: c40 :: c41 :: c42 :: c43 :: c44 :: c45 :: c46 :: c47 :: c48 :: c49 :: c50 :: c51 :: c52 :: c53 :: c54 :: c55 :: c56 :: c57 :: c58 :: c59 :: c60 :: c61 :: c62 :: c63 :: c64 :: c65 :: c66 :: c67 :: c68 :: c69 :: c70 :: c71 :: c72 :: c73 :: c74 :: c75 :: c76 :: c77 :: c78 :: c79 :: c80 :: c81 :: c82 :: c83 :: c84 :: c85 :: c86 :: c87 :: c88 :: c89 :: c90 :: c91 :: c92 :: c93 :: c94 :: c95 :: c96 :: c97 :: c98 :: c99 :: c100 :: c101 :: c102 :: c103 :: c104 :: c105 :: c106 :: c107 :: c108 :: c109 :: c110 :: c111 :: c112 :: c113 :: c114 :: c115 :: c116 :: c117 :: c118 :: c119 :: c120 :: c121 :: c122 :: c123 :: c124 :: c125 :: c126 :: c127 :: c128 :: c129 :: c130 :: c131 :: c132 :: c133 :: c134 :: c135 :: c136 :: c137 :: c138 :: c139 :: c140 :: c141 :: c142 :: c143 :: c144 :: c145 :: c146 :: c147 :: c148 :: c149 :: c150 :: c151 :: c152 :: c153 :: c154 :: c155 :: c156 :: c157 :: c158 :: c159 :: c160 :: c161 :: c162 :: c163 :: c164 :: c165 :: c166 :: c167 :: c168 :: c169 :: c170 :: c171 :: c172 :: c173 :: c174 :: c175 :: c176 :: c177 :: c178 :: c179 :: []).toArray, []⟩ W := by
  conv => arg 2; arg 1; whnf
  refine Code.wp_mono NoPanic.imp ?_
  have n1' : ¬ B = A := n1
  have n2' : ¬ A = B := Ne.symm n1
  go_loopw [11, 12, 13] (fun x y i wr => ∃ (s a b : Nat), s ≤ 24 ∧ a < 5 ∧ b < 5 ∧ Hid (pathR s = (a, b)) ∧ x = .int .i64 a ∧ y = .int .i64 b ∧ i = .int .i64 s ∧ w.grownBy wr none ∧ Row wr A 25 N ∧ Row wr R 25 Z ∧ Row wr B 25 (rhoR N s)) (fun _ _ i _ => 24 - (intOf i).toNat)
  case atStart => exact ⟨0, 1, 0, by omega, by omega, by omega, show _ = _ from rfl, rfl, rfl, rfl, hg0, hN0, hR0, hB0⟩
  case round =>
    clear hg0 hN0 hR0 hB0
    obtain ⟨s, a, b, hs, ha, hb, HPS, rfl, rfl, rfl, hg, hN, hR, hB⟩ := hrel
    by_cases hlts : s < 24
    · obtain ⟨z, hz⟩ : ∃ z, z = (2 * a + 3 * b) % 5 := ⟨_, rfl⟩
      obtain ⟨q, hq⟩ : ∃ q, q = (s + 1) * (s + 2) := ⟨_, rfl⟩
      obtain ⟨n, hn⟩ : ∃ n, n = q / 2 % 64 := ⟨_, rfl⟩
      have hq650 : q ≤ 650 := by
        rw [hq]; exact Nat.mul_le_mul (show s + 1 ≤ 25 by omega) (show s + 2 ≤ 26 by omega)
      have HN : Hid (n = rotL s) := by show _ = _; rw [hn, hq]; rfl
      have hn1 : 0 < n := by
        rw [HN.out]
        have : ∀ v : Fin 24, 0 < rotL v.val := by decide
        exact this ⟨s, hlts⟩
      have hn2 : n < 64 := by rw [hn]; omega
      have eq1 : ((s : Int) + 1) * ((s : Int) + 2) = (q : Int) := by rw [hq]; push_cast; rfl
      have eq2 : (q : Int) / 2 % 64 = (n : Int) := by omega
      have eq3 : IntKind.i64.wrap (q : Int) = (q : Int) := by rw [IntKind.wrap_i64] <;> omega
      have eq4 : (2 * (a : Int) + 3 * (b : Int)) % 5 = (z : Int) := by omega
      have e0 := (hN (a + 5 * b) (by omega)).1
      have d0 := (hB (b + 5 * z) (by omega)).1
      have f0 := (hB (b + 5 * z) (by omega)).2
      have a0 : (0 : Int) ≤ (a : Int) := by omega
      have a1 : (a : Int) < 5 := by omega
      have e1 : (0 : Int) ≤ (b : Int) := by omega
      have e2 : (b : Int) < 5 := by omega
      have z0 : (0 : Int) ≤ (z : Int) := by omega
      have z1 : (z : Int) < 5 := by omega
      have s0 : (0 : Int) ≤ (s : Int) := by omega
      have s1 : (s : Int) < 24 := by omega
      have q0 : (0 : Int) ≤ (q : Int) := by omega
      have q1 : (q : Int) ≤ 650 := by omega
      have v1 : ((a : Int) + 5 * (b : Int)).toNat = a + 5 * b := by omega
      have v2 : ((b : Int) + 5 * (z : Int)).toNat = b + 5 * z := by omega
      have HZ : Hid (z = (2 * a + 3 * b) % 5) := hz
      clear hz hq hn
      go_wp2_with (first | (go_at_call 268; refine (turned_any _ n _ hn1 hn2).mono ?_; rintro e w' ⟨rfl, rfl⟩))
      go_roundw
      case rel =>
        refine ⟨s + 1, b, z, by omega, hb, by omega, ?_, rfl, rfl, by go_num, grown_setNew (grown_drew hg) hBw _, (hN.drew.set_other n1 _), (hR.drew.set_other n3 _), ?_⟩
        · show pathR (s + 1) = (b, z)
          show ((pathR s).2, (2 * (pathR s).1 + 3 * (pathR s).2) % 5) = (b, z)
          rw [HPS.out, HZ.out]
        · refine (hB.drew.set (i := b + 5 * z) (by omega) _).ext (fun j _ => ?_)
          show _ = upd (rhoR N s) ((pathR s).2 + 5 * ((2 * (pathR s).1 + 3 * (pathR s).2) % 5)) (rotI (N ((pathR s).1 + 5 * (pathR s).2)) (rotL s)) j
          rw [HPS.out, ← HN.out]
          show _ = upd (rhoR N s) (b + 5 * ((2 * a + 3 * b) % 5)) (rotI (N (a + 5 * b)) n) j
          rw [← HZ.out]
      case measure => simp [intOf]; omega
    · have hs24 : s = 24 := by omega
      subst hs24
      go_wp2
      exact hexit.out _ _ _ _ _ _ _ _ _ _ _ _ _ _ _ _ _ _ _ _ _ _ _ _ _ _ _ _ _ _ _ _ _ _ _ _ _ wr hg hN hR hB
end Go.Proofs.YtkijpphmiogbbaaGreatDoor
