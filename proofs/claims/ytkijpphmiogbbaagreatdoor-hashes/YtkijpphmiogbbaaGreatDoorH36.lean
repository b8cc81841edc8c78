import Derived.Test.YtkijpphmiogbbaaGreatDoorH31
namespace Go.Proofs.YtkijpphmiogbbaaGreatDoor
open Go.RowKit
attribute [local go_sem ↓] Go.wp_at_zero Go.wp_at_succ
theorem lfS_lt (n : Nat) (h : n < 169) : lfS n < 256 := by
  have hs : ∀ s : Fin 169, lfT[s.val]?.getD 0 < 256 := by decide +kernel
  rw [lf_tab n h]; exact hs ⟨n, h⟩
theorem iota_facts (v : Nat) (hv : v < 256) : bits BinOp.and IntKind.i64 (v : Int) 1 = ((v % 2 : Nat) : Int) ∧ IntKind.i64.wrap ((v : Int) * 2) = (v : Int) * 2 ∧ bits BinOp.xor IntKind.i64 ((v : Int) * 2) 369 = (((v * 2) ^^^ 369 : Nat) : Int) := by
  have h1 : ∀ s : Fin 256, bits BinOp.and IntKind.i64 ((s.val : Nat) : Int) 1 = ((s.val % 2 : Nat) : Int) := by decide +kernel
  have h2 : ∀ s : Fin 256, bits BinOp.xor IntKind.i64 (((s.val : Nat) : Int) * 2) 369 = (((s.val * 2) ^^^ 369 : Nat) : Int) := by decide +kernel
  exact ⟨h1 ⟨v, hv⟩, by rw [IntKind.wrap_i64] <;> omega, h2 ⟨v, hv⟩⟩
theorem shl_facts (j : Nat) (hj : j < 7) : ∃ (m1 m2 : Nat) (K : Int), IntKind.u64.wrap (2 ^ j) = (m1 : Int) ∧ IntKind.u64.wrap ((m1 : Int) - 1) = (m2 : Int) ∧ (m1 : Int) - 1 = (m2 : Int) ∧ (0 : Int) ≤ (m2 : Int) ∧ (m2 : Int) < 64 ∧ IntKind.u64.wrap (2 ^ m2) = K ∧ Hid ((2 : Int) ^ (2 ^ j - 1) = K) := by
  have h1 : ∀ s : Fin 7, IntKind.u64.wrap (2 ^ s.val) = ((2 ^ s.val : Nat) : Int) := by decide +kernel
  have h2 : ∀ s : Fin 7, IntKind.u64.wrap (((2 ^ s.val : Nat) : Int) - 1) = ((2 ^ s.val - 1 : Nat) : Int) := by decide +kernel
  have h3 : ∀ s : Fin 7, ((2 ^ s.val : Nat) : Int) - 1 = ((2 ^ s.val - 1 : Nat) : Int) := by decide +kernel
  have h4 : ∀ s : Fin 7, ((2 ^ s.val - 1 : Nat) : Int) < 64 := by decide +kernel
  have h5 : ∀ s : Fin 7, (2 : Int) ^ (2 ^ s.val - 1) = IntKind.u64.wrap (2 ^ (2 ^ s.val - 1)) := by decide +kernel
  exact ⟨2 ^ j, 2 ^ j - 1, IntKind.u64.wrap (2 ^ (2 ^ j - 1)), h1 ⟨j, hj⟩, h2 ⟨j, hj⟩, h3 ⟨j, hj⟩, Int.natCast_nonneg _, h4 ⟨j, hj⟩, rfl, h5 ⟨j, hj⟩⟩
theorem iota_one (a : Int) (t j : Nat) (h : lfS (7 * t + j) % 2 = 1) : iotaTo a t (j + 1) = bits BinOp.xor IntKind.u64 (iotaTo a t j) (2 ^ (2 ^ j - 1)) := by
  show (if lfS (7 * t + j) % 2 = 1 then bits BinOp.xor IntKind.u64 (iotaTo a t j) (2 ^ (2 ^ j - 1)) else iotaTo a t j) = _
  rw [if_pos h]
theorem iota_not (a : Int) (t j : Nat) (h : lfS (7 * t + j) % 2 = 0) : iotaTo a t (j + 1) = iotaTo a t j := by
  show (if lfS (7 * t + j) % 2 = 1 then bits BinOp.xor IntKind.u64 (iotaTo a t j) (2 ^ (2 ^ j - 1)) else iotaTo a t j) = _
  rw [if_neg (by omega)]
theorem lfS_over (n : Nat) (h : 255 < lfS n * 2) : lfS (n + 1) = (lfS n * 2) ^^^ 369 := by
  show (if lfS n * 2 > 255 then (lfS n * 2) ^^^ 0x171 else lfS n * 2) = _
  rw [if_pos h]
theorem lfS_under (n : Nat) (h : ¬ 255 < lfS n * 2) : lfS (n + 1) = lfS n * 2 := by
  show (if lfS n * 2 > 255 then (lfS n * 2) ^^^ 0x171 else lfS n * 2) = _
  rw [if_neg h]
set_option maxHeartbeats 2000000 in
set_option maxRecDepth 10000 in
theorem ph_iota (Q0 : Exit → Act → World → Prop) (A R t : Nat) (ht : t < 24) (Q Z : Nat → Int) (c0 c2 c4 c5 c6 c7 c8 c9 c10 c11 c12 c13 c14 c15 c16 c17 c19 c20 c21 c22 c23 c24 c25 c26 c27 c28 c29 c30 c31 c32 c33 c34 c35 c36 c37 c38 c39 c40 c41 c42 c43 c44 c45 c46 c47 c48 c49 c50 c51 c52 c53 c54 c55 c56 c57 c58 c59 c60 c61 c62 c63 c64 c65 c66 c67 c68 c69 c70 c71 c72 c73 c74 c75 c76 c77 c78 c79 c80 c81 c82 c83 c84 c85 c86 c87 c88 c89 c90 c91 c92 c93 c94 c95 c96 c97 c98 c99 c100 c101 c102 c103 c104 c105 c106 c107 c108 c109 c110 c111 c112 c113 c114 c115 c116 c117 c118 c119 c120 c121 c122 c123 c124 c125 c126 c127 c128 c129 c130 c131 c132 c133 c134 c135 c136 c137 c138 c139 c140 c141 c142 c143 c144 c145 c146 c147 c148 c149 c150 c151 c152 c153 c154 c155 c156 c157 c158 c159 c160 c161 c162 c163 c164 c165 c166 c167 c168 c169 c170 c171 c172 c173 c174 c175 c176 c177 c178 c179 : Value) (w W : World)
    (hAw : w.heap.size ≤ A) (n4 : A ≠ R)
    (hg0 : w.grownBy W none) (hA0 : Row W A 25 Q) (hR0 : Row W R 25 Z)
    (hexit : Hid (∀ (u3 u18 u158 u159 u160 u161 u162 u163 u164 u165 u166 u167 u168 u169 u170 u171 u172 u173 u174 u175 u176 u177 u178 : Value) (W' : World), u3 = .int .i64 ((lfS (7 * (t + 1)) : Nat) : Int) → w.grownBy W' none → Row W' A 25 (upd Q 0 (iotaTo (Q 0) t 7)) → Row W' R 25 Z → Q0 (.exit 14) ⟨(c0 :: (.pointer (some ⟨A, 0, none⟩)) :: c2 :: u3 :: c4 :: c5 :: c6 :: c7 :: c8 :: c9 :: c10 :: c11 :: c12 :: c13 :: c14 :: c15 :: c16 :: c17 :: u18 :: c19 :: c20 :: c21 :: c22 :: c23 :: c24 :: c25 :: c26 :: c27 :: c28 :: c29 :: c30 :: c31 :: c32 :: c33 :: c34 :: c35 :: c36 :: c37 :: c38 :: c39 :: c40 :: c41 :: c42 :: c43 :: c44 :: c45 :: c46 :: c47 :: c48 :: c49 :: c50 :: c51 :: c52 :: c53 :: c54 :: c55 :: c56 :: c57 :: c58 :: c59 :: c60 :: c61 :: c62 :: c63 :: c64 :: c65 :: c66 :: c67 :: c68 :: c69 :: c70 :: c71 :: c72 :: c73 :: c74 :: c75 :: c76 :: c77 :: c78 :: c79 :: c80 :: c81 :: c82 :: c83 :: c84 :: c85 :: c86 :: c87 :: c88 :: c89 :: c90 :: c91 :: c92 :: c93 :: c94 :: c95 :: c96 :: c97 :: c98 :: c99 :: c100 :: c101 :: c102 :: c103 :: c104 :: c105 :: c106 :: c107 :: c108 :: c109 :: c110 :: c111 :: c112 :: c113 :: c114 :: c115 :: c116 :: c117 :: c118 :: c119 :: c120 :: c121 :: c122 :: c123 :: c124 :: c125 :: c126 :: c127 :: c128 :: c129 :: c130 :: c131 :: c132 :: c133 :: c134 :: c135 :: c136 :: c137 :: c138 :: c139 :: c140 :: c141 :: c142 :: c143 :: c144 :: c145 :: c146 :: c147 :: c148 :: c149 :: c150 :: c151 :: c152 :: c153 :: c154 :: c155 :: c156 :: c157 :: u158 :: u159 :: u160 :: u161 :: u162 :: u163 :: u164 :: u165 :: u166 :: u167 :: u168 :: u169 :: u170 :: u171 :: u172 :: u173 :: u174 :: u175 :: u176 :: u177 :: u178 :: c179 :: []).toArray, []⟩ W')) :
    Code.wp Tryz.prog (Code.loop ((((Tryz.f182.body.map loopsOf).getD [])[7]?).getD .skip)) Q0 ⟨(c0 :: (.pointer (some ⟨A, 0, none⟩)) :: c2 :: (.int .i64 ((lfS (7 * t) : Nat) : Int)) :: c4 :: c5 :: c6 :: c7 :: c8 :: c9 :: c10 :: c11 :: c12 :: c13 :: c14 :: c15 :: c16 :: c17 :: (.int .i64 0) :: c19 :: c20 :: c21 :: c22 :: c23 :: c24 :: c25 :: c26 :: c27 :: c28 :: c29 :: c30 :: c31 :: c32 :: c33 :: c34 :: c35 :: c36 :: c37 :: c38 :: c39 :: c40 :: c41 :: c42 :: c43 :: c44 :: c45 :: c46 :: c47 :: c48 :: c49 :: c50 :: c51 :: c52 :: c53 :: c54 :: c55 :: c56 :: c57 :: c58 :: c59 :: c60 :: c61 :: c62 :: c63 :: c64 :: c65 :: c66 :: c67 :: c68 :: c69 :: c70 :: c71 :: c72 :: c73 :: c74 :: c75 :: c76 :: c77 :: c78 :: c79 :: c80 :: c81 :: c82 :: c83 :: c84 :: c85 :: c86 :: c87 :: c88 :: c89 :: c90 :: c91 :: c92 :: c93 :: c94 :: c95 :: c96 :: c97 :: c98 :: c99 :: c100 :: c101 :: c102 :: c103 :: c104 :: c105 :: c106 :: c107 :: c108 :: c109 :: c110 :: c111 :: c112 :: c113 :: c114 :: c115 :: c116 :: c117 :: c118 :: c119 :: c120 :: c121 :: c122 :: c123 :: c124 :: c125 :: c126 :: c127 :: c128 :: c129 :: c130 :: c131 :: c132 :: c133 :: c134 :: c135 :: c136 :: c137 :: c138 :: c139 :: c140 :: c141 :: c142 :: c143 :: c144 :: c145 :: c146 :: c147 :: c148 :: c149 :: c150 :: c151 :: c152 :: c153 :: c154 :: c155 :: c156 :: c157 :: c158 :: c159 :: c160 :: c161 :: c162 :: c163 :: c164 :: c165 :: c166 :: c167 :: c168 :: c169 :: c170 :: c171 :: c172 :: c173 :: c174 :: c175 :: c176 :: c177 :: c178 :: c179 :: []).toArray, []⟩ W := by
  conv => arg 2; arg 1; whnf
  refine Code.wp_mono NoPanic.imp ?_
  go_loopw [3, 18] (fun f i wr => ∃ j v : Nat, j ≤ 7 ∧ f = .int .i64 v ∧ i = .int .i64 j ∧ Hid (v = lfS (7 * t + j)) ∧ w.grownBy wr none ∧ Row wr A 25 (upd Q 0 (iotaTo (Q 0) t j)) ∧ Row wr R 25 Z) (fun _ i _ => 7 - (intOf i).toNat)
  case atStart => exact ⟨0, lfS (7 * t), by omega, rfl, rfl, show _ = _ from rfl, hg0, hA0.ext (fun j _ => by show Q j = upd Q 0 (Q 0) j; unfold upd; split; (rename_i e; rw [e]); rfl), hR0⟩
  case round =>
    clear hg0 hA0 hR0
    obtain ⟨j, v, hj, rfl, rfl, HV, hg, hA, hR⟩ := hrel
    by_cases hlt7 : j < 7
    · have hv : v < 256 := by rw [HV.out]; exact lfS_lt _ (by omega)
      obtain ⟨hand, hwr, hxor⟩ := iota_facts v hv
      have e0 := (hA 0 (by omega)).1
      have f0 := (hA 0 (by omega)).2
      rw [upd_same] at e0
      have b0 : (0 : Int) ≤ (v : Int) := by omega
      have b1 : (v : Int) < 256 := by omega
      have j0 : (0 : Int) ≤ (j : Int) := by omega
      have j1 : (j : Int) < 7 := by omega
      have HX : Hid (bits BinOp.xor IntKind.i64 ((v : Int) * 2) 369 = (((v * 2) ^^^ 369 : Nat) : Int)) := hxor
      clear hxor
      rcases (show v % 2 = 0 ∨ v % 2 = 1 by omega) with hb | hb
      · have hand0 : bits BinOp.and IntKind.i64 (v : Int) 1 = 0 := by rw [hand, hb]; rfl
        have HS : Hid (iotaTo (Q 0) t (j + 1) = iotaTo (Q 0) t j) := iota_not (Q 0) t j (by rw [← HV.out]; exact hb)
        clear hand hb
        by_cases ho : (255 : Int) < (v : Int) * 2
        · have HL : Hid (lfS (7 * t + (j + 1)) = (v * 2) ^^^ 369) := show _ = _ by rw [HV.out]; exact lfS_over (7 * t + j) (by rw [← HV.out]; omega)
          go_wp2
          go_roundw
          case rel => exact ⟨j + 1, (v * 2) ^^^ 369, by omega, by rw [HX.out], by go_num, show _ = _ from HL.out.symm, hg, by rw [HS.out]; exact hA, hR⟩
          case measure => simp [intOf]; omega
        · have HL : Hid (lfS (7 * t + (j + 1)) = v * 2) := show _ = _ by rw [HV.out]; exact lfS_under (7 * t + j) (by rw [← HV.out]; omega)
          go_wp2
          go_roundw
          case rel => exact ⟨j + 1, v * 2, by omega, by go_num, by go_num, show _ = _ from HL.out.symm, hg, by rw [HS.out]; exact hA, hR⟩
          case measure => simp [intOf]; omega
      · have hand1 : bits BinOp.and IntKind.i64 (v : Int) 1 = 1 := by rw [hand, hb]; rfl
        have HS : Hid (iotaTo (Q 0) t (j + 1) = bits BinOp.xor IntKind.u64 (iotaTo (Q 0) t j) (2 ^ (2 ^ j - 1))) := iota_one (Q 0) t j (by rw [← HV.out]; exact hb)
        clear hand hb
        obtain ⟨m1, m2, K, k0, k1, k2, k3, k4, k5, HK⟩ := shl_facts j hlt7
        have HS2 : Hid (iotaTo (Q 0) t (j + 1) = bits BinOp.xor IntKind.u64 (iotaTo (Q 0) t j) K) := show _ = _ by rw [HS.out, HK.out]
        clear HS
        by_cases ho : (255 : Int) < (v : Int) * 2
        · have HL : Hid (lfS (7 * t + (j + 1)) = (v * 2) ^^^ 369) := show _ = _ by rw [HV.out]; exact lfS_over (7 * t + j) (by rw [← HV.out]; omega)
          go_wp2
          go_region
          go_wp2
          go_roundw
          case rel => exact ⟨j + 1, (v * 2) ^^^ 369, hlt7, by rw [HX.out], by go_num, show _ = _ from HL.out.symm, grown_drew (grown_setNew hg hAw _), by rw [HS2.out]; exact ((hA.set (i := 0) (by decide) _).drew).ext (fun i _ => by unfold upd; split <;> rfl), (hR.set_other n4 _).drew⟩
          case measure => simp [intOf]; omega
        · have HL : Hid (lfS (7 * t + (j + 1)) = v * 2) := show _ = _ by rw [HV.out]; exact lfS_under (7 * t + j) (by rw [← HV.out]; omega)
          go_wp2
          go_region
          go_wp2
          go_roundw
          case rel => exact ⟨j + 1, v * 2, hlt7, by go_num, by go_num, show _ = _ from HL.out.symm, grown_drew (grown_setNew hg hAw _), by rw [HS2.out]; exact ((hA.set (i := 0) (by decide) _).drew).ext (fun i _ => by unfold upd; split <;> rfl), (hR.set_other n4 _).drew⟩
          case measure => simp [intOf]; omega
    · have hj7 : j = 7 := by omega
      subst hj7
      go_wp2
      exact hexit.out _ _ _ _ _ _ _ _ _ _ _ _ _ _ _ _ _ _ _ _ _ _ _ wr (by rw [HV.out]; rfl) hg hA hR
end Go.Proofs.YtkijpphmiogbbaaGreatDoor
