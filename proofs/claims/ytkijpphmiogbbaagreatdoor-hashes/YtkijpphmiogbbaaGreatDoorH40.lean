import Derived.Test.YtkijpphmiogbbaaGreatDoorH39
namespace Go.Proofs.YtkijpphmiogbbaaGreatDoor
open Go.RowKit
attribute [local go_sem ↓] Go.wp_at_zero Go.wp_at_succ

/-- k bytes of a text from 'off' on are mixed into the lanes. -/
def mixTo (L : Nat → Int) (B : Nat → Int) (off : Nat) : Nat → (Nat → Int)
  | 0 => L
  | k + 1 => upd (mixTo L B off k) (k / 8) (mixI (mixTo L B off k (k / 8)) (B (off + k)) k)
theorem mix_facts (k rate off N : Nat) (hk : k < rate) (hr : rate ≤ 200) (hN : off + rate ≤ N) (hc : N ≤ 1099511627776) : ∃ q : Nat, q = k / 8 ∧ q < 25 ∧ off + k < N ∧ (k : Int) / 8 = (q : Int) ∧ (k : Int).tdiv 8 = (q : Int) ∧ IntKind.i64.wrap (q : Int) = (q : Int) ∧ (0 : Int) ≤ (k : Int) ∧ (k : Int) < 200 ∧ (k : Int) < (rate : Int) ∧ (0 : Int) ≤ (q : Int) ∧ (q : Int) < 25 ∧ IntKind.i64.wrap ((off : Int) + (k : Int)) = (off : Int) + (k : Int) ∧ (0 : Int) ≤ (off : Int) + (k : Int) ∧ (off : Int) + (k : Int) < (N : Int) ∧ ((off : Int) + (k : Int)).toNat = off + k ∧ (k : Int).tmod 8 = (k : Int) % 8 ∧ IntKind.i64.wrap ((k : Int) % 8) = (k : Int) % 8 ∧ IntKind.i64.wrap (8 * ((k : Int) % 8)) = 8 * ((k : Int) % 8) ∧ 8 * ((k : Int) % 8) < 64 ∧ 0 ≤ 8 * ((k : Int) % 8) ∧ (8 * ((k : Int) % 8)).toNat = 8 * (k % 8) := by
  have h1 : (k : Int).tdiv 8 = ((k / 8 : Nat) : Int) := by rw [Int.tdiv_eq_ediv_of_nonneg (by omega)]; omega
  have h2 : (k : Int).tmod 8 = (k : Int) % 8 := by rw [Int.tmod_eq_emod_of_nonneg (by omega)]
  simp only [IntKind.wrap_i64]
  refine ⟨k / 8, rfl, ?_, ?_, ?_, h1, ?_, ?_, ?_, ?_, ?_, ?_, ?_, ?_, ?_, ?_, h2, ?_, ?_, ?_, ?_, ?_⟩ <;> omega
set_option maxHeartbeats 1000000 in
set_option maxRecDepth 10000 in
theorem ph_mix (Q0 : Exit → Act → World → Prop) (A rate g N cap off : Nat) (L B : Nat → Int) (c1 c2 c3 c4 c5 c6 c7 c8 c13 c14 c15 c16 c17 c18 c19 c20 c21 c22 c23 c24 c25 c26 c27 c28 c29 c30 c31 c32 c33 c34 c35 c36 c37 c38 c39 c40 c41 c42 c43 c44 c45 c46 c47 c48 c49 c50 c51 c52 c53 c54 c55 c56 c57 c58 c59 c60 c61 c62 c63 c64 c65 c66 c67 c68 c69 c70 c71 c72 c73 c74 c75 c76 c77 c78 c79 c80 c81 c82 c83 c84 c85 c86 c87 c88 c89 c90 c91 c92 c93 c94 c95 c96 c97 c98 c99 c100 c101 c102 c103 c104 c105 c106 c107 c108 : Value) (W : World)
    (hr : rate ≤ 200) (hN : off + rate ≤ N) (hcn : N ≤ 1099511627776) (hgA : g ≠ A)
    (hA0 : Row W A 25 L) (hB0 : ∀ j, j < N → W.cell? ⟨g, j, none⟩ = some (.int .u8 (B j)))
    (hexit : Hid (∀ (u12 u48 u49 u50 u51 u52 u53 u54 u55 u56 u57 u58 u59 u60 u61 u62 u63 u64 u65 u66 u67 u68 u69 u70 u71 : Value) (W' : World), W.grownBy W' (some A) → Row W' A 25 (mixTo L B off rate) → Q0 (.exit 4) ⟨((.int .i64 (rate : Int)) :: c1 :: c2 :: c3 :: c4 :: c5 :: c6 :: c7 :: c8 :: (.pointer (some ⟨A, 0, none⟩)) :: (.slice (some ⟨g, 0, none⟩) N cap) :: (.int .i64 (off : Int)) :: u12 :: c13 :: c14 :: c15 :: c16 :: c17 :: c18 :: c19 :: c20 :: c21 :: c22 :: c23 :: c24 :: c25 :: c26 :: c27 :: c28 :: c29 :: c30 :: c31 :: c32 :: c33 :: c34 :: c35 :: c36 :: c37 :: c38 :: c39 :: c40 :: c41 :: c42 :: c43 :: c44 :: c45 :: c46 :: c47 :: u48 :: u49 :: u50 :: u51 :: u52 :: u53 :: u54 :: u55 :: u56 :: u57 :: u58 :: u59 :: u60 :: u61 :: u62 :: u63 :: u64 :: u65 :: u66 :: u67 :: u68 :: u69 :: u70 :: u71 :: c72 :: c73 :: c74 :: c75 :: c76 :: c77 :: c78 :: c79 :: c80 :: c81 :: c82 :: c83 :: c84 :: c85 :: c86 :: c87 :: c88 :: c89 :: c90 :: c91 :: c92 :: c93 :: c94 :: c95 :: c96 :: c97 :: c98 :: c99 :: c100 :: c101 :: c102 :: c103 :: c104 :: c105 :: c106 :: c107 :: c108 :: []).toArray, []⟩ W')) :
    Code.wp Tryz.prog (Code.loop ((((Tryz.f94.body.map loopsOf).getD [])[2]?).getD .skip)) Q0 ⟨((.int .i64 (rate : Int)) :: c1 :: c2 :: c3 :: c4 :: c5 :: c6 :: c7 :: c8 :: (.pointer (some ⟨A, 0, none⟩)) :: (.slice (some ⟨g, 0, none⟩) N cap) :: (.int .i64 (off : Int)) :: (.int .i64 0) :: c13 :: c14 :: c15 :: c16 :: c17 :: c18 :: c19 :: c20 :: c21 :: c22 :: c23 :: c24 :: c25 :: c26 :: c27 :: c28 :: c29 :: c30 :: c31 :: c32 :: c33 :: c34 :: c35 :: c36 :: c37 :: c38 :: c39 :: c40 :: c41 :: c42 :: c43 :: c44 :: c45 :: c46 :: c47 :: c48 :: c49 :: c50 :: c51 :: c52 :: c53 :: c54 :: c55 :: c56 :: c57 :: c58 :: c59 :: c60 :: c61 :: c62 :: c63 :: c64 :: c65 :: c66 :: c67 :: c68 :: c69 :: c70 :: c71 :: c72 :: c73 :: c74 :: c75 :: c76 :: c77 :: c78 :: c79 :: c80 :: c81 :: c82 :: c83 :: c84 :: c85 :: c86 :: c87 :: c88 :: c89 :: c90 :: c91 :: c92 :: c93 :: c94 :: c95 :: c96 :: c97 :: c98 :: c99 :: c100 :: c101 :: c102 :: c103 :: c104 :: c105 :: c106 :: c107 :: c108 :: []).toArray, []⟩ W := by
  conv => arg 2; arg 1; whnf
  refine Code.wp_mono NoPanic.imp ?_
  have n1 : ¬ g = A := hgA
  have n2 : ¬ A = g := Ne.symm hgA
  have HB : Hid (∀ j, j < N → W.cell? ⟨g, j, none⟩ = some (.int .u8 (B j))) := hB0
  clear hB0
  go_loopw [12] (fun x wr => ∃ k : Nat, k ≤ rate ∧ x = .int .i64 k ∧ W.grownBy wr (some A) ∧ Row wr A 25 (mixTo L B off k)) (fun x _ => rate - (intOf x).toNat)
  case atStart => exact ⟨0, Nat.zero_le _, rfl, World.grownBy.refl W _, hA0⟩
  case round =>
    clear hA0
    obtain ⟨k, hk, rfl, hg, hA⟩ := hrel
    by_cases hlt : k < rate
    · obtain ⟨q, hq, hq25, hokn, f1, f2, f3, f4, f5, f6, f7, f8, f9, f10, f11, f12, f13, f14, f15, f16, f17, f18⟩ := mix_facts k rate off N hlt hr hN hcn
      have e0 := (hA q hq25).1
      have e1 := (hA q hq25).2
      have b0 : wr.cell? ⟨g, off + k, none⟩ = some (.int .u8 (B (off + k))) := hg.cell (HB.out (off + k) hokn) (by simpa using hgA)
      have HM : Hid (bits BinOp.xor IntKind.u64 (mixTo L B off k q) (IntKind.u64.wrap (IntKind.u64.wrap (B (off + k)) * 2 ^ (8 * (k % 8)))) = mixI (mixTo L B off k (k / 8)) (B (off + k)) k) := show _ = _ by
        unfold mixI; rw [hq, show ((k : Int) % 8 * 8).toNat = 8 * (k % 8) by omega]
      have HQ : Hid (q = k / 8) := hq
      clear hq
      go_wp2
      go_region
      go_wp2
      go_roundw
      case rel =>
        refine ⟨k + 1, hlt, by go_num, grown_drew (grownBy_trans hg (grown_set A q wr _)), ?_⟩
        refine ((hA.set (i := q) hq25 _).drew).ext (fun j _ => ?_)
        show _ = upd (mixTo L B off k) (k / 8) (mixI (mixTo L B off k (k / 8)) (B (off + k)) k) j
        rw [← HM.out, ← HQ.out]
      case measure => simp [intOf]; omega
    · have hkr : rate = k := by omega
      subst hkr
      go_wp2
      exact hexit.out _ _ _ _ _ _ _ _ _ _ _ _ _ _ _ _ _ _ _ _ _ _ _ _ _ wr hg hA
end Go.Proofs.YtkijpphmiogbbaaGreatDoor
