import Derived.Test.YtkijpphmiogbbaaGreatDoorH40
namespace Go.Proofs.YtkijpphmiogbbaaGreatDoor
open Go.RowKit
attribute [local go_sem ↓] Go.wp_at_zero Go.wp_at_succ

/-- The lanes when p rates of a text were taken. -/
def blkTo (L B : Nat → Int) (rate : Nat) : Nat → (Nat → Int)
  | 0 => L
  | p + 1 => permF (mixTo (blkTo L B rate p) B (p * rate) rate)
theorem mix_same {a b B : Nat → Int} (h : Same a b) (off : Nat) : ∀ k, k ≤ 200 → Same (mixTo a B off k) (mixTo b B off k)
  | 0, _ => h
  | k + 1, hk => fun j hj => by
    have ih := mix_same (B := B) h off k (by omega)
    show upd (mixTo a B off k) (k / 8) (mixI (mixTo a B off k (k / 8)) (B (off + k)) k) j = upd (mixTo b B off k) (k / 8) (mixI (mixTo b B off k (k / 8)) (B (off + k)) k) j
    unfold upd
    rw [ih (k / 8) (by omega), ih j hj]
theorem blk_next {a L B : Nat → Int} {rate p : Nat} (hr : rate ≤ 200) (h : Same a (blkTo L B rate p)) : Same (permR (mixTo a B (p * rate) rate) 24) (blkTo L B rate (p + 1)) :=
  perm_same (mix_same h _ rate hr) 24 (Nat.le_refl _)
theorem blk_facts (p M rate i N : Nat) (hi : i = p * rate) (hN : N = M * rate) (hlt : i < N) : i + rate ≤ N ∧ i + rate = (p + 1) * rate := by
  have h1 : p < M := by
    rcases Nat.lt_or_ge p M with h | h
    · exact h
    · have := Nat.mul_le_mul_right rate h; omega
  have h2 := Nat.mul_le_mul_right rate (show p + 1 ≤ M by omega)
  have h3 : (p + 1) * rate = p * rate + rate := by rw [Nat.add_mul, Nat.one_mul]
  omega
set_option maxHeartbeats 1000000 in
set_option maxRecDepth 10000 in
theorem ph_blocks (Q0 : Exit → Act → World → Prop) (A rate g N M cap : Nat) (L B : Nat → Int) (c1 c2 c3 c4 c5 c6 c7 c8 c12 c13 c14 c15 c16 c17 c18 c19 c20 c21 c22 c23 c24 c25 c26 c27 c28 c29 c30 c31 c32 c33 c34 c35 c36 c37 c38 c39 c40 c41 c42 c43 c44 c45 c46 c47 c48 c49 c50 c51 c52 c53 c54 c55 c56 c57 c58 c59 c60 c61 c62 c63 c64 c65 c66 c67 c68 c69 c70 c71 c72 c73 c74 c75 c76 c77 c78 c79 c80 c81 c82 c83 c84 c85 c86 c87 c88 c89 c90 c91 c92 c93 c94 c95 c96 c97 c98 c99 c100 c101 c102 c103 c104 c105 c106 c107 c108 : Value) (W : World)
    (hr0 : 0 < rate) (hr : rate ≤ 200) (hNM : N = M * rate) (hcn : N ≤ 1099511627776) (hgA : g ≠ A)
    (hA0 : Row W A 25 L) (hB0 : ∀ j, j < N → W.cell? ⟨g, j, none⟩ = some (.int .u8 (B j)))
    (hexit : Hid (∀ (u11 u12 u41 u42 u43 u44 u45 u46 u47 u48 u49 u50 u51 u52 u53 u54 u55 u56 u57 u58 u59 u60 u61 u62 u63 u64 u65 u66 u67 u68 u69 u70 u71 u72 u73 : Value) (W' : World) (a : Nat → Int), W.grownBy W' (some A) → Same a (blkTo L B rate M) → Row W' A 25 a → Q0 (.exit 2) ⟨((.int .i64 (rate : Int)) :: c1 :: c2 :: c3 :: c4 :: c5 :: c6 :: c7 :: c8 :: (.pointer (some ⟨A, 0, none⟩)) :: (.slice (some ⟨g, 0, none⟩) N cap) :: u11 :: u12 :: c13 :: c14 :: c15 :: c16 :: c17 :: c18 :: c19 :: c20 :: c21 :: c22 :: c23 :: c24 :: c25 :: c26 :: c27 :: c28 :: c29 :: c30 :: c31 :: c32 :: c33 :: c34 :: c35 :: c36 :: c37 :: c38 :: c39 :: c40 :: u41 :: u42 :: u43 :: u44 :: u45 :: u46 :: u47 :: u48 :: u49 :: u50 :: u51 :: u52 :: u53 :: u54 :: u55 :: u56 :: u57 :: u58 :: u59 :: u60 :: u61 :: u62 :: u63 :: u64 :: u65 :: u66 :: u67 :: u68 :: u69 :: u70 :: u71 :: u72 :: u73 :: c74 :: c75 :: c76 :: c77 :: c78 :: c79 :: c80 :: c81 :: c82 :: c83 :: c84 :: c85 :: c86 :: c87 :: c88 :: c89 :: c90 :: c91 :: c92 :: c93 :: c94 :: c95 :: c96 :: c97 :: c98 :: c99 :: c100 :: c101 :: c102 :: c103 :: c104 :: c105 :: c106 :: c107 :: c108 :: []).toArray, []⟩ W')) :
    Code.wp Tryz.prog (Code.loop ((((Tryz.f94.body.map loopsOf).getD [])[1]?).getD .skip)) Q0 ⟨((.int .i64 (rate : Int)) :: c1 :: c2 :: c3 :: c4 :: c5 :: c6 :: c7 :: c8 :: (.pointer (some ⟨A, 0, none⟩)) :: (.slice (some ⟨g, 0, none⟩) N cap) :: (.int .i64 0) :: c12 :: c13 :: c14 :: c15 :: c16 :: c17 :: c18 :: c19 :: c20 :: c21 :: c22 :: c23 :: c24 :: c25 :: c26 :: c27 :: c28 :: c29 :: c30 :: c31 :: c32 :: c33 :: c34 :: c35 :: c36 :: c37 :: c38 :: c39 :: c40 :: c41 :: c42 :: c43 :: c44 :: c45 :: c46 :: c47 :: c48 :: c49 :: c50 :: c51 :: c52 :: c53 :: c54 :: c55 :: c56 :: c57 :: c58 :: c59 :: c60 :: c61 :: c62 :: c63 :: c64 :: c65 :: c66 :: c67 :: c68 :: c69 :: c70 :: c71 :: c72 :: c73 :: c74 :: c75 :: c76 :: c77 :: c78 :: c79 :: c80 :: c81 :: c82 :: c83 :: c84 :: c85 :: c86 :: c87 :: c88 :: c89 :: c90 :: c91 :: c92 :: c93 :: c94 :: c95 :: c96 :: c97 :: c98 :: c99 :: c100 :: c101 :: c102 :: c103 :: c104 :: c105 :: c106 :: c107 :: c108 :: []).toArray, []⟩ W := by
  conv => arg 2; arg 1; whnf
  refine Code.wp_mono NoPanic.imp ?_
  have HB : Hid (∀ j, j < N → W.cell? ⟨g, j, none⟩ = some (.int .u8 (B j))) := hB0
  have HN : Hid (N = M * rate) := hNM
  have r200 : (rate : Int) ≤ 200 := by omega
  have n40 : (N : Int) ≤ 1099511627776 := by omega
  clear hB0 hNM
  go_loopw [11] (fun x wr => ∃ (p i : Nat) (a : Nat → Int), i ≤ N ∧ Hid (i = p * rate) ∧ x = .int .i64 i ∧ W.grownBy wr (some A) ∧ Same a (blkTo L B rate p) ∧ Row wr A 25 a) (fun x _ => N - (intOf x).toNat)
  case atStart => exact ⟨0, 0, L, Nat.zero_le _, show _ = _ by omega, rfl, World.grownBy.refl W _, fun _ _ => rfl, hA0⟩
  case round =>
    clear hA0
    obtain ⟨p, i, a, hiN, HI, rfl, hg, hs, hA⟩ := hrel
    by_cases hlt : i < N
    · obtain ⟨k1, k2⟩ := blk_facts p M rate i N HI.out HN.out hlt
      have K2 : Hid (i + rate = (p + 1) * rate) := k2
      have hl : (i : Int) < (N : Int) := by omega
      clear k2
      have hB1 : ∀ j, j < N → wr.cell? ⟨g, j, none⟩ = some (.int .u8 (B j)) := fun j hj => hg.cell (HB.out j hj) (by simpa using hgA)
      have HB1 : Hid (∀ j, j < N → wr.cell? ⟨g, j, none⟩ = some (.int .u8 (B j))) := hB1
      clear hB1
      go_wp2
      refine ph_mix _ A rate g N cap i a B _ _ _ _ _ _ _ _ _ _ _ _ _ _ _ _ _ _ _ _ _ _ _ _ _ _ _ _ _ _ _ _ _ _ _ _ _ _ _ _ _ _ _ _ _ _ _ _ _ _ _ _ _ _ _ _ _ _ _ _ _ _ _ _ _ _ _ _ _ _ _ _ _ _ _ _ _ _ _ _ _ _ _ _ _ _ _ _ _ _ _ _ _ _ _ _ _ _ _ _ _ _ _ _ _ hr k1 hcn hgA hA HB1.out ?_
      intro x12 x48 x49 x50 x51 x52 x53 x54 x55 x56 x57 x58 x59 x60 x61 x62 x63 x64 x65 x66 x67 x68 x69 x70 x71 W1 hg1 hA1
      have hg01 := grownBy_trans hg hg1
      clear hg hg1 hA
      generalize hmx : mixTo a B i rate = b at *
      have HX : Hid (mixTo a B i rate = b) := hmx
      clear hmx
      go_wp2_with (first | (refine wpList_load_cells rfl 225 _ rfl A rfl (lanesA b) _ (lanesA_cells hA1) Tryz.uState rfl (Tryz.sState b) ?_))
      obtain ⟨c, HC⟩ : ∃ c, Hid (permR b 24 = c) := ⟨permR b 24, show _ = _ from rfl⟩
      have hpc := permuted_any b W1
      rw [HC.out] at hpc
      refine hpc.mono ?_
      clear hpc
      rintro e W2 ⟨rfl, hg2⟩
      have hA2 := row_kept hA1 hg2 (Option.some_ne_none A)
      have hth : W2.there A 0 (lanesA c).size := fun j hj => by
        rw [lanesA_size] at hj
        rw [Nat.zero_add]
        exact ⟨by rw [(hA2 j hj).1]; rfl, (hA2 j hj).2⟩
      have hg02 : W.grownBy W2 (some A) := grownBy_trans hg01 ⟨hg2.os, hg2.tape, hg2.output, hg2.size, fun k hk _ => hg2.block k hk (Option.some_ne_none k)⟩
      go_wp2_with (first | (refine wpList_store_mid ?ga 225 (.tmp 9) (.tmp 73) ?gb A 0 (lanesA c) ?gc ?gd ?ge (Tryz.sState _) (lanesA_one _) ?_; (case gb => rfl); (case ga => rfl); (case gc => rfl); (case gd => rfl); (case ge => exact hth)))
      have hA3 := hA2.set25 c
      have hg03 : W.grownBy (W2.setCells A 0 (lanesA c).toList) (some A) := grownBy_trans hg02 (grown_setCells A _ 0 W2)
      go_roundw
      case rel =>
        exact ⟨p + 1, i + rate, c, k1, K2.out, by go_num, hg03, by rw [← HC.out, ← HX.out, HI.out]; exact blk_next hr hs, hA3⟩
      case measure => show N - (i + rate) < N - i; omega
    · have hiN2 : N = i := by omega
      subst hiN2
      have hpM : p = M := Nat.eq_of_mul_eq_mul_right hr0 (by rw [← HI.out, ← HN.out])
      subst hpM
      go_wp2
      exact hexit.out _ _ _ _ _ _ _ _ _ _ _ _ _ _ _ _ _ _ _ _ _ _ _ _ _ _ _ _ _ _ _ _ _ _ _ wr a hg hs hA
end Go.Proofs.YtkijpphmiogbbaaGreatDoor
