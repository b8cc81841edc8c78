import Derived.Test.YtkijpphmiogbbaaGreatDoorH37
namespace Go.Proofs.YtkijpphmiogbbaaGreatDoor
open Go.RowKit
attribute [local go_sem ↓] Go.wp_at_zero Go.wp_at_succ

theorem Tryz.uBytes : Tryz.prog.underlying 41 = some (.slice 5) := by kernel_rfl
/-- Byte k of a state, as the document's sponge takes it out: the program's. -/
theorem byteAt_same {a b : Nat → Int} (h : Same a b) (k : Nat) (hk : k < 200) : byteAt a k = byteAt b k := by
  unfold byteAt; rw [h (k / 8) (by omega)]
theorem own_form {w : World} {base : Nat} {e : TypeId} {size : Nat} {v : Value} {n : Nat} {xs : List Value} (h : w.ownsRow base e size v n xs) : ∃ a0 cap, v = .slice a0 n cap := by
  rcases h.2 with ⟨rfl, rfl⟩ | ⟨g, cap, cur, rfl, _⟩
  · exact ⟨none, 0, rfl⟩
  · exact ⟨_, cap, rfl⟩
theorem own_far {w : World} {A : Nat} {e : TypeId} {size : Nat} {v : Value} {n : Nat} {xs : List Value} (h : w.ownsRow (A + 1) e size v n xs) : some A ≠ v.ownBlock := by
  intro e1
  have := h.lt A e1.symm
  omega
theorem row_kept {w w' : World} {b n : Nat} {L : Nat → Int} {r : Option Nat} (h : Row w b n L) (g : w.grownBy w' r) (hne : some b ≠ r) : Row w' b n L := fun i hi =>
  ⟨g.cell (h i hi).1 hne, by rw [g.frozen_far ⟨b, i, none⟩ (cell_lt (h i hi).1) hne]; exact (h i hi).2⟩
theorem grown_own {w w1 w2 : World} {A : Nat} {e : TypeId} {size : Nat} {v : Value} {n : Nat} {xs : List Value} (g1 : w.grownBy w1 none) (hw : w.heap.size ≤ A) (ho : w1.ownsRow (A + 1) e size v n xs) (g2 : w1.grownBy w2 v.ownBlock) : w.grownBy w2 none :=
  ⟨g2.os.trans g1.os, g2.tape.trans g1.tape, g2.output.trans g1.output, Nat.le_trans g1.size g2.size, fun k hk hr => (g2.block k (Nat.lt_of_lt_of_le hk g1.size) (fun e1 => by have := ho.lt k e1.symm; omega)).trans (g1.block k hk hr)⟩
theorem byte_facts (k rate i cnt : Nat) (hk : k < rate) (hr : rate ≤ 200) (hi : i < cnt) (hc : cnt ≤ 1099511627776) : ∃ q : Nat, q = k / 8 ∧ q < 25 ∧ (k : Int) / 8 = (q : Int) ∧ (0 : Int) ≤ (k : Int) ∧ (k : Int) < 200 ∧ (k : Int) < (rate : Int) ∧ (i : Int) < (cnt : Int) ∧ (cnt : Int) ≤ 1099511627776 ∧ (0 : Int) ≤ (q : Int) ∧ (q : Int) < 25 ∧ (8 * ((k : Int) % 8)).toNat = ((k : Int) % 8 * 8).toNat ∧ 8 * ((k : Int) % 8) < 64 ∧ 0 ≤ 8 * ((k : Int) % 8) :=
  ⟨k / 8, rfl, by omega, by omega, by omega, by omega, by omega, by omega, by omega, by omega, by omega, by omega, by omega, by omega⟩
def outV (F : Spg) (i : Nat) : List Value := (List.range i).map (fun k => Value.int .u8 (outI F k))
theorem outV_len (F : Spg) (i : Nat) : (outV F i).length = i := by simp [outV]
theorem outV_succ (F : Spg) (i : Nat) : outV F (i + 1) = outV F i ++ [.int .u8 (outI F i)] := by
  unfold outV; rw [List.range_succ, List.map_append]; rfl
set_option maxHeartbeats 1000000 in
set_option maxRecDepth 10000 in
theorem ph_row (Q0 : Exit → Act → World → Prop) (A rate cnt m : Nat) (F : Spg) (a : Nat → Int) (v0 : Value) (c1 c2 c4 c5 c6 c7 c8 c10 c11 c12 c15 c16 c17 c18 c19 c20 c21 c22 c23 c24 c25 c26 c27 c28 c29 c30 c31 c32 c33 c34 c35 c36 c37 c38 c39 c40 c41 c42 c43 c44 c45 c46 c47 c48 c49 c50 c51 c52 c53 c54 c55 c56 c57 c58 c59 c60 c61 c62 c63 c64 c65 c66 c67 c68 c69 c70 c71 c72 c73 c74 c75 c76 c77 c78 c79 c80 c81 c82 c83 c84 c85 c86 c87 c88 c89 c90 c91 c92 c93 c94 c95 c96 c97 c98 c99 c100 c101 c102 c103 c104 c105 c106 c107 c108 : Value) (w W : World)
    (hr0 : 0 < rate) (hr : rate ≤ 200) (hcn : cnt ≤ 1099511627776) (hFp : F.place = 0) (hFr : F.rate = rate) (ha : Same a (permN F.L m)) (hAw : w.heap.size ≤ A)
    (hg0 : w.grownBy W none) (hA0 : Row W A 25 a) (hm : m * rate < cnt) (ho0 : W.ownsRow (A + 1) 5 1 v0 (m * rate) (outV F (m * rate)))
    (hexit : Hid (∀ (u14 u78 u79 u80 u81 u82 u83 u84 u85 u86 u87 u88 u89 u90 u91 u92 u93 u94 u95 u96 u97 u98 u99 u100 v1 : Value) (W' : World) (i : Nat), (i = cnt ∨ (i = (m + 1) * rate ∧ i < cnt)) → w.grownBy W' none → Row W' A 25 a → W'.ownsRow (A + 1) 5 1 v1 i (outV F i) → Q0 (.exit 8) ⟨((.int .i64 (rate : Int)) :: c1 :: c2 :: (.int .i64 (cnt : Int)) :: c4 :: c5 :: c6 :: c7 :: c8 :: (.pointer (some ⟨A, 0, none⟩)) :: c10 :: c11 :: c12 :: v1 :: u14 :: c15 :: c16 :: c17 :: c18 :: c19 :: c20 :: c21 :: c22 :: c23 :: c24 :: c25 :: c26 :: c27 :: c28 :: c29 :: c30 :: c31 :: c32 :: c33 :: c34 :: c35 :: c36 :: c37 :: c38 :: c39 :: c40 :: c41 :: c42 :: c43 :: c44 :: c45 :: c46 :: c47 :: c48 :: c49 :: c50 :: c51 :: c52 :: c53 :: c54 :: c55 :: c56 :: c57 :: c58 :: c59 :: c60 :: c61 :: c62 :: c63 :: c64 :: c65 :: c66 :: c67 :: c68 :: c69 :: c70 :: c71 :: c72 :: c73 :: c74 :: c75 :: c76 :: c77 :: u78 :: u79 :: u80 :: u81 :: u82 :: u83 :: u84 :: u85 :: u86 :: u87 :: u88 :: u89 :: u90 :: u91 :: u92 :: u93 :: u94 :: u95 :: u96 :: u97 :: u98 :: u99 :: u100 :: c101 :: c102 :: c103 :: c104 :: c105 :: c106 :: c107 :: c108 :: []).toArray, []⟩ W')) :
    Code.wp Tryz.prog (Code.loop ((((Tryz.f94.body.map loopsOf).getD [])[4]?).getD .skip)) Q0 ⟨((.int .i64 (rate : Int)) :: c1 :: c2 :: (.int .i64 (cnt : Int)) :: c4 :: c5 :: c6 :: c7 :: c8 :: (.pointer (some ⟨A, 0, none⟩)) :: c10 :: c11 :: c12 :: v0 :: (.int .i64 0) :: c15 :: c16 :: c17 :: c18 :: c19 :: c20 :: c21 :: c22 :: c23 :: c24 :: c25 :: c26 :: c27 :: c28 :: c29 :: c30 :: c31 :: c32 :: c33 :: c34 :: c35 :: c36 :: c37 :: c38 :: c39 :: c40 :: c41 :: c42 :: c43 :: c44 :: c45 :: c46 :: c47 :: c48 :: c49 :: c50 :: c51 :: c52 :: c53 :: c54 :: c55 :: c56 :: c57 :: c58 :: c59 :: c60 :: c61 :: c62 :: c63 :: c64 :: c65 :: c66 :: c67 :: c68 :: c69 :: c70 :: c71 :: c72 :: c73 :: c74 :: c75 :: c76 :: c77 :: c78 :: c79 :: c80 :: c81 :: c82 :: c83 :: c84 :: c85 :: c86 :: c87 :: c88 :: c89 :: c90 :: c91 :: c92 :: c93 :: c94 :: c95 :: c96 :: c97 :: c98 :: c99 :: c100 :: c101 :: c102 :: c103 :: c104 :: c105 :: c106 :: c107 :: c108 :: []).toArray, []⟩ W := by
  conv => arg 2; arg 1; whnf
  refine Code.wp_mono NoPanic.imp ?_
  obtain ⟨i0, hi, hz0, hz1, hz2⟩ := info_parts Tryz.info5
  go_loopw [13, 14] (fun v x wr => ∃ k : Nat, k ≤ rate ∧ m * rate + k ≤ cnt ∧ x = .int .i64 k ∧ w.grownBy wr none ∧ Row wr A 25 a ∧ wr.ownsRow (A + 1) 5 1 v (m * rate + k) (outV F (m * rate + k))) (fun _ x _ => rate - (intOf x).toNat)
  case atStart => exact ⟨0, by omega, by omega, rfl, hg0, hA0, ho0⟩
  case round =>
    clear hg0 hA0 ho0
    obtain ⟨k, hk, hkc, rfl, hg, hA, hown⟩ := hrel
    obtain ⟨i, hi1⟩ : ∃ i, i = m * rate + k := ⟨_, rfl⟩
    rw [← hi1] at hown hkc
    by_cases hlt : k < rate ∧ i < cnt
    · obtain ⟨l1, l2⟩ := hlt
      obtain ⟨q, hq, hq25, f1, f2, f3, f4, f5, f6, f7, f8, f9, f10, f11⟩ := byte_facts k rate i cnt l1 hr l2 hcn
      have HB : Hid (byteAt a k = outI F i) := show _ = _ by
        rw [byteAt_same ha k (by omega), outI_at F hFp (by omega) i, hFr, hi1, Nat.mul_comm m rate, Nat.mul_add_div hr0, Nat.div_eq_of_lt l1, Nat.mul_add_mod, Nat.mod_eq_of_lt l1, Nat.add_zero]
      have HB2 : Hid (a q / 2 ^ (8 * (k % 8)) % 256 = outI F i) := show _ = _ by
        rw [← HB.out]
        unfold byteAt
        rw [IntKind.wrap_u8', hq, show ((k : Int) % 8 * 8).toNat = 8 * (k % 8) by omega]
      have e0 := (hA q hq25).1
      obtain ⟨s0, cap, rfl⟩ := own_form hown
      have HI : Hid (i = m * rate + k) := hi1
      clear hi1 hq f9 HB
      have hlA : A < wr.heap.size := hA.lt (by decide)
      go_wp2_with (first | (at_builtin; refine wpList_append_own _ rfl _ _ 41 rfl (A + 1) 5 i0 (.int .u8 0) 1 1 Tryz.uBytes hi hz0 hz1 hz2 rfl (by decide) _ i _ rfl (hown.alloc _) ⟨wr.heap.size, 0, none⟩ 1 1 [.int .u8 (a q / 2 ^ (8 * (k % 8)) % 256)] rfl rfl ?c1 ?c2 ?c3 ?c4 ?c5 ?_))
      case c1 =>
        intro j u hj
        match j, hj with
        | 0, hj => simp at hj; subst hj; simp [Addr.add]
      case c2 => intro u hu; simp at hu; subst hu; rfl
      case c3 => unfold maxLen; omega
      case c4 => omega
      case c5 => simp; omega
      · intro v' w' hown' hgrow _
        rw [HB2.out, ← outV_succ] at hown'
        have ho2 := hown.alloc (.cells #[.int .u8 (a q / 2 ^ (8 * (k % 8)) % 256)] 5)
        have hg2 : w.grownBy w' none := grown_own (grownBy_trans hg (World.grownBy_alloc _ _ _)) hAw ho2 hgrow
        have hA2 : Row w' A 25 a := row_kept (hA.alloc _) hgrow (own_far ho2)
        clear hgrow ho2 hown hg hA e0
        go_wp2
        go_roundw
        case rel => exact ⟨k + 1, l1, by have := HI.out; omega, by go_num, hg2, hA2, by rw [← Nat.add_assoc, ← HI.out]; exact hown'⟩
        case measure => simp [intOf]; omega
    · obtain ⟨s0, cap, rfl⟩ := own_form hown
      have key : (k = rate ∧ i < cnt) ∨ (k = rate ∧ i = cnt) ∨ (k < rate ∧ i = cnt) := by omega
      have c40 : (cnt : Int) ≤ 1099511627776 := by omega
      have r200 : (rate : Int) ≤ 200 := by omega
      rcases key with ⟨h1, h2⟩ | ⟨h1, h2⟩ | ⟨h1, h2⟩
      · have HI : Hid (i = (m + 1) * rate) := show _ = _ by rw [hi1, h1, Nat.add_mul, Nat.one_mul]
        subst h1
        clear hi1 hlt hk hkc
        have h3 : (i : Int) < (cnt : Int) := by omega
        go_wp2
        exact hexit.out _ _ _ _ _ _ _ _ _ _ _ _ _ _ _ _ _ _ _ _ _ _ _ _ _ wr i (Or.inr ⟨HI.out, h2⟩) hg hA hown
      · clear hi1 hlt hk hkc
        subst h1
        subst h2
        go_wp2
        exact hexit.out _ _ _ _ _ _ _ _ _ _ _ _ _ _ _ _ _ _ _ _ _ _ _ _ _ wr i (Or.inl rfl) hg hA hown
      · clear hi1 hlt hk hkc
        subst h2
        have h3 : (k : Int) < (rate : Int) := by omega
        go_wp2
        exact hexit.out _ _ _ _ _ _ _ _ _ _ _ _ _ _ _ _ _ _ _ _ _ _ _ _ _ wr i (Or.inl rfl) hg hA hown
end Go.Proofs.YtkijpphmiogbbaaGreatDoor
