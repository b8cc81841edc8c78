import Derived.Test.YtkijpphmiogbbaaGreatDoorK35
import Derived.Laws.Rows
namespace Go.Proofs.YtkijpphmiogbbaaGreatDoor
open Go.RowKit
attribute [local go_sem ↓] Go.wp_at_zero Go.wp_at_succ

def colSum (L : Nat → Int) (x : Nat) : Int := bits BinOp.xor IntKind.u64 (bits BinOp.xor IntKind.u64 (bits BinOp.xor IntKind.u64 (bits BinOp.xor IntKind.u64 (L x) (L (x + 5))) (L (x + 10))) (L (x + 15))) (L (x + 20))

def colMix (L : Nat → Int) (x : Nat) : Int := bits BinOp.xor IntKind.u64 (colSum L ((x + 4) % 5)) (rotI (colSum L ((x + 1) % 5)) 1)
def sumsTo (L : Nat → Int) (k : Nat) : Nat → Int := fun j => if j < k then colSum L j else 0
theorem sumsTo_step (L : Nat → Int) (k j : Nat) : upd (sumsTo L k) k (colSum L k) j = sumsTo L (k + 1) j := by
  unfold upd sumsTo
  by_cases e : j = k
  · subst e; rw [if_pos rfl, if_pos (by omega)]
  · rw [if_neg e]
    by_cases h : j < k
    · rw [if_pos h, if_pos (by omega)]
    · rw [if_neg h, if_neg (by omega)]
/-- Step 1, the first k columns done, of the next one m lanes. -/
def colsTo (L : Nat → Int) (k m : Nat) : Nat → Int := fun j => if j % 5 < k ∨ (j % 5 = k ∧ j / 5 < m) then bits BinOp.xor IntKind.u64 (L j) (colMix L (j % 5)) else L j
def mixColumnsF (L : Nat → Int) : Nat → Int := fun j => bits BinOp.xor IntKind.u64 (L j) (colMix L (j % 5))
theorem colsTo_zero (L : Nat → Int) (j : Nat) : colsTo L 0 0 j = L j := by
  unfold colsTo; rw [if_neg (by omega)]
theorem colsTo_five (L : Nat → Int) (k j : Nat) (hj : j < 25) : colsTo L k 5 j = colsTo L (k + 1) 0 j := by
  unfold colsTo
  by_cases h : j % 5 < k + 1
  · rw [if_pos (by omega), if_pos (by omega)]
  · rw [if_neg (by omega), if_neg (by omega)]
theorem colsTo_all (L : Nat → Int) (j : Nat) : colsTo L 5 0 j = mixColumnsF L j := by
  unfold colsTo mixColumnsF; rw [if_pos (by omega)]
theorem colsTo_at (L : Nat → Int) (k m : Nat) (hk : k < 5) : colsTo L k m (k + 5 * m) = L (k + 5 * m) := by
  unfold colsTo; rw [if_neg (by omega)]
theorem colsTo_step (L : Nat → Int) (k m j : Nat) (hk : k < 5) : upd (colsTo L k m) (k + 5 * m) (bits BinOp.xor IntKind.u64 (L (k + 5 * m)) (colMix L k)) j = colsTo L k (m + 1) j := by
  unfold upd
  by_cases e : j = k + 5 * m
  · subst e
    have h1 : (k + 5 * m) % 5 = k := by omega
    unfold colsTo; rw [if_pos rfl, if_pos (by omega), h1]
  · rw [if_neg e]
    unfold colsTo
    by_cases h : j % 5 < k ∨ (j % 5 = k ∧ j / 5 < m)
    · rw [if_pos h, if_pos (by omega)]
    · rw [if_neg h, if_neg (by omega)]

set_option maxHeartbeats 1000000 in
theorem mixColumns_any (b : Nat) (L : Nat → Int) (w : World) (hL : Row w b 25 L) :
    Calls Tryz.prog 338 #[.pointer (some ⟨b, 0, none⟩)] w fun e w' => e = .returned (.tuple #[]) ∧ Keep b w w' ∧ Row w' b 25 (mixColumnsF L) := by
  have hb := hL.lt (by omega)
  go_enter Tryz.func338, Tryz.ntmps338
  go_wp2
  go_loopw [7] (fun i wr => ∃ k : Nat, k ≤ 5 ∧ i = .int .i64 k ∧ Keep b w wr ∧ Row wr b 25 L ∧ Row wr w.heap.size 5 (sumsTo L k)) (fun i _ => 5 - (intOf i).toNat)
  case atStart =>
    refine ⟨0, by omega, rfl, (Keep.refl b w).alloc hb _, hL.alloc _, ?_⟩
    intro j hj
    refine ⟨?_, World.frozen?_alloc_at _ _ _ _ rfl⟩
    rw [World.cell?_alloc_new]
    match j, hj with
    | 0, _ => rfl
    | 1, _ => rfl
    | 2, _ => rfl
    | 3, _ => rfl
    | 4, _ => rfl
  case round =>
    obtain ⟨k, hk, rfl, hK, hR, hS⟩ := hrel
    by_cases hlt : k < 5
    · have c0 := (hR k (by omega)).1
      have c1 := (hR (k + 5) (by omega)).1
      have c2 := (hR (k + 10) (by omega)).1
      have c3 := (hR (k + 15) (by omega)).1
      have c4 := (hR (k + 20) (by omega)).1
      have s0 := (hS k (by omega)).1
      have f0 := (hS k (by omega)).2
      have b0 : (0 : Int) ≤ (k : Int) := by omega
      have b1 : (k : Int) < 5 := by omega
      have b2 : (k : Int) < 25 := by omega
      have b3 : (k : Int) + 5 < 25 := by omega
      have b4 : (k : Int) + 10 < 25 := by omega
      have b5 : (k : Int) + 15 < 25 := by omega
      have b6 : (k : Int) + 20 < 25 := by omega
      have b7 : (0 : Int) ≤ (k : Int) + 5 := by omega
      have b8 : (0 : Int) ≤ (k : Int) + 10 := by omega
      have b9 : (0 : Int) ≤ (k : Int) + 15 := by omega
      have b10 : (0 : Int) ≤ (k : Int) + 20 := by omega
      have w1 : IntKind.i64.wrap ((k : Int) + 5) = (k : Int) + 5 := by rw [IntKind.wrap_i64] <;> omega
      have w2 : IntKind.i64.wrap ((k : Int) + 10) = (k : Int) + 10 := by rw [IntKind.wrap_i64] <;> omega
      have w3 : IntKind.i64.wrap ((k : Int) + 15) = (k : Int) + 15 := by rw [IntKind.wrap_i64] <;> omega
      have w4 : IntKind.i64.wrap ((k : Int) + 20) = (k : Int) + 20 := by rw [IntKind.wrap_i64] <;> omega
      have t1 : ((k : Int) + 5).toNat = k + 5 := by omega
      have t2 : ((k : Int) + 10).toNat = k + 10 := by omega
      have t3 : ((k : Int) + 15).toNat = k + 15 := by omega
      have t4 : ((k : Int) + 20).toNat = k + 20 := by omega
      have hne : ¬ w.heap.size = b := by omega
      have hne' : ¬ b = w.heap.size := by omega
      go_wp2
      go_region_held3 (fun w' => w'.cell? ⟨b, k, none⟩ = some (.int .u64 (L k)) ∧ w'.cell? ⟨b, k + 5, none⟩ = some (.int .u64 (L (k + 5))) ∧ w'.cell? ⟨b, k + 10, none⟩ = some (.int .u64 (L (k + 10))) ∧ w'.cell? ⟨b, k + 15, none⟩ = some (.int .u64 (L (k + 15))) ∧ w'.cell? ⟨b, k + 20, none⟩ = some (.int .u64 (L (k + 20)))) (go_keep) (fail)
      go_wp2
      go_roundw
      case rel =>
        refine ⟨k + 1, by omega, by go_num, (hK.set_new (Nat.le_refl _) hb _).drew, (hR.set_other hne _).drew, ?_⟩
        exact ((hS.set (i := k) (by omega) _).drew).ext (fun j _ => sumsTo_step L k j)
      case measure => simp [intOf]; omega
    · have hk5 : k = 5 := by omega
      subst hk5
      have hS' : Row wr w.heap.size 5 (colSum L) := hS.ext (fun j hj => if_pos hj)
      have hT : Row wr b 25 (colsTo L 0 0) := hR.ext (fun j _ => (colsTo_zero L j).symm)
      clear hS hR
      go_wp2
      go_loopw [46] (fun i wq => ∃ k : Nat, k ≤ 5 ∧ i = .int .i64 k ∧ Keep b w wq ∧ Row wq b 25 (colsTo L k 0) ∧ Row wq w.heap.size 5 (colSum L)) (fun i _ => 5 - (intOf i).toNat)
      case atStart => exact ⟨0, by omega, rfl, hK, hT, hS'⟩
      case round =>
        clear hK hT hS'
        obtain ⟨k, hk, rfl, hK, hR, hS⟩ := hrel
        by_cases hlt : k < 5
        · obtain ⟨p, hp⟩ : ∃ p, p = (k + 4) % 5 := ⟨_, rfl⟩
          obtain ⟨q, hq⟩ : ∃ q, q = (k + 1) % 5 := ⟨_, rfl⟩
          have s0 := (hS p (by omega)).1
          have s1 := (hS q (by omega)).1
          have b0 : (0 : Int) ≤ (k : Int) := by omega
          have b1 : (k : Int) < 5 := by omega
          have b2 : (0 : Int) ≤ (p : Int) := by omega
          have b3 : (p : Int) < 5 := by omega
          have b4 : (0 : Int) ≤ (q : Int) := by omega
          have b5 : (q : Int) < 5 := by omega
          have w1 : IntKind.i64.wrap ((k : Int) + 4) = (k : Int) + 4 := by rw [IntKind.wrap_i64] <;> omega
          have w2 : IntKind.i64.wrap ((k : Int) + 1) = (k : Int) + 1 := by rw [IntKind.wrap_i64] <;> omega
          have m1 : ((k : Int) + 4).tmod 5 = (p : Int) := by rw [Int.tmod_eq_emod_of_nonneg (by omega)]; omega
          have m2 : ((k : Int) + 1).tmod 5 = (q : Int) := by rw [Int.tmod_eq_emod_of_nonneg (by omega)]; omega
          have m3 : ((k : Int) + 4) % 5 = (p : Int) := by omega
          have m4 : ((k : Int) + 1) % 5 = (q : Int) := by omega
          have w3 : IntKind.i64.wrap (p : Int) = (p : Int) := by rw [IntKind.wrap_i64] <;> omega
          have w4 : IntKind.i64.wrap (q : Int) = (q : Int) := by rw [IntKind.wrap_i64] <;> omega
          have HP : Hid (p = (k + 4) % 5) := hp
          have HQ : Hid (q = (k + 1) % 5) := hq
          clear hp hq
          go_wp2
          go_region_held3 (fun w' => w'.cell? ⟨w.heap.size, p, none⟩ = some (.int .u64 (colSum L p)) ∧ w'.cell? ⟨w.heap.size, q, none⟩ = some (.int .u64 (colSum L q))) (go_keep) (first | (go_at_call 370; refine (rot_any _ _ _ (by omega) (by omega)).mono ?_; rintro e w' ⟨rfl, rfl⟩))
          have hcm : bits BinOp.xor IntKind.u64 (colSum L p) (rotI (colSum L q) 1) = colMix L k := by rw [HP.out, HQ.out]; rfl
          rw [hcm]
          clear hcm s0 s1 b2 b3 b4 b5 w1 w2 m1 m2 m3 m4 w3 w4 HP HQ
          go_wp2
          go_loopw [6] (fun i wv => ∃ m y : Nat, m ≤ 5 ∧ y = 5 * m ∧ i = .int .i64 y ∧ Keep b w wv ∧ Row wv b 25 (colsTo L k m) ∧ Row wv w.heap.size 5 (colSum L)) (fun i _ => 25 - (intOf i).toNat)
          case atStart => exact ⟨0, 0, by omega, rfl, rfl, hK.drew, hR.drew, hS.drew⟩
          case round =>
            clear hK hR hS
            obtain ⟨m, y, hm, hy, rfl, hK, hR, hS⟩ := hrel
            by_cases hltm : y < 25
            · have c0 := (hR (k + y) (by omega)).1
              have f0 := (hR (k + y) (by omega)).2
              rw [hy, colsTo_at L k m hlt, ← hy] at c0
              have d0 : (0 : Int) ≤ (y : Int) := by omega
              have d1 : (y : Int) < 25 := by omega
              have d2 : (0 : Int) ≤ (k : Int) + (y : Int) := by omega
              have d3 : (k : Int) + (y : Int) < 25 := by omega
              have w1 : IntKind.i64.wrap ((k : Int) + (y : Int)) = (k : Int) + (y : Int) := by rw [IntKind.wrap_i64] <;> omega
              have t1 : ((k : Int) + (y : Int)).toNat = k + y := by omega
              have HY : Hid (y = 5 * m) := hy
              clear hy
              go_wp2
              go_region
              go_wp2
              go_roundw
              case rel => exact ⟨m + 1, y + 5, by have := HY.out; omega, by have := HY.out; omega, by go_num, (hK.set (by have := HY.out; omega) _).drew, ((hR.set (i := k + y) (by have := HY.out; omega) _).drew).ext (fun j _ => by rw [HY.out]; exact colsTo_step L k m j hlt), (hS.set_other (by simp; omega) _).drew⟩
              case measure => simp [intOf]; omega
            · have hm5 : m = 5 := by omega
              subst hm5
              have hy5 : y = 25 := by omega
              subst hy5
              go_wp2
              go_roundw
              case rel =>
                exact ⟨_, _, _, .int .i64 ((k : Int) + 1), ⟨k + 1, by omega, by go_num, hR.ext (fun j hj => colsTo_five L k j hj)⟩, rfl, rfl, rfl, rfl⟩
              case measure => simp [intOf]; omega
        · have hk5 : k = 5 := by omega
          subst hk5
          go_wp2
          go_end0
          exact ⟨rfl, hK, hR.ext (fun j _ => colsTo_all L j)⟩
end Go.Proofs.YtkijpphmiogbbaaGreatDoor

namespace Go.Proofs.YtkijpphmiogbbaaGreatDoor
open Go.RowKit
attribute [local go_sem ↓] Go.wp_at_zero Go.wp_at_succ

/-- A whole array out of cells that are known one by one. -/
theorem wpList_load_cells {P : Program} {ops : Array Oper} {rest : List Oper} {o : Oper} {a : Act} {w : World} {Q : Exit → Act → World → Prop} (hgd : o.guard = none) (ty : TypeId) (x : Operand) (ho : o.op = .load ty x)
    (g : Nat) (hx : a.eval x = .pointer (some ⟨g, 0, none⟩)) (cs : Array Value) (d : TypeDesc) (hg : ∀ j v, cs.toList[j]? = some v → w.cell? ⟨g, j, none⟩ = some v)
    (hu : P.underlying ty = some d) (hd : (match d with | .struct _ | .array _ _ => true | _ => false) = true) (hi : (P.info? ty).map (·.size) = some cs.size)
    (h : wpList P ops Q rest (a.put o.dst (.agg cs)) w) : wpList P ops Q (o :: rest) a w := by
  refine wpList_plain hgd fun _ hK => ?_
  have hrun : (loadVar ty ⟨g, 0, none⟩).run P w = .ok (.agg cs) w := by
    have hl : (loadCells ⟨g, 0, none⟩ cs.toList.length).run P w = .ok cs.toList.toArray w :=
      run_loadCells_list (P := P) w ⟨g, 0, none⟩ cs.toList (fun j v hv => by
        have hadd : (⟨g, 0, none⟩ : Addr).add j = ⟨g, j, none⟩ := by unfold Addr.add; split <;> simp_all
        rw [hadd]; exact hg j v hv)
    cases hq : P.info? ty with
    | none => simp [hq] at hi
    | some i =>
      have hs : i.size = cs.size := by simpa [hq] using hi
      have hagg : (isAgg ty).run P w = .ok true w := by
        unfold isAgg
        rw [Sem.run_bind, run_underlying hu w]
        cases d <;> simp_all
      simp only [Array.length_toList, Array.toArray_toList] at hl
      simp [loadVar, Sem.run_bind, hagg, sizeOf, typeInfo, hq, hs, hl]
  unfold Oper.wp execOp
  simp only [ho, hx, Instr.loadAt, Instr.sureAddr, Sem.run_bind, Sem.run_pure, Result.andThen_ok, hrun]
  exact hK _ _ h

def tgtL : List Nat := [10, 7, 11, 17, 18, 3, 5, 16, 8, 21, 24, 4, 15, 23, 19, 13, 12, 2, 20, 14, 22, 9, 6, 1]
def trnL : List Nat := [1, 3, 6, 10, 15, 21, 28, 36, 45, 55, 2, 14, 27, 41, 56, 8, 25, 43, 62, 18, 39, 61, 20, 44]
def tgt (t : Nat) : Nat := tgtL[t]?.getD 0
def trn (t : Nat) : Nat := trnL[t]?.getD 0
theorem tgt_lt (t : Nat) : tgt t < 25 := by
  rcases Nat.lt_or_ge t 24 with h | h
  · have : ∀ s : Fin 24, tgt s.val < 25 := by decide
    exact this ⟨t, h⟩
  · unfold tgt; rw [List.getElem?_eq_none (by simpa [tgtL] using h)]; decide
theorem trn_lt (t : Nat) : trn t < 64 := by
  rcases Nat.lt_or_ge t 24 with h | h
  · have : ∀ s : Fin 24, trn s.val < 64 := by decide
    exact this ⟨t, h⟩
  · unfold trn; rw [List.getElem?_eq_none (by simpa [trnL] using h)]; decide
def rbsL : List Nat := [1, 32898, 9223372036854808714, 9223372039002292224, 32907, 2147483649, 9223372039002292353, 9223372036854808585, 138, 136, 2147516425, 2147483658, 2147516555, 9223372036854775947, 9223372036854808713, 9223372036854808579, 9223372036854808578, 9223372036854775936, 32778, 9223372039002259466, 9223372039002292353, 9223372036854808704, 2147483649, 9223372039002292232]
def rbs (t : Nat) : Int := ((rbsL[t]?.getD 0 : Nat) : Int)
def tgtA : Array Value := (tgtL.map (fun n : Nat => Value.int .i64 (n : Int))).toArray
/-- What the tables hold. -/
structure Globs (w : World) : Prop where
  tg : ∀ i, i < 24 → w.cell? ⟨2, i, none⟩ = some (.int .i64 (tgt i))
  tn : ∀ i, i < 24 → w.cell? ⟨3, i, none⟩ = some (.int .i64 (trn i))
  rb : ∀ i, i < 24 → w.cell? ⟨1, i, none⟩ = some (.int .u64 (rbs i))
  et : w.cell? ⟨0, 0, none⟩ = some (.iface 370 (.agg #[.pointer (some ⟨7, 73, none⟩)]))
theorem Globs.grown {b : Nat} {w w' : World} (h : Globs w) (k : w.grownBy w' (some b)) (hb : 4 ≤ b) : Globs w' :=
  ⟨fun i hi => k.cell (h.tg i hi) (by simp; omega), fun i hi => k.cell (h.tn i hi) (by simp; omega), fun i hi => k.cell (h.rb i hi) (by simp; omega), k.cell h.et (by simp; omega)⟩
theorem Globs.keep {b : Nat} {w w' : World} (h : Globs w) (k : Keep b w w') (hb : 4 ≤ b) : Globs w' := h.grown k.g hb
theorem tgtA_cells {w : World} (h : Globs w) : ∀ j v, tgtA.toList[j]? = some v → w.cell? ⟨2, j, none⟩ = some v := by
  intro j v hv
  have e : tgtA.toList = tgtL.map (fun n : Nat => Value.int .i64 (n : Int)) := by simp [tgtA]
  rw [e, List.getElem?_map] at hv
  cases hl : tgtL[j]? with
  | none => rw [hl] at hv; cases hv
  | some n =>
    rw [hl] at hv
    have hj : j < 24 := by
      rcases Nat.lt_or_ge j 24 with h1 | h1
      · exact h1
      · rw [List.getElem?_eq_none (by simpa [tgtL] using h1)] at hl; cases hl
    rw [h.tg j hj]
    have : tgt j = n := by unfold tgt; rw [hl]; rfl
    rw [this]; exact hv
theorem Tryz.under82 : Tryz.prog.underlying 422 = some (.array 24 3) := by kernel_rfl
theorem run_index_tgtF (w : World) : ∀ s : Fin 24, (Instr.index 422 (.agg tgtA) (.int .i64 ((s.val : Nat) : Int))).run Tryz.prog w = .ok (.int .i64 ((tgt s.val : Nat) : Int)) w := by
  intro s
  have hs := s.isLt
  have h : tgtA[s.val]? = some (.int .i64 ((tgt s.val : Nat) : Int)) := by
    have e : tgtA = (tgtL.map (fun n : Nat => Value.int .i64 (n : Int))).toArray := rfl
    rw [e, List.getElem?_toArray, List.getElem?_map]
    have : tgtL[s.val]? = some (tgt s.val) := by
      revert s; decide
    rw [this]; rfl
  simp [Instr.index, asIntOf, run_underlying Tryz.under82, sizeOf]
  have hsz : Tryz.t3.size = 1 := by kernel_rfl
  have hag : (isAgg 3).run Tryz.prog w = .ok false w := by kernel_rfl
  rw [hsz, Nat.mul_one]
  unfold part
  rw [Sem.run_bind, hag]
  simp [h]
theorem run_index_tgt (t : Nat) (ht : t < 24) (w : World) : (Instr.index 422 (.agg tgtA) (.int .i64 (t : Int))).run Tryz.prog w = .ok (.int .i64 (tgt t)) w := run_index_tgtF w ⟨t, ht⟩
def turnTo (L : Nat → Int) : Nat → Int × (Nat → Int)
  | 0 => (L 1, L)
  | t + 1 => ((turnTo L t).2 (tgt t), upd (turnTo L t).2 (tgt t) (rotI (turnTo L t).1 (trn t)))
def turnLanesF (L : Nat → Int) : Nat → Int := (turnTo L 24).2

set_option maxHeartbeats 1000000 in
theorem turnLanes_any (b : Nat) (hb4 : 4 ≤ b) (L : Nat → Int) (w : World) (hL : Row w b 25 L) (hG : Globs w) :
    Calls Tryz.prog 339 #[.pointer (some ⟨b, 0, none⟩)] w fun e w' => e = .returned (.tuple #[]) ∧ Keep b w w' ∧ Row w' b 25 (turnLanesF L) := by
  have c1 := (hL 1 (by omega)).1
  go_enter Tryz.func339, Tryz.ntmps339
  go_wp2_with (refine wpList_load_cells rfl 422 _ rfl 2 rfl tgtA _ (tgtA_cells hG) Tryz.under82 rfl (by kernel_rfl) ?_)
  go_loopw [2, 10] (fun h i wr => ∃ t : Nat, t ≤ 24 ∧ i = .int .i64 t ∧ h = .int .u64 (turnTo L t).1 ∧ Keep b w wr ∧ Row wr b 25 (turnTo L t).2) (fun _ i _ => 24 - (intOf i).toNat)
  case atStart => exact ⟨0, by omega, rfl, rfl, Keep.refl b w, hL⟩
  case round =>
    clear c1
    obtain ⟨t, ht, rfl, rfl, hK, hR⟩ := hrel
    by_cases hlt : t < 24
    · have hG' := hG.keep hK hb4
      have n0 := hG'.tn t hlt
      have ix := run_index_tgt t hlt
      have g0 := tgt_lt t
      have g1 := trn_lt t
      have c0 := (hR (tgt t) g0).1
      have f0 := (hR (tgt t) g0).2
      have b0 : (0 : Int) ≤ (t : Int) := by omega
      have b1 : (t : Int) < 24 := by omega
      have b2 : (0 : Int) ≤ (tgt t : Int) := by omega
      have b3 : (tgt t : Int) < 25 := by omega
      go_wp2
      go_region_with (first | (go_at_call 370; refine (rot_any _ _ _ (by omega) (by omega)).mono ?_; rintro e w' ⟨rfl, rfl⟩))
      all_goals
        go_wp2
        go_roundw
        case rel => exact ⟨t + 1, by omega, by go_num, rfl, (hK.set g0 _).drew, (hR.set g0 _).drew⟩
        case measure => simp [intOf]; omega
    · have ht4 : t = 24 := by omega
      subst ht4
      go_wp2
      go_end0
      exact ⟨rfl, hK, hR⟩
end Go.Proofs.YtkijpphmiogbbaaGreatDoor
