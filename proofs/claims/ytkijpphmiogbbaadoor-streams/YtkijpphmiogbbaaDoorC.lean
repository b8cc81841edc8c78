import Derived.Test.YtkijpphmiogbbaaDoorB
import Derived.Laws.Rows
namespace Go.Proofs.YtkijpphmiogbbaaDoor
open Go.RowKit
attribute [local go_sem ↓] Go.wp_at_zero Go.wp_at_succ

/-- A whole array out of cells that are known one by one. -/
theorem wpList_load_cells {P : Program} {ops : Array Oper} {rest : List Oper} {o : Oper} {a : Act} {w : World} {Q : Exit → Act → World → Prop} (hgd : o.guard = none) (ty : TypeId) (x : Operand) (ho : o.op = .load ty x)
    (g : Nat) (hx : a.eval x = .pointer (some ⟨g, 0, none⟩)) (cs : Array Value) (d : TypeDesc) (hg : ∀ j v, cs.toList[j]? = some v → w.cell? ⟨g, j, none⟩ = some v)
    (hu : P.underlying ty = some d) (hd : (match d with | .struct _ | .array _ _ => true | _ => false) = true) (hi : (P.info? ty).map (·.size) = some cs.size)
    (h : wpList P ops Q rest (a.put o.dst (.agg cs)) w) : wpList P ops Q (o :: rest) a w := by
  refine wpList_plain hgd fun _ hK => ?_
  have hrun : (loadVar ty ⟨g, 0, none⟩).run P w = .ok (.agg cs) w := by
    have hl : (loadCells ⟨g, 0, none⟩ cs.toList.length).run P w = .ok cs.toList.toArray w :=
      run_loadCells_list (P := P) w ⟨g, 0, none⟩ cs.toList (fun j v hv => by
        have hadd : (⟨g, 0, none⟩ : Addr).add j = ⟨g, j, none⟩ := by unfold Addr.add; split <;> simp_all
        rw [hadd]; exact hg j v hv)
    cases hq : P.info? ty with
    | none => simp [hq] at hi
    | some i =>
      have hs : i.size = cs.size := by simpa [hq] using hi
      have hagg : (isAgg ty).run P w = .ok true w := by
        unfold isAgg
        rw [Sem.run_bind, run_underlying hu w]
        cases d <;> simp_all
      simp only [Array.length_toList, Array.toArray_toList] at hl
      simp [loadVar, Sem.run_bind, hagg, sizeOf, typeInfo, hq, hs, hl]
  unfold Oper.wp execOp
  simp only [ho, hx, Instr.loadAt, Instr.sureAddr, Sem.run_bind, Sem.run_pure, Result.andThen_ok, hrun]
  exact hK _ _ h

def tgtL : List Nat := [10, 7, 11, 17, 18, 3, 5, 16, 8, 21, 24, 4, 15, 23, 19, 13, 12, 2, 20, 14, 22, 9, 6, 1]
def trnL : List Nat := [1, 3, 6, 10, 15, 21, 28, 36, 45, 55, 2, 14, 27, 41, 56, 8, 25, 43, 62, 18, 39, 61, 20, 44]
def tgt (t : Nat) : Nat := tgtL[t]?.getD 0
def trn (t : Nat) : Nat := trnL[t]?.getD 0
theorem tgt_lt (t : Nat) : tgt t < 25 := by
  rcases Nat.lt_or_ge t 24 with h | h
  · have : ∀ s : Fin 24, tgt s.val < 25 := by decide
    exact this ⟨t, h⟩
  · unfold tgt; rw [List.getElem?_eq_none (by simpa [tgtL] using h)]; decide
theorem trn_lt (t : Nat) : trn t < 64 := by
  rcases Nat.lt_or_ge t 24 with h | h
  · have : ∀ s : Fin 24, trn s.val < 64 := by decide
    exact this ⟨t, h⟩
  · unfold trn; rw [List.getElem?_eq_none (by simpa [trnL] using h)]; decide
def rbsL : List Nat := [1, 32898, 9223372036854808714, 9223372039002292224, 32907, 2147483649, 9223372039002292353, 9223372036854808585, 138, 136, 2147516425, 2147483658, 2147516555, 9223372036854775947, 9223372036854808713, 9223372036854808579, 9223372036854808578, 9223372036854775936, 32778, 9223372039002259466, 9223372039002292353, 9223372036854808704, 2147483649, 9223372039002292232]
def rbs (t : Nat) : Int := ((rbsL[t]?.getD 0 : Nat) : Int)
def tgtA : Array Value := (tgtL.map (fun n : Nat => Value.int .i64 (n : Int))).toArray
/-- What the tables hold. -/
structure Globs (w : World) : Prop where
  tg : ∀ i, i < 24 → w.cell? ⟨2, i, none⟩ = some (.int .i64 (tgt i))
  tn : ∀ i, i < 24 → w.cell? ⟨3, i, none⟩ = some (.int .i64 (trn i))
  rb : ∀ i, i < 24 → w.cell? ⟨1, i, none⟩ = some (.int .u64 (rbs i))
  et : w.cell? ⟨0, 0, none⟩ = some (.iface 67 (.agg #[.pointer (some ⟨4, 26, none⟩)]))
theorem Globs.grown {b : Nat} {w w' : World} (h : Globs w) (k : w.grownBy w' (some b)) (hb : 4 ≤ b) : Globs w' :=
  ⟨fun i hi => k.cell (h.tg i hi) (by simp; omega), fun i hi => k.cell (h.tn i hi) (by simp; omega), fun i hi => k.cell (h.rb i hi) (by simp; omega), k.cell h.et (by simp; omega)⟩
theorem Globs.keep {b : Nat} {w w' : World} (h : Globs w) (k : Keep b w w') (hb : 4 ≤ b) : Globs w' := h.grown k.g hb
theorem tgtA_cells {w : World} (h : Globs w) : ∀ j v, tgtA.toList[j]? = some v → w.cell? ⟨2, j, none⟩ = some v := by
  intro j v hv
  have e : tgtA.toList = tgtL.map (fun n : Nat => Value.int .i64 (n : Int)) := by simp [tgtA]
  rw [e, List.getElem?_map] at hv
  cases hl : tgtL[j]? with
  | none => rw [hl] at hv; cases hv
  | some n =>
    rw [hl] at hv
    have hj : j < 24 := by
      rcases Nat.lt_or_ge j 24 with h1 | h1
      · exact h1
      · rw [List.getElem?_eq_none (by simpa [tgtL] using h1)] at hl; cases hl
    rw [h.tg j hj]
    have : tgt j = n := by unfold tgt; rw [hl]; rfl
    rw [this]; exact hv
theorem Tryd.under82 : Tryd.prog.underlying 84 = some (.array 24 3) := by kernel_rfl
theorem run_index_tgtF (w : World) : ∀ s : Fin 24, (Instr.index 84 (.agg tgtA) (.int .i64 ((s.val : Nat) : Int))).run Tryd.prog w = .ok (.int .i64 ((tgt s.val : Nat) : Int)) w := by
  intro s
  have hs := s.isLt
  have h : tgtA[s.val]? = some (.int .i64 ((tgt s.val : Nat) : Int)) := by
    have e : tgtA = (tgtL.map (fun n : Nat => Value.int .i64 (n : Int))).toArray := rfl
    rw [e, List.getElem?_toArray, List.getElem?_map]
    have : tgtL[s.val]? = some (tgt s.val) := by
      revert s; decide
    rw [this]; rfl
  simp [Instr.index, asIntOf, run_underlying Tryd.under82, sizeOf]
  have hsz : Tryd.t3.size = 1 := by kernel_rfl
  have hag : (isAgg 3).run Tryd.prog w = .ok false w := by kernel_rfl
  rw [hsz, Nat.mul_one]
  unfold part
  rw [Sem.run_bind, hag]
  simp [h]
theorem run_index_tgt (t : Nat) (ht : t < 24) (w : World) : (Instr.index 84 (.agg tgtA) (.int .i64 (t : Int))).run Tryd.prog w = .ok (.int .i64 (tgt t)) w := run_index_tgtF w ⟨t, ht⟩
def turnTo (L : Nat → Int) : Nat → Int × (Nat → Int)
  | 0 => (L 1, L)
  | t + 1 => ((turnTo L t).2 (tgt t), upd (turnTo L t).2 (tgt t) (rotI (turnTo L t).1 (trn t)))
def turnLanesF (L : Nat → Int) : Nat → Int := (turnTo L 24).2

set_option maxHeartbeats 1000000 in
theorem turnLanes_any (b : Nat) (hb4 : 4 ≤ b) (L : Nat → Int) (w : World) (hL : Row w b 25 L) (hG : Globs w) :
    Calls Tryd.prog 32 #[.pointer (some ⟨b, 0, none⟩)] w fun e w' => e = .returned (.tuple #[]) ∧ Keep b w w' ∧ Row w' b 25 (turnLanesF L) := by
  have c1 := (hL 1 (by omega)).1
  go_enter Tryd.func32, Tryd.ntmps32
  go_wp2_with (refine wpList_load_cells rfl 84 _ rfl 2 rfl tgtA _ (tgtA_cells hG) Tryd.under82 rfl (by kernel_rfl) ?_)
  go_loopw [2, 10] (fun h i wr => ∃ t : Nat, t ≤ 24 ∧ i = .int .i64 t ∧ h = .int .u64 (turnTo L t).1 ∧ Keep b w wr ∧ Row wr b 25 (turnTo L t).2) (fun _ i _ => 24 - (intOf i).toNat)
  case atStart => exact ⟨0, by omega, rfl, rfl, Keep.refl b w, hL⟩
  case round =>
    clear c1
    obtain ⟨t, ht, rfl, rfl, hK, hR⟩ := hrel
    by_cases hlt : t < 24
    · have hG' := hG.keep hK hb4
      have n0 := hG'.tn t hlt
      have ix := run_index_tgt t hlt
      have g0 := tgt_lt t
      have g1 := trn_lt t
      have c0 := (hR (tgt t) g0).1
      have f0 := (hR (tgt t) g0).2
      have b0 : (0 : Int) ≤ (t : Int) := by omega
      have b1 : (t : Int) < 24 := by omega
      have b2 : (0 : Int) ≤ (tgt t : Int) := by omega
      have b3 : (tgt t : Int) < 25 := by omega
      go_wp2
      go_region_with (first | (go_at_call 34; refine (rot_any _ _ _ (by omega) (by omega)).mono ?_; rintro e w' ⟨rfl, rfl⟩))
      all_goals
        go_wp2
        go_roundw
        case rel => exact ⟨t + 1, by omega, by go_num, rfl, (hK.set g0 _).drew, (hR.set g0 _).drew⟩
        case measure => simp [intOf]; omega
    · have ht4 : t = 24 := by omega
      subst ht4
      go_wp2
      go_end0
      exact ⟨rfl, hK, hR⟩
end Go.Proofs.YtkijpphmiogbbaaDoor
