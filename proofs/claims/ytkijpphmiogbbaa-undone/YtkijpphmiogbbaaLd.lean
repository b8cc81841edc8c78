import Derived.Test.YtkijpphmiogbbaaL9
import Derived.Great.BuildSlice
namespace Go.Proofs.Ytkijpphmiogbbaa
open Go.RowKit

theorem fold_set (off : Nat) : ∀ (l : List Value) (s : Nat) (cs : Array Value), off + s + l.length ≤ cs.size →
    ((l.zipIdx s).foldl (fun (cs : Array Value) (p : Value × Nat) => cs.setIfInBounds (off + p.2) p.1) cs).size = cs.size ∧
    ∀ i, ((l.zipIdx s).foldl (fun (cs : Array Value) (p : Value × Nat) => cs.setIfInBounds (off + p.2) p.1) cs)[i]? = if off + s ≤ i ∧ i < off + s + l.length then l[i - (off + s)]? else cs[i]?
  | [], s, cs, _ => ⟨rfl, fun i => by simp only [List.zipIdx_nil, List.foldl_nil, List.length_nil]; rw [if_neg (by omega)]⟩
  | v :: l, s, cs, h => by
    rw [List.zipIdx_cons, List.foldl_cons]
    simp only [List.length_cons] at h
    have ih := fold_set off l (s + 1) (cs.setIfInBounds (off + s) v) (by simp; omega)
    refine ⟨ih.1.trans (by simp), fun i => ?_⟩
    rw [ih.2 i]
    simp only [List.length_cons]
    by_cases h1 : off + (s + 1) ≤ i ∧ i < off + (s + 1) + l.length
    · rw [if_pos h1, if_pos (by omega), show i - (off + s) = (i - (off + (s + 1))) + 1 by omega, List.getElem?_cons_succ]
    · rw [if_neg h1, Array.getElem?_setIfInBounds]
      by_cases h2 : off + s = i
      · rw [if_pos h2, if_pos (by omega), if_pos (by omega), show i - (off + s) = 0 by omega]; rfl
      · rw [if_neg h2, if_neg (by omega)]
/-- Parts of n cells each, laid one behind the other. -/
theorem fill_gen (n : Nat) (l : List Value) (hl : l.length = n) (t : Nat) (cells : Array Value) (h : t * n + n ≤ cells.size) (rest : List (Nat × Value)) :
    ∃ cs, cs.size = cells.size ∧ (∀ i, cs[i]? = if t * n ≤ i ∧ i < t * n + n then l[i - t * n]? else cells[i]?) ∧
      Instr.fill (fun i => some (i * n, n)) cells ((t, .agg l.toArray) :: rest) = Instr.fill (fun i => some (i * n, n)) cs rest := by
  have hf := fold_set (t * n) l 0 cells (by omega)
  rw [hl, Nat.add_zero] at hf
  refine ⟨_, hf.1, hf.2, ?_⟩
  rw [Instr.fill]
  have hs : (Value.agg l.toArray).cells.size = n := by simp [Value.cells, hl]
  simp only [hs, ne_eq, not_true_eq_false, decide_false, Bool.false_or, decide_eq_true_eq]
  rw [if_neg (by omega)]
  congr 1
  simp [Value.cells]
theorem fill_next (k : IntKind) (L : Nat → Int) (t : Nat) (cells : Array Value) (h : t * 256 + 256 ≤ cells.size) (rest : List (Nat × Value)) :
    ∃ cs, cs.size = cells.size ∧ (∀ i, cs[i]? = if t * 256 ≤ i ∧ i < t * 256 + 256 then (polyL k L)[i - t * 256]? else cells[i]?) ∧
      Instr.fill (fun i => some (i * 256, 256)) cells ((t, .agg (polyA k L)) :: rest) = Instr.fill (fun i => some (i * 256, 256)) cs rest :=
  fill_gen 256 (polyL k L) (polyL_len k L) t cells h rest
theorem arr_ext {cs : Array Value} {l : List Value} (hs : cs.size = l.length) (h : ∀ i, i < l.length → cs[i]? = l[i]?) : cs = l.toArray := by
  apply Array.ext'
  apply List.ext_getElem?
  intro i
  rcases Nat.lt_or_ge i l.length with hi | hi
  · have := h i hi
    simpa using this
  · rw [List.getElem?_eq_none (by simpa [hs] using hi)]; simp; omega
theorem fill_one (k : IntKind) (L : Nat → Int) (cells : Array Value) (h : cells.size = 256) : Instr.fill (fun i => some (i * 256, 256)) cells [(0, .agg (polyA k L))] = some (polyA k L) := by
  obtain ⟨cs, hs, hc, hf⟩ := fill_next k L 0 cells (by omega) []
  rw [hf, Instr.fill]
  congr 1
  refine arr_ext (by rw [polyL_len]; omega) (fun i hi => ?_)
  rw [polyL_len] at hi
  rw [hc i, if_pos (by omega)]; simp
theorem fill_two (k : IntKind) (L M : Nat → Int) (cells : Array Value) (h : cells.size = 512) : Instr.fill (fun i => some (i * 256, 256)) cells [(0, .agg (polyA k L)), (1, .agg (polyA k M))] = some (polyL k L ++ polyL k M).toArray := by
  obtain ⟨cs, hs, hc, hf⟩ := fill_next k L 0 cells (by omega) [(1, .agg (polyA k M))]
  obtain ⟨cs2, hs2, hc2, hf2⟩ := fill_next k M 1 cs (by omega) []
  rw [hf, hf2, Instr.fill]
  congr 1
  refine arr_ext (by rw [List.length_append, polyL_len, polyL_len]; omega) (fun i hi => ?_)
  rw [List.length_append, polyL_len, polyL_len] at hi
  rw [hc2 i]
  by_cases h1 : i < 256
  · rw [if_neg (by omega), hc i, if_pos (by omega), List.getElem?_append_left (by rw [polyL_len]; exact h1)]; simp
  · rw [if_pos (by omega), List.getElem?_append_right (by rw [polyL_len]; omega), polyL_len]
theorem Try.infoP : (Try.prog.info? 24).map (fun i => (i.zero, i.size, i.bytes)) = some (some (.agg (polyA .i64 (fun _ => 0))), 256, 2048) := by kernel_rfl
theorem Try.uPs : Try.prog.underlying 49 = some (.slice 24) := by kernel_rfl
theorem bs_one (L : Nat → Int) (W : World) : (Instr.buildSlice 49 1 #[(0, .agg (polyA .i64 L))]).run Try.prog W = .ok (.slice (some ⟨W.heap.size, 0, none⟩) 1 1) (W.alloc (.cells (polyA .i64 L) 24)) := by
  obtain ⟨i0, hi, hz0, hz1, hz2⟩ := info_parts Try.infoP
  have hf := fill_one .i64 L ((Array.range (1 * 256)).map ((polyA .i64 (fun _ => 0))[· % (polyA .i64 (fun _ => 0)).size]!)) (by simp)
  exact run_buildSlice W 49 24 1 _ _ i0 _ Try.uPs hi hz0 (by rw [hz1]; decide) (by rw [hz1]; decide) (by rw [hz1]; exact hf)
theorem bs_two (L M : Nat → Int) (W : World) : (Instr.buildSlice 49 2 #[(0, .agg (polyA .i64 L)), (1, .agg (polyA .i64 M))]).run Try.prog W = .ok (.slice (some ⟨W.heap.size, 0, none⟩) 2 2) (W.alloc (.cells (polyL .i64 L ++ polyL .i64 M).toArray 24)) := by
  obtain ⟨i0, hi, hz0, hz1, hz2⟩ := info_parts Try.infoP
  have hf := fill_two .i64 L M ((Array.range (2 * 256)).map ((polyA .i64 (fun _ => 0))[· % (polyA .i64 (fun _ => 0)).size]!)) (by simp)
  exact run_buildSlice W 49 24 2 _ _ i0 _ Try.uPs hi hz0 (by rw [hz1]; decide) (by rw [hz1]; decide) (by rw [hz1]; exact hf)
section
variable {ops : Array Oper} {rest : List Oper} {o : Oper} {a : Act} {w : World} {Q : Exit → Act → World → Prop}
theorem wpO_bs1 {K : Act → World → Prop} (x : Operand) (ho : o.op = .buildSlice 49 1 #[(0, x)]) (L : Nat → Int) (hx : a.eval x = .agg (polyA .i64 L))
    (h : ∀ w', New .i64 w w' L → K (a.put o.dst (.slice (some ⟨w.heap.size, 0, none⟩) 1 1)) w') : o.wp Try.prog a w K Q := by
  unfold Oper.wp execOp
  have hp : (#[(0, x)] : Array (Nat × Operand)).map (fun (i, x) => (i, a.eval x)) = #[(0, .agg (polyA .i64 L))] := by simp [hx]
  simp only [ho, hp, Sem.run_bind, bs_one, Result.andThen_ok]
  exact h _ (new_alloc .i64 w L 24)
theorem wpL_bs1 (hgd : o.guard = none) (x : Operand) (ho : o.op = .buildSlice 49 1 #[(0, x)]) (L : Nat → Int) (hx : a.eval x = .agg (polyA .i64 L))
    (h : ∀ w', New .i64 w w' L → wpList Try.prog ops Q rest (a.put o.dst (.slice (some ⟨w.heap.size, 0, none⟩) 1 1)) w') : wpList Try.prog ops Q (o :: rest) a w :=
  wpList_plain hgd fun _ hK => wpO_bs1 x ho L hx (fun w' hw => hK _ _ (h w' hw))
end
theorem rows_two (L M : Nat → Int) (W : World) (T : TypeId) : PRow .i64 (W.alloc (.cells (polyL .i64 L ++ polyL .i64 M).toArray T)) W.heap.size (256 * 0) L ∧ PRow .i64 (W.alloc (.cells (polyL .i64 L ++ polyL .i64 M).toArray T)) W.heap.size (256 * 1) M := by
  refine ⟨fun i hi => ⟨?_, World.frozen?_alloc_at _ _ _ _ rfl⟩, fun i hi => ⟨?_, World.frozen?_alloc_at _ _ _ _ rfl⟩⟩
  · rw [World.cell?_alloc_new, List.getElem?_toArray, Nat.mul_zero, Nat.zero_add, List.getElem?_append_left (by rw [polyL_len]; exact hi)]; exact polyL_at _ _ i hi
  · rw [World.cell?_alloc_new, List.getElem?_toArray, List.getElem?_append_right (by rw [polyL_len]; omega), polyL_len, Nat.mul_one, Nat.add_sub_cancel_left]; exact polyL_at _ _ i hi
end Go.Proofs.Ytkijpphmiogbbaa
