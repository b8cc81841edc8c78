import Derived.Test.YtkijpphmiogbbaaProg
import Derived.Test.YtkijpphmiogbbaaBase
import Derived.WalkKit
import Derived.WalkLawsBesides
import Derived.WalkSpells
import Derived.BigQuiet
import Derived.Deep.QuietTactic
import Derived.Deep.RegionHeld3
import Derived.Deep.DrawnRows
import Derived.BigRegion
import Derived.Deep.RegionWith
import Derived.Deep.MidRow
import Derived.Great.Walk
import Derived.Laws.Rows
namespace Go.Proofs.Ytkijpphmiogbbaa
open Go.RowKit

/-- 256 cells as values. -/
def polyL (k : IntKind) (L : Nat → Int) : List Value := (List.range 256).map fun i => Value.int k (L i)
def polyA (k : IntKind) (L : Nat → Int) : Array Value := (polyL k L).toArray
theorem polyL_len (k : IntKind) (L : Nat → Int) : (polyL k L).length = 256 := by simp [polyL]
theorem polyA_size (k : IntKind) (L : Nat → Int) : (polyA k L).size = 256 := by simp [polyA, polyL]
theorem polyL_at (k : IntKind) (L : Nat → Int) (i : Nat) (h : i < 256) : (polyL k L)[i]? = some (.int k (L i)) := by
  unfold polyL; rw [List.getElem?_map, List.getElem?_range h]; rfl
theorem polyA_at (k : IntKind) (L : Nat → Int) (i : Nat) (h : i < 256) : (polyA k L)[i]? = some (.int k (L i)) := by
  unfold polyA; rw [List.getElem?_toArray]; exact polyL_at k L i h
theorem polyA_ext (k : IntKind) {L M : Nat → Int} (h : ∀ i, i < 256 → L i = M i) : polyA k L = polyA k M := by
  unfold polyA polyL
  congr 1
  exact List.map_congr_left (fun i hi => by rw [h i (List.mem_range.1 hi)])
theorem polyA_one (k : IntKind) (L : Nat → Int) : (polyA k L).all (·.oneCell') = true := by
  rw [Array.all_eq_true_iff_forall_mem]
  intro x hx
  unfold polyA polyL at hx
  simp at hx
  obtain ⟨i, _, rfl⟩ := hx
  rfl

theorem Try.zv24 (W : World) : (zeroValue 24).run Try.prog W = .ok (.agg Try.zeroCells24) W := by kernel_rfl
theorem Try.zv44 (W : World) : (zeroValue 44).run Try.prog W = .ok (.agg Try.zeroCells44) W := by kernel_rfl
theorem Try.zv55 (W : World) : (zeroValue 55).run Try.prog W = .ok (.agg Try.zeroCells55) W := by kernel_rfl
/-- 256 cells lie in block b from o on, and may be written. -/
def PRow (k : IntKind) (w : World) (b o : Nat) (L : Nat → Int) : Prop := ∀ i, i < 256 → w.cell? ⟨b, o + i, none⟩ = some (.int k (L i)) ∧ w.frozen? ⟨b, o + i, none⟩ = false
theorem PRow.range {k : IntKind} {w : World} {b o : Nat} {L : Nat → Int} (h : PRow k w b o L) : w.rangeAt b o (polyL k L) := by
  intro j v hv
  rcases Nat.lt_or_ge j 256 with hj | hj
  · rw [polyL_at k L j hj] at hv; rw [(h j hj).1]; exact hv
  · rw [List.getElem?_eq_none (by rw [polyL_len]; exact hj)] at hv; cases hv
theorem PRow.there {k : IntKind} {w : World} {b o : Nat} {L : Nat → Int} (h : PRow k w b o L) (j : IntKind) (M : Nat → Int) : w.there b o (polyA j M).size := by
  intro i hi
  rw [polyA_size] at hi
  exact ⟨by rw [(h i hi).1]; rfl, (h i hi).2⟩
theorem PRow.lt {k : IntKind} {w : World} {b o : Nat} {L : Nat → Int} (h : PRow k w b o L) : b < w.heap.size := cell_lt (h 0 (by omega)).1
theorem PRow.at0 {k : IntKind} {w : World} {b : Nat} {L : Nat → Int} (h : PRow k w b 0 L) (i : Nat) (hi : i < 256) : w.cell? ⟨b, i, none⟩ = some (.int k (L i)) ∧ w.frozen? ⟨b, i, none⟩ = false := by
  have := h i hi
  rwa [Nat.zero_add] at this
theorem PRow.far {k : IntKind} {w w' : World} {b o : Nat} {r : Option Nat} {L : Nat → Int} (h : PRow k w b o L) (hg : w.grownBy w' r) (hne : some b ≠ r) : PRow k w' b o L := by
  intro i hi
  have hc := h.lt
  exact ⟨hg.cell (h i hi).1 hne, by rw [hg.frozen_far ⟨b, o + i, none⟩ hc hne]; exact (h i hi).2⟩
theorem PRow.new {k : IntKind} {w w' : World} {b o : Nat} {L : Nat → Int} (h : PRow k w b o L) (hg : w.grownBy w' none) : PRow k w' b o L := h.far hg (by simp)
theorem PRow.drew {k : IntKind} {w : World} {b o : Nat} {L : Nat → Int} (h : PRow k w b o L) : PRow k w.drew b o L := h
theorem PRow.ext {k : IntKind} {w : World} {b o : Nat} {L M : Nat → Int} (h : PRow k w b o L) (e : ∀ i, i < 256 → L i = M i) : PRow k w b o M := fun i hi => by rw [← e i hi]; exact h i hi
theorem PRow.set0 {k : IntKind} {w : World} {b : Nat} {L : Nat → Int} (h : PRow k w b 0 L) {i : Nat} (hi : i < 256) (v : Int) : PRow k (w.setCell ⟨b, i, none⟩ (.int k v)) b 0 (upd L i v) := by
  intro j hj
  rw [Nat.zero_add]
  have hh := h.at0 j hj
  refine ⟨?_, by rw [frozen_set]; exact hh.2⟩
  by_cases e : j = i
  · subst e; rw [cell_same hh.1, upd_same]
  · rw [cell_other _ _ _ _ (Or.inr e), upd_ne _ _ _ _ e]; exact hh.1
theorem PRow.set_other {k : IntKind} {w : World} {b o : Nat} {L : Nat → Int} (h : PRow k w b o L) {p : Addr} (hp : p.block ≠ b) (v : Value) : PRow k (w.setCell p v) b o L := by
  intro j hj
  exact ⟨by rw [cell_other _ _ _ _ (Or.inl (Ne.symm hp))]; exact (h j hj).1, by rw [frozen_set]; exact (h j hj).2⟩

theorem grown_new {w w1 w2 : World} {b : Nat} (h : w.grownBy w1 none) (k : w1.grownBy w2 (some b)) (hb : w.heap.size ≤ b) : w.grownBy w2 none :=
  ⟨k.os.trans h.os, k.tape.trans h.tape, k.output.trans h.output, Nat.le_trans h.size k.size, fun i hi _ => (k.block i (Nat.lt_of_lt_of_le hi h.size) (by simp; omega)).trans (h.block i hi (by simp))⟩
theorem grown_setNew {w w1 : World} (g : w.grownBy w1 none) {p : Addr} (hp : w.heap.size ≤ p.block) (v : Value) : w.grownBy (w1.setCell p v) none :=
  ⟨g.os, g.tape, g.output, by simpa using g.size, fun k hk hr => (Below.heap_setCell _ _ _ _ (by omega)).trans (g.block k hk hr)⟩
theorem grown_drew {w w1 : World} {r : Option Nat} (g : w.grownBy w1 r) : w.grownBy w1.drew r := ⟨g.os, g.tape, g.output, g.size, g.block⟩
theorem below_of_grown {w w' : World} (h : w.grownBy w' none) : Below w.heap.size w w' := ⟨h.os, h.tape, h.output, h.size, fun k hk => h.block k hk (by simp)⟩

/-- One new block, with these 256 cells. -/
structure New (k : IntKind) (w w' : World) (L : Nat → Int) : Prop where
  g : w.grownBy w' none
  s : w'.heap.size = w.heap.size + 1
  r : PRow k w' w.heap.size 0 L
/-- These 256 cells were written. -/
structure Put (k : IntKind) (w w' : World) (b o : Nat) (L : Nat → Int) : Prop where
  g : w.grownBy w' (some b)
  s : w'.heap.size = w.heap.size
  r : PRow k w' b o L
  out : ∀ i, i < o ∨ o + 256 ≤ i → w'.cell? ⟨b, i, none⟩ = w.cell? ⟨b, i, none⟩
  fz : ∀ i, w'.frozen? ⟨b, i, none⟩ = w.frozen? ⟨b, i, none⟩
theorem new_alloc (k : IntKind) (w : World) (L : Nat → Int) (T : TypeId) : New k w (w.alloc (.cells (polyA k L) T)) L :=
  ⟨World.grownBy_alloc _ _ _, World.size_alloc _ _, fun i hi => by
    rw [Nat.zero_add]
    exact ⟨by rw [World.cell?_alloc_new]; exact polyA_at k L i hi, World.frozen?_alloc_at _ _ _ _ rfl⟩⟩
theorem grown_setCells (b : Nat) : ∀ (vs : List Value) (o : Nat) (w w1 : World), w.grownBy w1 (some b) → w.grownBy (w1.setCells b o vs) (some b)
  | [], _, _, _, h => h
  | v :: r, o, w, w1, h => by
    rw [World.setCells]
    exact grown_setCells b r (o + 1) w _ ⟨h.os, h.tape, h.output, by simpa using h.size, fun k hk hr => (Below.heap_setCell _ _ _ _ (fun e => hr (by simp [e]))).trans (h.block k hk hr)⟩
theorem size_setCells (b : Nat) : ∀ (vs : List Value) (o : Nat) (w : World), (w.setCells b o vs).heap.size = w.heap.size
  | [], _, _ => rfl
  | v :: r, o, w => by rw [World.setCells, size_setCells b r (o + 1)]; simp
theorem put_cells (k : IntKind) (w : World) (b o : Nat) (L : Nat → Int) (ht : w.there b o (polyA k L).size) : Put k w (w.setCells b o (polyA k L).toList) b o L := by
  have hl : (polyA k L).toList.length = 256 := by rw [Array.length_toList, polyA_size]
  have ht' : ∀ j, j < 256 → (w.cell? ⟨b, o + j, none⟩).isSome = true ∧ w.frozen? ⟨b, o + j, none⟩ = false := fun j hj => ht j (by rw [polyA_size]; exact hj)
  refine ⟨grown_setCells b _ o w w (World.grownBy.refl w _), size_setCells b _ o w, fun i hi => ⟨?_, by rw [World.frozen?_setCells]; exact (ht' i hi).2⟩, fun i hi => ?_, fun i => World.frozen?_setCells _ _ _ _ _⟩
  · rw [World.cell?_setCells_in b _ o w (fun j hj => (ht' j (by omega)).1) i (by omega)]
    have e := polyA_at k L i hi
    rw [Array.getElem?_eq_getElem (by rw [polyA_size]; exact hi)] at e
    simpa using e
  · exact World.cell?_setCells_out b _ o w ⟨b, i, none⟩ (fun _ _ => by rw [hl]; rcases hi with h | h; · left; exact h
                                                                       · right; exact h)

variable {P : Program} {ops : Array Oper} {rest : List Oper} {o : Oper} {a : Act} {w : World} {Q : Exit → Act → World → Prop}
theorem wpL_alloc (hgd : o.guard = none) (k : IntKind) (ty : TypeId) (ho : o.op = .alloc ty) (hz : (P.info? ty).map (·.zero) = some (some (.agg (polyA k (fun _ => 0)))))
    (h : ∀ w', New k w w' (fun _ => 0) → wpList P ops Q rest (a.put o.dst (.pointer (some ⟨w.heap.size, 0, none⟩))) w') : wpList P ops Q (o :: rest) a w := by
  refine Great.wpList_runTo hgd o.dst rfl _ (w.alloc (.cells (polyA k (fun _ => 0)) ty)) ?_ (h _ (new_alloc k w _ ty))
  cases hq : P.info? ty with
  | none => simp [hq] at hz
  | some i =>
    have hz' : i.zero = some (.agg (polyA k (fun _ => 0))) := by simpa [hq] using hz
    unfold execOp
    simp [ho, Instr.alloc, zeroValue, typeInfo, hq, hz', newVar, newRow, newObj, Value.cells, Sem.run_bind]
    rfl
theorem wpL_box (hgd : o.guard = none) (k : IntKind) (ty : TypeId) (x : Operand) (ho : o.op = .box ty x) (L : Nat → Int) (hx : a.eval x = .agg (polyA k L))
    (h : ∀ w', New k w w' L → wpList P ops Q rest (a.put o.dst (.pointer (some ⟨w.heap.size, 0, none⟩))) w') : wpList P ops Q (o :: rest) a w := by
  refine Great.wpList_runTo hgd o.dst rfl _ (w.alloc (.cells (polyA k L) ty)) ?_ (h _ (new_alloc k w _ ty))
  unfold execOp
  simp [ho, hx, Instr.box, newVar, newRow, newObj, Value.cells]
  rfl
theorem wpL_load (hgd : o.guard = none) (k : IntKind) (ty : TypeId) (x : Operand) (ho : o.op = .load ty x) (b f : Nat) (hx : a.eval x = .pointer (some ⟨b, f, none⟩)) (L : Nat → Int) (hr : PRow k w b f L)
    (hu : ∃ e, P.underlying ty = some (.array 256 e)) (hi : (P.info? ty).map (·.size) = some 256)
    (h : wpList P ops Q rest (a.put o.dst (.agg (polyA k L))) w) : wpList P ops Q (o :: rest) a w := by
  obtain ⟨_, hu⟩ := hu; exact wpList_load_mid hgd ty x ho b f hx (polyL k L) _ hr.range hu rfl (by rw [polyL_len]; exact hi) h
theorem wpL_store (hgd : o.guard = none) (k : IntKind) (ty : TypeId) (x y : Operand) (ho : o.op = .store ty x y) (b f : Nat) (hx : a.eval x = .pointer (some ⟨b, f, none⟩)) (L : Nat → Int) (hy : a.eval y = .agg (polyA k L)) (j : IntKind) (M : Nat → Int) (hr : PRow j w b f M)
    (hi : (P.info? ty).map (·.size) = some 256) (h : ∀ w', Put k w w' b f L → wpList P ops Q rest (a.put o.dst undef) w') : wpList P ops Q (o :: rest) a w :=
  wpList_store_mid hgd ty x y ho b f (polyA k L) hx hy (hr.there k L) (by rw [polyA_size]; exact hi) (polyA_one k L) (h _ (put_cells k w b f L (hr.there k L)))
theorem wpO_load {K : Act → World → Prop} (k : IntKind) (ty : TypeId) (x : Operand) (ho : o.op = .load ty x) (b f : Nat) (hx : a.eval x = .pointer (some ⟨b, f, none⟩)) (L : Nat → Int) (hr : PRow k w b f L)
    (hu : ∃ e, P.underlying ty = some (.array 256 e)) (hi : (P.info? ty).map (·.size) = some 256)
    (h : K (a.put o.dst (.agg (polyA k L))) w) : o.wp P a w K Q := by
  obtain ⟨_, hu⟩ := hu; exact wp_load_mid ty x ho b f hx (polyL k L) _ hr.range hu rfl (by rw [polyL_len]; exact hi) h
theorem wpO_store {K : Act → World → Prop} (k : IntKind) (ty : TypeId) (x y : Operand) (ho : o.op = .store ty x y) (b f : Nat) (hx : a.eval x = .pointer (some ⟨b, f, none⟩)) (L : Nat → Int) (hy : a.eval y = .agg (polyA k L)) (j : IntKind) (M : Nat → Int) (hr : PRow j w b f M)
    (hi : (P.info? ty).map (·.size) = some 256) (h : ∀ w', Put k w w' b f L → K (a.put o.dst undef) w') : o.wp P a w K Q :=
  wp_store_mid ty x y ho b f (polyA k L) hx hy (hr.there k L) (by rw [polyA_size]; exact hi) (polyA_one k L) (h _ (put_cells k w b f L (hr.there k L)))
end Go.Proofs.Ytkijpphmiogbbaa
