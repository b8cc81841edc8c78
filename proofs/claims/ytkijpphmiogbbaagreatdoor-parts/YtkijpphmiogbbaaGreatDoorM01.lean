import Derived.WalkKit
import Derived.WalkSpells
import Derived.Deep.AppendLies
import Derived.Deep.Draws
import Derived.Test.YtkijpphmiogbbaaGreatDoorProg
import Derived.WalkLawsBesides
import Derived.BigQuiet
import Derived.Deep.QuietTactic
import Derived.Deep.RegionHeld3
import Derived.Deep.DrawnRows
import Derived.BigRegion
import Derived.Deep.RegionWith
import Derived.Deep.MidRow
import Derived.Great.Walk
import Derived.Laws.Rows
import Derived.Maps.AppendAt
namespace Go.Proofs.YtkijpphmiogbbaaGreatDoor
open Go.RowKit

/-- A function with another value at one place. -/
def upd (L : Nat → Int) (i : Nat) (v : Int) : Nat → Int := fun j => if j = i then v else L j
theorem upd_same (L : Nat → Int) (i : Nat) (v : Int) : upd L i v i = v := by simp [upd]
theorem upd_ne (L : Nat → Int) (i j : Nat) (v : Int) (h : j ≠ i) : upd L i v j = L j := by simp [upd, h]

/-- n cells of 64 bits lie in block b from 0 on, and may be written. -/
def Row (w : World) (b n : Nat) (L : Nat → Int) : Prop := ∀ i, i < n → w.cell? ⟨b, i, none⟩ = some (.int .u64 (L i)) ∧ w.frozen? ⟨b, i, none⟩ = false

theorem cell_lt {w : World} {a : Addr} {v : Value} (h : w.cell? a = some v) : a.block < w.heap.size := by
  rcases Nat.lt_or_ge a.block w.heap.size with h1 | h1
  · exact h1
  · simp [World.cell?, Array.getElem?_eq_none h1] at h
theorem cell_same {w : World} {a : Addr} {u v : Value} (h : w.cell? a = some u) : (w.setCell a v).cell? a = some v := World.cell?_setCell_same w a v h
theorem cell_other (w : World) (a p : Addr) (v : Value) (h : p.block ≠ a.block ∨ p.off ≠ a.off) : (w.setCell a v).cell? p = w.cell? p :=
  World.cell?_setCell_other w a p v (fun e => by subst e; simp at h)
theorem frozen_set (w : World) (a p : Addr) (v : Value) : (w.setCell a v).frozen? p = w.frozen? p := World.frozen?_setCell w a p v

theorem Row.lt {w : World} {b n : Nat} {L : Nat → Int} (h : Row w b n L) (hn : 0 < n) : b < w.heap.size := cell_lt (h 0 hn).1
theorem Row.drew {w : World} {b n : Nat} {L : Nat → Int} (h : Row w b n L) : Row w.drew b n L := h
theorem Row.set {w : World} {b n : Nat} {L : Nat → Int} (h : Row w b n L) {i : Nat} (hi : i < n) (v : Int) : Row (w.setCell ⟨b, i, none⟩ (.int .u64 v)) b n (upd L i v) := by
  intro j hj
  refine ⟨?_, by rw [frozen_set]; exact (h j hj).2⟩
  by_cases e : j = i
  · subst e; rw [cell_same (h j hj).1, upd_same]
  · rw [cell_other _ _ _ _ (Or.inr e), upd_ne _ _ _ _ e]; exact (h j hj).1
theorem Row.set_other {w : World} {b n : Nat} {L : Nat → Int} (h : Row w b n L) {p : Addr} (hp : p.block ≠ b) (v : Value) : Row (w.setCell p v) b n L := by
  intro j hj
  exact ⟨by rw [cell_other _ _ _ _ (Or.inl (Ne.symm hp))]; exact (h j hj).1, by rw [frozen_set]; exact (h j hj).2⟩
theorem Row.set_past {w : World} {b n : Nat} {L : Nat → Int} (h : Row w b n L) {i : Nat} (hi : n ≤ i) (v : Value) : Row (w.setCell ⟨b, i, none⟩ v) b n L := by
  intro j hj
  exact ⟨by rw [cell_other _ _ _ _ (Or.inr (show j ≠ i by omega))]; exact (h j hj).1, by rw [frozen_set]; exact (h j hj).2⟩
theorem Row.alloc {w : World} {b n : Nat} {L : Nat → Int} (h : Row w b n L) (o : Obj) : Row (w.alloc o) b n L := by
  intro j hj
  have hb := cell_lt (h j hj).1
  exact ⟨by rw [World.cell?_alloc_lt _ _ _ hb]; exact (h j hj).1, by rw [World.frozen?_alloc_old _ _ _ (Nat.ne_of_lt hb)]; exact (h j hj).2⟩
theorem Row.ext {w : World} {b n : Nat} {L M : Nat → Int} (h : Row w b n L) (e : ∀ i, i < n → L i = M i) : Row w b n M := fun i hi => by rw [← e i hi]; exact h i hi

/-- w' is w with new blocks, and with writes to the first 25 cells of block b alone. -/
structure Keep (b : Nat) (w w' : World) : Prop where
  g : w.grownBy w' (some b)
  rest : ∀ i, 25 ≤ i → w'.cell? ⟨b, i, none⟩ = w.cell? ⟨b, i, none⟩
  fz : ∀ i, w'.frozen? ⟨b, i, none⟩ = w.frozen? ⟨b, i, none⟩

theorem grownBy_trans {w w1 w2 : World} {r : Option Nat} (h : w.grownBy w1 r) (k : w1.grownBy w2 r) : w.grownBy w2 r :=
  ⟨k.os.trans h.os, k.tape.trans h.tape, k.output.trans h.output, Nat.le_trans h.size k.size, fun i hi hr => (k.block i (Nat.lt_of_lt_of_le hi h.size) hr).trans (h.block i hi hr)⟩
theorem Keep.refl (b : Nat) (w : World) : Keep b w w := ⟨World.grownBy.refl w _, fun _ _ => rfl, fun _ => rfl⟩
theorem Keep.trans {b : Nat} {w w1 w2 : World} (h : Keep b w w1) (k : Keep b w1 w2) : Keep b w w2 :=
  ⟨grownBy_trans h.g k.g, fun i hi => (k.rest i hi).trans (h.rest i hi), fun i => (k.fz i).trans (h.fz i)⟩
theorem Keep.drew {b : Nat} {w w1 : World} (h : Keep b w w1) : Keep b w w1.drew := ⟨⟨h.g.os, h.g.tape, h.g.output, h.g.size, h.g.block⟩, h.rest, h.fz⟩
theorem Keep.drewN {b : Nat} {w w1 : World} (h : Keep b w w1) (n : Nat) : Keep b w (w1.drewN n) := ⟨⟨h.g.os, h.g.tape, h.g.output, h.g.size, h.g.block⟩, h.rest, h.fz⟩
theorem Keep.set {b : Nat} {w w1 : World} (h : Keep b w w1) {i : Nat} (hi : i < 25) (v : Value) : Keep b w (w1.setCell ⟨b, i, none⟩ v) :=
  h.trans ⟨⟨rfl, rfl, rfl, by simp, fun k _ hr => Below.heap_setCell _ _ _ _ (fun e => hr (by simp [e]))⟩, fun j hj => cell_other _ _ _ _ (Or.inr (show j ≠ i by omega)), fun j => frozen_set _ _ _ _⟩
theorem Keep.set_new {b : Nat} {w w1 : World} (h : Keep b w w1) {p : Addr} (hp : w.heap.size ≤ p.block) (hb : b < w.heap.size) (v : Value) : Keep b w (w1.setCell p v) :=
  ⟨⟨h.g.os, h.g.tape, h.g.output, by simpa using h.g.size, fun k hk hr => (Below.heap_setCell _ _ _ _ (by omega)).trans (h.g.block k hk hr)⟩,
   fun j hj => (cell_other _ _ _ _ (Or.inl (show b ≠ p.block by omega))).trans (h.rest j hj), fun j => (frozen_set _ _ _ _).trans (h.fz j)⟩
theorem Keep.alloc {b : Nat} {w w1 : World} (h : Keep b w w1) (hb : b < w.heap.size) (o : Obj) : Keep b w (w1.alloc o) := by
  have hb1 : b < w1.heap.size := Nat.lt_of_lt_of_le hb h.g.size
  exact h.trans ⟨World.grownBy_alloc _ _ _, fun i _ => World.cell?_alloc_lt _ _ ⟨b, i, none⟩ hb1, fun i => World.frozen?_alloc_old _ _ ⟨b, i, none⟩ (Nat.ne_of_lt hb1)⟩
theorem Keep.cell {b : Nat} {w w1 : World} (h : Keep b w w1) {a : Addr} {v : Value} (ha : w.cell? a = some v) (hne : a.block ≠ b) : w1.cell? a = some v := h.g.cell ha (by simp [hne])
theorem Keep.row {b : Nat} {w w1 : World} (h : Keep b w w1) {c n : Nat} {L : Nat → Int} (hr : Row w c n L) (hne : c ≠ b) : Row w1 c n L := by
  intro i hi
  have hc := cell_lt (hr i hi).1
  exact ⟨h.g.cell (hr i hi).1 (by simp [hne]), by rw [h.g.frozen_far ⟨c, i, none⟩ hc (by simp [hne])]; exact (hr i hi).2⟩
end Go.Proofs.YtkijpphmiogbbaaGreatDoor

namespace Go.Proofs.YtkijpphmiogbbaaGreatDoor.Z
open Go.RowKit

/-- 256 cells as values. -/
def polyL (k : IntKind) (L : Nat → Int) : List Value := (List.range 256).map fun i => Value.int k (L i)
def polyA (k : IntKind) (L : Nat → Int) : Array Value := (polyL k L).toArray
theorem polyL_len (k : IntKind) (L : Nat → Int) : (polyL k L).length = 256 := by simp [polyL]
theorem polyA_size (k : IntKind) (L : Nat → Int) : (polyA k L).size = 256 := by simp [polyA, polyL]
theorem polyL_at (k : IntKind) (L : Nat → Int) (i : Nat) (h : i < 256) : (polyL k L)[i]? = some (.int k (L i)) := by
  unfold polyL; rw [List.getElem?_map, List.getElem?_range h]; rfl
theorem polyA_at (k : IntKind) (L : Nat → Int) (i : Nat) (h : i < 256) : (polyA k L)[i]? = some (.int k (L i)) := by
  unfold polyA; rw [List.getElem?_toArray]; exact polyL_at k L i h
theorem polyA_ext (k : IntKind) {L M : Nat → Int} (h : ∀ i, i < 256 → L i = M i) : polyA k L = polyA k M := by
  unfold polyA polyL
  congr 1
  exact List.map_congr_left (fun i hi => by rw [h i (List.mem_range.1 hi)])
theorem polyA_one (k : IntKind) (L : Nat → Int) : (polyA k L).all (·.oneCell') = true := by
  rw [Array.all_eq_true_iff_forall_mem]
  intro x hx
  unfold polyA polyL at hx
  simp at hx
  obtain ⟨i, _, rfl⟩ := hx
  rfl

/-- 256 cells lie in block b from o on, and may be written. -/
def PRow (k : IntKind) (w : World) (b o : Nat) (L : Nat → Int) : Prop := ∀ i, i < 256 → w.cell? ⟨b, o + i, none⟩ = some (.int k (L i)) ∧ w.frozen? ⟨b, o + i, none⟩ = false
theorem PRow.range {k : IntKind} {w : World} {b o : Nat} {L : Nat → Int} (h : PRow k w b o L) : w.rangeAt b o (polyL k L) := by
  intro j v hv
  rcases Nat.lt_or_ge j 256 with hj | hj
  · rw [polyL_at k L j hj] at hv; rw [(h j hj).1]; exact hv
  · rw [List.getElem?_eq_none (by rw [polyL_len]; exact hj)] at hv; cases hv
theorem PRow.there {k : IntKind} {w : World} {b o : Nat} {L : Nat → Int} (h : PRow k w b o L) (j : IntKind) (M : Nat → Int) : w.there b o (polyA j M).size := by
  intro i hi
  rw [polyA_size] at hi
  exact ⟨by rw [(h i hi).1]; rfl, (h i hi).2⟩
theorem PRow.lt {k : IntKind} {w : World} {b o : Nat} {L : Nat → Int} (h : PRow k w b o L) : b < w.heap.size := cell_lt (h 0 (by omega)).1
theorem PRow.at0 {k : IntKind} {w : World} {b : Nat} {L : Nat → Int} (h : PRow k w b 0 L) (i : Nat) (hi : i < 256) : w.cell? ⟨b, i, none⟩ = some (.int k (L i)) ∧ w.frozen? ⟨b, i, none⟩ = false := by
  have := h i hi
  rwa [Nat.zero_add] at this
theorem PRow.far {k : IntKind} {w w' : World} {b o : Nat} {r : Option Nat} {L : Nat → Int} (h : PRow k w b o L) (hg : w.grownBy w' r) (hne : some b ≠ r) : PRow k w' b o L := by
  intro i hi
  have hc := h.lt
  exact ⟨hg.cell (h i hi).1 hne, by rw [hg.frozen_far ⟨b, o + i, none⟩ hc hne]; exact (h i hi).2⟩
theorem PRow.new {k : IntKind} {w w' : World} {b o : Nat} {L : Nat → Int} (h : PRow k w b o L) (hg : w.grownBy w' none) : PRow k w' b o L := h.far hg (by simp)
theorem PRow.drew {k : IntKind} {w : World} {b o : Nat} {L : Nat → Int} (h : PRow k w b o L) : PRow k w.drew b o L := h
theorem PRow.ext {k : IntKind} {w : World} {b o : Nat} {L M : Nat → Int} (h : PRow k w b o L) (e : ∀ i, i < 256 → L i = M i) : PRow k w b o M := fun i hi => by rw [← e i hi]; exact h i hi
theorem PRow.set0 {k : IntKind} {w : World} {b : Nat} {L : Nat → Int} (h : PRow k w b 0 L) {i : Nat} (hi : i < 256) (v : Int) : PRow k (w.setCell ⟨b, i, none⟩ (.int k v)) b 0 (upd L i v) := by
  intro j hj
  rw [Nat.zero_add]
  have hh := h.at0 j hj
  refine ⟨?_, by rw [frozen_set]; exact hh.2⟩
  by_cases e : j = i
  · subst e; rw [cell_same hh.1, upd_same]
  · rw [cell_other _ _ _ _ (Or.inr e), upd_ne _ _ _ _ e]; exact hh.1
theorem PRow.set_other {k : IntKind} {w : World} {b o : Nat} {L : Nat → Int} (h : PRow k w b o L) {p : Addr} (hp : p.block ≠ b) (v : Value) : PRow k (w.setCell p v) b o L := by
  intro j hj
  exact ⟨by rw [cell_other _ _ _ _ (Or.inl (Ne.symm hp))]; exact (h j hj).1, by rw [frozen_set]; exact (h j hj).2⟩

theorem grown_new {w w1 w2 : World} {b : Nat} (h : w.grownBy w1 none) (k : w1.grownBy w2 (some b)) (hb : w.heap.size ≤ b) : w.grownBy w2 none :=
  ⟨k.os.trans h.os, k.tape.trans h.tape, k.output.trans h.output, Nat.le_trans h.size k.size, fun i hi _ => (k.block i (Nat.lt_of_lt_of_le hi h.size) (by simp; omega)).trans (h.block i hi (by simp))⟩
theorem grown_setNew {w w1 : World} (g : w.grownBy w1 none) {p : Addr} (hp : w.heap.size ≤ p.block) (v : Value) : w.grownBy (w1.setCell p v) none :=
  ⟨g.os, g.tape, g.output, by simpa using g.size, fun k hk hr => (Below.heap_setCell _ _ _ _ (by omega)).trans (g.block k hk hr)⟩
theorem grown_drew {w w1 : World} {r : Option Nat} (g : w.grownBy w1 r) : w.grownBy w1.drew r := ⟨g.os, g.tape, g.output, g.size, g.block⟩
theorem below_of_grown {w w' : World} (h : w.grownBy w' none) : Below w.heap.size w w' := ⟨h.os, h.tape, h.output, h.size, fun k hk => h.block k hk (by simp)⟩

/-- One new block, with these 256 cells. -/
structure New (k : IntKind) (w w' : World) (L : Nat → Int) : Prop where
  g : w.grownBy w' none
  s : w'.heap.size = w.heap.size + 1
  r : PRow k w' w.heap.size 0 L
/-- These 256 cells were written. -/
structure Put (k : IntKind) (w w' : World) (b o : Nat) (L : Nat → Int) : Prop where
  g : w.grownBy w' (some b)
  s : w'.heap.size = w.heap.size
  r : PRow k w' b o L
  out : ∀ i, i < o ∨ o + 256 ≤ i → w'.cell? ⟨b, i, none⟩ = w.cell? ⟨b, i, none⟩
  fz : ∀ i, w'.frozen? ⟨b, i, none⟩ = w.frozen? ⟨b, i, none⟩
theorem new_alloc (k : IntKind) (w : World) (L : Nat → Int) (T : TypeId) : New k w (w.alloc (.cells (polyA k L) T)) L :=
  ⟨World.grownBy_alloc _ _ _, World.size_alloc _ _, fun i hi => by
    rw [Nat.zero_add]
    exact ⟨by rw [World.cell?_alloc_new]; exact polyA_at k L i hi, World.frozen?_alloc_at _ _ _ _ rfl⟩⟩
theorem grown_setCells (b : Nat) : ∀ (vs : List Value) (o : Nat) (w w1 : World), w.grownBy w1 (some b) → w.grownBy (w1.setCells b o vs) (some b)
  | [], _, _, _, h => h
  | v :: r, o, w, w1, h => by
    rw [World.setCells]
    exact grown_setCells b r (o + 1) w _ ⟨h.os, h.tape, h.output, by simpa using h.size, fun k hk hr => (Below.heap_setCell _ _ _ _ (fun e => hr (by simp [e]))).trans (h.block k hk hr)⟩
theorem size_setCells (b : Nat) : ∀ (vs : List Value) (o : Nat) (w : World), (w.setCells b o vs).heap.size = w.heap.size
  | [], _, _ => rfl
  | v :: r, o, w => by rw [World.setCells, size_setCells b r (o + 1)]; simp
theorem put_cells (k : IntKind) (w : World) (b o : Nat) (L : Nat → Int) (ht : w.there b o (polyA k L).size) : Put k w (w.setCells b o (polyA k L).toList) b o L := by
  have hl : (polyA k L).toList.length = 256 := by rw [Array.length_toList, polyA_size]
  have ht' : ∀ j, j < 256 → (w.cell? ⟨b, o + j, none⟩).isSome = true ∧ w.frozen? ⟨b, o + j, none⟩ = false := fun j hj => ht j (by rw [polyA_size]; exact hj)
  refine ⟨grown_setCells b _ o w w (World.grownBy.refl w _), size_setCells b _ o w, fun i hi => ⟨?_, by rw [World.frozen?_setCells]; exact (ht' i hi).2⟩, fun i hi => ?_, fun i => World.frozen?_setCells _ _ _ _ _⟩
  · rw [World.cell?_setCells_in b _ o w (fun j hj => (ht' j (by omega)).1) i (by omega)]
    have e := polyA_at k L i hi
    rw [Array.getElem?_eq_getElem (by rw [polyA_size]; exact hi)] at e
    simpa using e
  · exact World.cell?_setCells_out b _ o w ⟨b, i, none⟩ (fun _ _ => by rw [hl]; rcases hi with h | h; · left; exact h
                                                                       · right; exact h)

variable {P : Program} {ops : Array Oper} {rest : List Oper} {o : Oper} {a : Act} {w : World} {Q : Exit → Act → World → Prop}
theorem wpL_alloc (hgd : o.guard = none) (k : IntKind) (ty : TypeId) (ho : o.op = .alloc ty) (hz : (P.info? ty).map (·.zero) = some (some (.agg (polyA k (fun _ => 0)))))
    (h : ∀ w', New k w w' (fun _ => 0) → wpList P ops Q rest (a.put o.dst (.pointer (some ⟨w.heap.size, 0, none⟩))) w') : wpList P ops Q (o :: rest) a w := by
  refine Great.wpList_runTo hgd o.dst rfl _ (w.alloc (.cells (polyA k (fun _ => 0)) ty)) ?_ (h _ (new_alloc k w _ ty))
  cases hq : P.info? ty with
  | none => simp [hq] at hz
  | some i =>
    have hz' : i.zero = some (.agg (polyA k (fun _ => 0))) := by simpa [hq] using hz
    unfold execOp
    simp [ho, Instr.alloc, zeroValue, typeInfo, hq, hz', newVar, newRow, newObj, Value.cells, Sem.run_bind]
    rfl
theorem wpL_box (hgd : o.guard = none) (k : IntKind) (ty : TypeId) (x : Operand) (ho : o.op = .box ty x) (L : Nat → Int) (hx : a.eval x = .agg (polyA k L))
    (h : ∀ w', New k w w' L → wpList P ops Q rest (a.put o.dst (.pointer (some ⟨w.heap.size, 0, none⟩))) w') : wpList P ops Q (o :: rest) a w := by
  refine Great.wpList_runTo hgd o.dst rfl _ (w.alloc (.cells (polyA k L) ty)) ?_ (h _ (new_alloc k w _ ty))
  unfold execOp
  simp [ho, hx, Instr.box, newVar, newRow, newObj, Value.cells]
  rfl
theorem wpL_load (hgd : o.guard = none) (k : IntKind) (ty : TypeId) (x : Operand) (ho : o.op = .load ty x) (b f : Nat) (hx : a.eval x = .pointer (some ⟨b, f, none⟩)) (L : Nat → Int) (hr : PRow k w b f L)
    (hu : ∃ e, P.underlying ty = some (.array 256 e)) (hi : (P.info? ty).map (·.size) = some 256)
    (h : wpList P ops Q rest (a.put o.dst (.agg (polyA k L))) w) : wpList P ops Q (o :: rest) a w := by
  obtain ⟨_, hu⟩ := hu; exact wpList_load_mid hgd ty x ho b f hx (polyL k L) _ hr.range hu rfl (by rw [polyL_len]; exact hi) h
theorem wpL_store (hgd : o.guard = none) (k : IntKind) (ty : TypeId) (x y : Operand) (ho : o.op = .store ty x y) (b f : Nat) (hx : a.eval x = .pointer (some ⟨b, f, none⟩)) (L : Nat → Int) (hy : a.eval y = .agg (polyA k L)) (j : IntKind) (M : Nat → Int) (hr : PRow j w b f M)
    (hi : (P.info? ty).map (·.size) = some 256) (h : ∀ w', Put k w w' b f L → wpList P ops Q rest (a.put o.dst undef) w') : wpList P ops Q (o :: rest) a w :=
  wpList_store_mid hgd ty x y ho b f (polyA k L) hx hy (hr.there k L) (by rw [polyA_size]; exact hi) (polyA_one k L) (h _ (put_cells k w b f L (hr.there k L)))
theorem wpO_load {K : Act → World → Prop} (k : IntKind) (ty : TypeId) (x : Operand) (ho : o.op = .load ty x) (b f : Nat) (hx : a.eval x = .pointer (some ⟨b, f, none⟩)) (L : Nat → Int) (hr : PRow k w b f L)
    (hu : ∃ e, P.underlying ty = some (.array 256 e)) (hi : (P.info? ty).map (·.size) = some 256)
    (h : K (a.put o.dst (.agg (polyA k L))) w) : o.wp P a w K Q := by
  obtain ⟨_, hu⟩ := hu; exact wp_load_mid ty x ho b f hx (polyL k L) _ hr.range hu rfl (by rw [polyL_len]; exact hi) h
theorem wpO_store {K : Act → World → Prop} (k : IntKind) (ty : TypeId) (x y : Operand) (ho : o.op = .store ty x y) (b f : Nat) (hx : a.eval x = .pointer (some ⟨b, f, none⟩)) (L : Nat → Int) (hy : a.eval y = .agg (polyA k L)) (j : IntKind) (M : Nat → Int) (hr : PRow j w b f M)
    (hi : (P.info? ty).map (·.size) = some 256) (h : ∀ w', Put k w w' b f L → K (a.put o.dst undef) w') : o.wp P a w K Q :=
  wp_store_mid ty x y ho b f (polyA k L) hx hy (hr.there k L) (by rw [polyA_size]; exact hi) (polyA_one k L) (h _ (put_cells k w b f L (hr.there k L)))
end Go.Proofs.YtkijpphmiogbbaaGreatDoor.Z

namespace Go.Proofs.YtkijpphmiogbbaaGreatDoor.Z
open Go.RowKit
attribute [local go_sem ↓] Go.wp_at_zero Go.wp_at_succ

def InI (z : Int) : Prop := -9223372036854775808 ≤ z ∧ z ≤ 9223372036854775807
/-- A step of a script. -/
structure OpV where
  kind : Int
  x : Int
  y : Int
  z : Int
  w : Int
  a : Int
  b : Int
  s : ByteArray
structure OpOK (o : OpV) : Prop where
  kind : InI o.kind
  x : InI o.x
  y : InI o.y
  z : InI o.z
  w : InI o.w
  a : InI o.a
  b : InI o.b
  s : o.s.size ≤ 9223372036854775807
def opL (o : OpV) : List Value := [.int .i64 o.kind, .int .i64 o.x, .int .i64 o.y, .int .i64 o.z, .int .i64 o.w, .int .i64 o.a, .int .i64 o.b, .string o.s]
abbrev opVal (o : OpV) : Value := .agg #[.int .i64 o.kind, .int .i64 o.x, .int .i64 o.y, .int .i64 o.z, .int .i64 o.w, .int .i64 o.a, .int .i64 o.b, .string o.s]

def nilS : Value := .slice none 0 0
/-- What lies in the script's world behind the polynomials: streams, lists, what they must read as, the mark. -/
structure SV where
  s : Value
  l : Value
  k : Value
  m : Int
abbrev sv0 : SV := ⟨.slice none 0 0, .slice none 0 0, .slice none 0 0, 0⟩
/-- What else the script's world holds, in the blocks Φ. -/
abbrev Side := Nat → SV → (Nat → Prop) → World → Prop
/-- The script's world lies in block B: texts, polynomials, streams; c: how many steps there were at most. -/
structure SWd (X : Side) (B c : Nat) (vT vP : Value) (vS : SV) (ts : List ByteArray) (nP : Nat) (ps : List Value) (Φ : Nat → Prop) (w : World) : Prop where
  blk : w.heap[B]? = some (.cells #[vT, vP, vS.s, vS.l, vS.k, .int .i64 vS.m] 35)
  own : w.ownsRow 0 9 1 vT ts.length (ts.map Value.string)
  nT : ts.length ≤ 2 * c
  short : ∀ t ∈ ts, t.size ≤ 20000
  ownP : w.ownsRow 0 43 256 vP nP ps
  nPc : nP ≤ 2 * c
  ints : ∀ v ∈ ps, ∃ z, v = .int .i64 z ∧ InI z
  fB : ¬ Φ B
  fT : ∀ g, vT.ownBlock = some g → ¬ Φ g
  fP : ∀ g, vP.ownBlock = some g → ¬ Φ g
  lt : ∀ k, Φ k → k < w.heap.size
  side : X c vS Φ w
def SW (X : Side) (B c : Nat) (w : World) : Prop := ∃ vT vP vS ts nP ps Φ, SWd X B c vT vP vS ts nP ps Φ w

structure Side.Local (X : Side) : Prop where
  loc : ∀ c v Φ w w', w'.os = w.os → w'.tape = w.tape → w'.output = w.output → w.heap.size ≤ w'.heap.size → (∀ k, Φ k → w'.heap[k]? = w.heap[k]?) → X c v Φ w → X c v Φ w'
  more : ∀ c d v Φ w, c ≤ d → X c v Φ w → X d v Φ w
  looks : ∀ B c vT vP vS ts nP ps Φ w, SWd X B c vT vP vS ts nP ps Φ w → c ≤ 50000 →
    Calls Tryz.prog 19 #[.pointer (some ⟨B, 0, none⟩)] w fun e w' => e = .returned (.bool true) ∧ w.grownBy w' none

variable {X : Side} {B c : Nat} {vT vP : Value} {vS : SV} {ts : List ByteArray} {nP : Nat} {ps : List Value} {Φ : Nat → Prop} {w : World}

theorem SWd.Blt (h : SWd X B c vT vP vS ts nP ps Φ w) : B < w.heap.size := (Array.getElem?_eq_some_iff.1 h.blk).1
theorem SWd.c0 (h : SWd X B c vT vP vS ts nP ps Φ w) : w.cell? ⟨B, 0, none⟩ = some vT := by rw [cell_of_row w B 0 _ _ _ h.blk]; rfl
theorem SWd.c1 (h : SWd X B c vT vP vS ts nP ps Φ w) : w.cell? ⟨B, 1, none⟩ = some vP := by rw [cell_of_row w B 1 _ _ _ h.blk]; rfl
theorem SWd.c2 (h : SWd X B c vT vP vS ts nP ps Φ w) : w.cell? ⟨B, 2, none⟩ = some vS.s := by rw [cell_of_row w B 2 _ _ _ h.blk]; rfl
theorem SWd.c3 (h : SWd X B c vT vP vS ts nP ps Φ w) : w.cell? ⟨B, 3, none⟩ = some vS.l := by rw [cell_of_row w B 3 _ _ _ h.blk]; rfl
theorem SWd.c4 (h : SWd X B c vT vP vS ts nP ps Φ w) : w.cell? ⟨B, 4, none⟩ = some vS.k := by rw [cell_of_row w B 4 _ _ _ h.blk]; rfl
theorem SWd.c5 (h : SWd X B c vT vP vS ts nP ps Φ w) : w.cell? ⟨B, 5, none⟩ = some (.int .i64 vS.m) := by rw [cell_of_row w B 5 _ _ _ h.blk]; rfl
theorem SWd.fz (h : SWd X B c vT vP vS ts nP ps Φ w) (i : Nat) : w.frozen? ⟨B, i, none⟩ = false := by
  simp [World.frozen?, h.blk]

/-- What makes only new blocks keeps it. -/
theorem SWd.keep (hX : X.Local) (h : SWd X B c vT vP vS ts nP ps Φ w) {w' : World} (hg : w.grownBy w' none) : SWd X B c vT vP vS ts nP ps Φ w' where
  blk := by rw [hg.block B h.Blt (by simp)]; exact h.blk
  own := h.own.kept hg (by cases hv : vT.ownBlock <;> simp)
  nT := h.nT
  short := h.short
  ownP := h.ownP.kept hg (by cases hv : vP.ownBlock <;> simp)
  nPc := h.nPc
  ints := h.ints
  fB := h.fB
  fT := h.fT
  fP := h.fP
  lt := fun k hk => Nat.lt_of_lt_of_le (h.lt k hk) hg.size
  side := hX.loc _ _ _ _ _ hg.os hg.tape hg.output hg.size (fun k hk => hg.block k (h.lt k hk) (by simp)) h.side
theorem SW.keep (hX : X.Local) (h : SW X B c w) {w' : World} (hg : w.grownBy w' none) : SW X B c w' := by
  obtain ⟨vT, vP, vS, ts, nP, ps, Φ, h⟩ := h
  exact ⟨vT, vP, vS, ts, nP, ps, Φ, h.keep hX hg⟩
theorem SW.Blt (h : SW X B c w) : B < w.heap.size := by
  obtain ⟨vT, vP, vS, ts, nP, ps, Φ, h⟩ := h
  exact h.Blt
theorem SW.more (hX : X.Local) (h : SW X B c w) {d : Nat} (hd : c ≤ d) : SW X B d w := by
  obtain ⟨vT, vP, vS, ts, nP, ps, Φ, h⟩ := h
  exact ⟨vT, vP, vS, ts, nP, ps, Φ, h.blk, h.own, by have := h.nT; omega, h.short, h.ownP, by have := h.nPc; omega, h.ints, h.fB, h.fT, h.fP, h.lt, hX.more _ _ _ _ _ hd h.side⟩

theorem own_ne {w : World} {e T : TypeId} {size : Nat} {v : Value} {n : Nat} {xs : List Value} {base b : Nat} {cs : Array Value} {fr : Nat × Nat} (ho : w.ownsRow base e size v n xs) (hb : w.heap[b]? = some (.cells cs T fr)) (hT : T ≠ e) : v.ownBlock ≠ some b := by
  intro hv
  rcases ho.2 with ⟨rfl, _⟩ | ⟨g, cap, cur, rfl, _, hg, _⟩
  · simp [Value.ownBlock] at hv
  · simp [Value.ownBlock] at hv
    subst hv
    rw [hg] at hb
    cases hb
    exact hT rfl
theorem own_apart {w : World} {e e' : TypeId} {size size' : Nat} {v v' : Value} {n n' : Nat} {xs xs' : List Value} {base base' : Nat} (ho : w.ownsRow base e size v n xs) (ho' : w.ownsRow base' e' size' v' n' xs') (hT : e' ≠ e) : v.ownBlock = none ∨ v.ownBlock ≠ v'.ownBlock := by
  rcases ho'.2 with ⟨rfl, _⟩ | ⟨g, cap, cur, rfl, _, hg, _⟩
  · cases hv : v.ownBlock
    · exact .inl rfl
    · exact .inr (by simp [Value.ownBlock])
  · exact .inr (own_ne ho hg hT)

/-- A field of the script's world is written. -/
theorem heap_setB {w : World} {B i : Nat} {cs : Array Value} {T : TypeId} {v : Value} (h : w.heap[B]? = some (.cells cs T)) : (w.setCell ⟨B, i, none⟩ v).heap[B]? = some (.cells (cs.setIfInBounds i v) T) :=
  Go.heap_setCell_same w B i cs T v h
end Go.Proofs.YtkijpphmiogbbaaGreatDoor.Z

namespace Go.Proofs.YtkijpphmiogbbaaGreatDoor.Z
open Go.RowKit
attribute [local go_sem ↓] Go.wp_at_zero Go.wp_at_succ

theorem pick_facts (c n : Int) (hn : 0 < n) : (c < 0 → ∃ k : Nat, (k : Int) < n ∧ n - 1 - (-((c + 1).tmod n)) = (k : Int) ∧ 0 ≤ -((c + 1).tmod n) ∧ -((c + 1).tmod n) < n) ∧ (0 ≤ c → ∃ k : Nat, (k : Int) < n ∧ c % n = (k : Int)) := by
  constructor
  · intro h
    have h1 : -((c + 1).tmod n) = (-(c + 1)) % n := by rw [← Int.neg_tmod, Int.tmod_eq_emod_of_nonneg (by omega)]
    have h2 := Int.emod_nonneg (-(c + 1)) (show n ≠ 0 by omega)
    have h3 := Int.emod_lt_of_pos (-(c + 1)) hn
    rw [h1]
    exact ⟨(n - 1 - (-(c + 1)) % n).toNat, by omega, by omega, h2, h3⟩
  · intro h
    have h2 := Int.emod_nonneg c (show n ≠ 0 by omega)
    have h3 := Int.emod_lt_of_pos c hn
    exact ⟨(c % n).toNat, by omega, by omega⟩
set_option maxHeartbeats 1000000 in
theorem pick_any (c n : Int) (w : World) (hc : InI c) (hn : 0 < n) (hn' : n ≤ 9223372036854775807) :
    Calls Tryz.prog 22 #[.int .i64 c, .int .i64 n] w fun e w' => ∃ k : Nat, (k : Int) < n ∧ e = .returned (.int .i64 k) ∧ w' = w := by
  obtain ⟨hc0, hc1⟩ := hc
  by_cases h : c < 0
  · obtain ⟨k, h1, h2, h3, h4⟩ := (pick_facts c n hn).1 h
    have HK : Hid (n - 1 - (-((c + 1).tmod n)) = (k : Int)) := h2
    clear h2
    go_enter Tryz.func22, Tryz.ntmps22
    go_wp2
    go_ret
    refine ⟨k, h1, ?_, rfl⟩
    show Ending.returned (.int .i64 (n - 1 + (c + 1).tmod n)) = _
    rw [show n - 1 + (c + 1).tmod n = (k : Int) by have := HK.out; omega]
  · obtain ⟨k, h1, h2⟩ := (pick_facts c n hn).2 (by omega)
    have HK : Hid (c % n = (k : Int)) := h2
    clear h2
    go_enter Tryz.func22, Tryz.ntmps22
    go_wp2
    go_ret
    refine ⟨k, h1, ?_, rfl⟩
    show Ending.returned (.int .i64 (c % n)) = _
    rw [HK.out]

variable {X : Side} {B c : Nat} {vT vP : Value} {vS : SV} {ts : List ByteArray} {nP : Nat} {ps : List Value} {Φ : Nat → Prop} {w : World}
theorem own_forms {w : World} {base : Nat} {e : TypeId} {size : Nat} {v : Value} {n : Nat} {xs : List Value} (h : w.ownsRow base e size v n xs) : (v = .slice none 0 0 ∧ n = 0 ∧ xs = []) ∨ ∃ g cap, v = .slice (some ⟨g, 0, none⟩) n cap ∧ (∀ j u, xs[j]? = some u → w.cell? ⟨g, j, none⟩ = some u) := by
  have h0 := h
  rcases h.2 with ⟨rfl, rfl⟩ | ⟨g, cap, cur, rfl, _⟩
  · exact .inl ⟨rfl, rfl, List.eq_nil_of_length_eq_zero (by simpa using h.1)⟩
  · refine .inr ⟨g, cap, rfl, fun j u hu => ?_⟩
    have := h0.cells (g := g) rfl j u hu
    have hadd : (⟨g, 0, none⟩ : Addr).add j = ⟨g, j, none⟩ := by unfold Addr.add; split <;> simp_all
    rwa [hadd] at this
set_option maxHeartbeats 1000000 in
theorem text_any (hc : c ≤ 40000) (i : Int) (hi : InI i) (h : SWd X B c vT vP vS ts nP ps Φ w) :
    Calls Tryz.prog 20 #[.pointer (some ⟨B, 0, none⟩), .int .i64 i] w fun e w' => ∃ t, e = .returned (.string t) ∧ t.size ≤ 20000 ∧ w.grownBy w' none := by
  have c0 := h.c0
  have hn := h.nT
  rcases own_forms h.own with ⟨hv, hn0, hx⟩ | ⟨g, cap, hv, hcell⟩
  · rw [hv] at c0
    clear h
    go_enter Tryz.func20, Tryz.ntmps20
    go_wp2
    go_ret
    exact ⟨_, rfl, by decide, World.grownBy.refl _ _⟩
  · rw [hv] at c0
    by_cases hz : ts.length = 0
    · rw [hz] at c0
      clear h hcell
      go_enter Tryz.func20, Tryz.ntmps20
      go_wp2
      go_ret
      exact ⟨_, rfl, by decide, World.grownBy.refl _ _⟩
    · have hs : ∀ k : Nat, (k : Int) < (ts.length : Int) → ∃ t, w.cell? ⟨g, k, none⟩ = some (.string t) ∧ t.size ≤ 20000 := fun k hk => by
        have hk' : k < ts.length := by omega
        exact ⟨ts[k], hcell k _ (by rw [List.getElem?_map, List.getElem?_eq_getElem hk']; rfl), h.short _ (List.getElem_mem hk')⟩
      have HS : Hid (∀ k : Nat, (k : Int) < (ts.length : Int) → ∃ t, w.cell? ⟨g, k, none⟩ = some (.string t) ∧ t.size ≤ 20000) := hs
      obtain ⟨n, hn9⟩ : ∃ n, n = ts.length := ⟨_, rfl⟩
      rw [← hn9] at c0 hz HS hn
      have n0 : (0 : Int) < (n : Int) := by omega
      have n1 : (n : Int) ≤ 9223372036854775807 := by omega
      have nz : ((n : Int) == 0) = false := by simp; omega
      clear h hcell hs hn9 hn hz
      go_enter Tryz.func20, Tryz.ntmps20
      go_wp2
      go_region_with (first | (go_at_call 22; refine (pick_any _ _ _ hi n0 n1).mono ?_; rintro e w' ⟨k, hk, rfl, rfl⟩; obtain ⟨t, ht, hts⟩ := HS.out k hk; have k0 : (0 : Int) ≤ (k : Int) := Int.natCast_nonneg k))
      all_goals
        go_wp2
        go_ret
        exact ⟨t, rfl, hts, grown_drew (World.grownBy.refl _ _)⟩

theorem SWd.setT (hX : X.Local) (h : SWd X B c vT vP vS ts nP ps Φ w) {w1 w2 : World} {v' : Value} {t : ByteArray} (ht : t.size ≤ 20000) (hg : w.grownBy w1 none) (ho : w2.ownsRow 0 9 1 v' (ts.length + 1) ((ts ++ [t]).map Value.string)) (hg2 : w1.grownBy w2 vT.ownBlock) (hb : v'.ownBlock = vT.ownBlock ∨ v'.ownBlock = some w1.heap.size) :
    SWd X B (c + 1) v' vP vS (ts ++ [t]) nP ps Φ (w2.setCell ⟨B, 0, none⟩ v') := by
  have h1 := h.keep hX hg
  have hTB := own_ne h1.own h1.blk (by decide)
  have b2 : w2.heap[B]? = _ := (hg2.block B h1.Blt (Ne.symm hTB)).trans h1.blk
  have hBlt2 : B < w2.heap.size := Nat.lt_of_lt_of_le h1.Blt hg2.size
  have hoB : v'.ownBlock ≠ some B := own_ne ho b2 (by decide)
  have hP2 := h1.ownP.kept hg2 (own_apart h1.ownP h1.own (by decide))
  have hPB := own_ne hP2 b2 (by decide)
  refine ⟨heap_setB b2, ?_, ?_, ?_, ?_, ?_, h.ints, h.fB, ?_, h.fP, ?_, ?_⟩
  · rw [List.length_append]
    exact ownsRow_setCell_other ho hoB _
  · have := h.nT; simp; omega
  · intro u hu
    rcases List.mem_append.1 hu with h2 | h2
    · exact h.short u h2
    · rw [List.mem_singleton.1 h2]; exact ht
  · exact ownsRow_setCell_other hP2 hPB _
  · have := h.nPc; omega
  · intro g hgv hΦ
    rcases hb with h2 | h2
    · rw [h2] at hgv; exact h.fT g hgv hΦ
    · rw [h2] at hgv; cases hgv; exact absurd (h1.lt _ hΦ) (by omega)
  · intro k hk
    have := h1.lt k hk
    have := hg2.size
    simp; omega
  · refine hX.more _ _ _ _ _ (Nat.le_succ c) (hX.loc _ _ _ _ _ hg2.os hg2.tape hg2.output (by have := hg2.size; simpa using this) (fun k hk => ?_) h1.side)
    rw [Below.heap_setCell _ _ _ _ (fun e => by have e2 : k = B := e; subst e2; exact h.fB hk)]
    exact hg2.block k (h1.lt k hk) (fun e => h.fT k e.symm hk)
theorem SWd.setP (hX : X.Local) (h : SWd X B c vT vP vS ts nP ps Φ w) {w1 w2 : World} {v' : Value} {L : Nat → Int} (hL : ∀ i, i < 256 → InI (L i)) (hg : w.grownBy w1 none) (ho : w2.ownsRow 0 43 256 v' (nP + 1) (ps ++ polyL .i64 L)) (hg2 : w1.grownBy w2 vP.ownBlock) (hb : v'.ownBlock = vP.ownBlock ∨ v'.ownBlock = some w1.heap.size) :
    SWd X B (c + 1) vT v' vS ts (nP + 1) (ps ++ polyL .i64 L) Φ (w2.setCell ⟨B, 1, none⟩ v') := by
  have h1 := h.keep hX hg
  have hPB := own_ne h1.ownP h1.blk (by decide)
  have b2 : w2.heap[B]? = _ := (hg2.block B h1.Blt (Ne.symm hPB)).trans h1.blk
  have hBlt2 : B < w2.heap.size := Nat.lt_of_lt_of_le h1.Blt hg2.size
  have hoB : v'.ownBlock ≠ some B := own_ne ho b2 (by decide)
  have hT2 := h1.own.kept hg2 (own_apart h1.own h1.ownP (by decide))
  have hTB := own_ne hT2 b2 (by decide)
  refine ⟨heap_setB b2, ownsRow_setCell_other hT2 hTB _, ?_, h.short, ownsRow_setCell_other ho hoB _, ?_, ?_, h.fB, h.fT, ?_, ?_, ?_⟩
  · have := h.nT; omega
  · have := h.nPc; omega
  · intro u hu
    rcases List.mem_append.1 hu with h2 | h2
    · exact h.ints u h2
    · unfold polyL at h2
      obtain ⟨i, hi, rfl⟩ := List.mem_map.1 h2
      exact ⟨L i, rfl, hL i (List.mem_range.1 hi)⟩
  · intro g hgv hΦ
    rcases hb with h2 | h2
    · rw [h2] at hgv; exact h.fP g hgv hΦ
    · rw [h2] at hgv; cases hgv; exact absurd (h1.lt _ hΦ) (by omega)
  · intro k hk
    have := h1.lt k hk
    have := hg2.size
    simp; omega
  · refine hX.more _ _ _ _ _ (Nat.le_succ c) (hX.loc _ _ _ _ _ hg2.os hg2.tape hg2.output (by have := hg2.size; simpa using this) (fun k hk => ?_) h1.side)
    rw [Below.heap_setCell _ _ _ _ (fun e => by have e2 : k = B := e; subst e2; exact h.fB hk)]
    exact hg2.block k (h1.lt k hk) (fun e => h.fP k e.symm hk)
end Go.Proofs.YtkijpphmiogbbaaGreatDoor.Z
