import Derived.WalkKit
import Derived.WalkSpells
import Derived.Deep.AppendLies
import Derived.Deep.Draws
namespace Go.Proofs.Ytkijpphmiogbbaa
open Go.RowKit

/-- A function with another value at one place. -/
def upd (L : Nat → Int) (i : Nat) (v : Int) : Nat → Int := fun j => if j = i then v else L j
theorem upd_same (L : Nat → Int) (i : Nat) (v : Int) : upd L i v i = v := by simp [upd]
theorem upd_ne (L : Nat → Int) (i j : Nat) (v : Int) (h : j ≠ i) : upd L i v j = L j := by simp [upd, h]

/-- n cells of 64 bits lie in block b from 0 on, and may be written. -/
def Row (w : World) (b n : Nat) (L : Nat → Int) : Prop := ∀ i, i < n → w.cell? ⟨b, i, none⟩ = some (.int .u64 (L i)) ∧ w.frozen? ⟨b, i, none⟩ = false

theorem cell_lt {w : World} {a : Addr} {v : Value} (h : w.cell? a = some v) : a.block < w.heap.size := by
  rcases Nat.lt_or_ge a.block w.heap.size with h1 | h1
  · exact h1
  · simp [World.cell?, Array.getElem?_eq_none h1] at h
theorem cell_same {w : World} {a : Addr} {u v : Value} (h : w.cell? a = some u) : (w.setCell a v).cell? a = some v := World.cell?_setCell_same w a v h
theorem cell_other (w : World) (a p : Addr) (v : Value) (h : p.block ≠ a.block ∨ p.off ≠ a.off) : (w.setCell a v).cell? p = w.cell? p :=
  World.cell?_setCell_other w a p v (fun e => by subst e; simp at h)
theorem frozen_set (w : World) (a p : Addr) (v : Value) : (w.setCell a v).frozen? p = w.frozen? p := World.frozen?_setCell w a p v

theorem Row.lt {w : World} {b n : Nat} {L : Nat → Int} (h : Row w b n L) (hn : 0 < n) : b < w.heap.size := cell_lt (h 0 hn).1
theorem Row.drew {w : World} {b n : Nat} {L : Nat → Int} (h : Row w b n L) : Row w.drew b n L := h
theorem Row.set {w : World} {b n : Nat} {L : Nat → Int} (h : Row w b n L) {i : Nat} (hi : i < n) (v : Int) : Row (w.setCell ⟨b, i, none⟩ (.int .u64 v)) b n (upd L i v) := by
  intro j hj
  refine ⟨?_, by rw [frozen_set]; exact (h j hj).2⟩
  by_cases e : j = i
  · subst e; rw [cell_same (h j hj).1, upd_same]
  · rw [cell_other _ _ _ _ (Or.inr e), upd_ne _ _ _ _ e]; exact (h j hj).1
theorem Row.set_other {w : World} {b n : Nat} {L : Nat → Int} (h : Row w b n L) {p : Addr} (hp : p.block ≠ b) (v : Value) : Row (w.setCell p v) b n L := by
  intro j hj
  exact ⟨by rw [cell_other _ _ _ _ (Or.inl (Ne.symm hp))]; exact (h j hj).1, by rw [frozen_set]; exact (h j hj).2⟩
theorem Row.set_past {w : World} {b n : Nat} {L : Nat → Int} (h : Row w b n L) {i : Nat} (hi : n ≤ i) (v : Value) : Row (w.setCell ⟨b, i, none⟩ v) b n L := by
  intro j hj
  exact ⟨by rw [cell_other _ _ _ _ (Or.inr (show j ≠ i by omega))]; exact (h j hj).1, by rw [frozen_set]; exact (h j hj).2⟩
theorem Row.alloc {w : World} {b n : Nat} {L : Nat → Int} (h : Row w b n L) (o : Obj) : Row (w.alloc o) b n L := by
  intro j hj
  have hb := cell_lt (h j hj).1
  exact ⟨by rw [World.cell?_alloc_lt _ _ _ hb]; exact (h j hj).1, by rw [World.frozen?_alloc_old _ _ _ (Nat.ne_of_lt hb)]; exact (h j hj).2⟩
theorem Row.ext {w : World} {b n : Nat} {L M : Nat → Int} (h : Row w b n L) (e : ∀ i, i < n → L i = M i) : Row w b n M := fun i hi => by rw [← e i hi]; exact h i hi

/-- w' is w with new blocks, and with writes to the first 25 cells of block b alone. -/
structure Keep (b : Nat) (w w' : World) : Prop where
  g : w.grownBy w' (some b)
  rest : ∀ i, 25 ≤ i → w'.cell? ⟨b, i, none⟩ = w.cell? ⟨b, i, none⟩
  fz : ∀ i, w'.frozen? ⟨b, i, none⟩ = w.frozen? ⟨b, i, none⟩

theorem grownBy_trans {w w1 w2 : World} {r : Option Nat} (h : w.grownBy w1 r) (k : w1.grownBy w2 r) : w.grownBy w2 r :=
  ⟨k.os.trans h.os, k.tape.trans h.tape, k.output.trans h.output, Nat.le_trans h.size k.size, fun i hi hr => (k.block i (Nat.lt_of_lt_of_le hi h.size) hr).trans (h.block i hi hr)⟩
theorem Keep.refl (b : Nat) (w : World) : Keep b w w := ⟨World.grownBy.refl w _, fun _ _ => rfl, fun _ => rfl⟩
theorem Keep.trans {b : Nat} {w w1 w2 : World} (h : Keep b w w1) (k : Keep b w1 w2) : Keep b w w2 :=
  ⟨grownBy_trans h.g k.g, fun i hi => (k.rest i hi).trans (h.rest i hi), fun i => (k.fz i).trans (h.fz i)⟩
theorem Keep.drew {b : Nat} {w w1 : World} (h : Keep b w w1) : Keep b w w1.drew := ⟨⟨h.g.os, h.g.tape, h.g.output, h.g.size, h.g.block⟩, h.rest, h.fz⟩
theorem Keep.drewN {b : Nat} {w w1 : World} (h : Keep b w w1) (n : Nat) : Keep b w (w1.drewN n) := ⟨⟨h.g.os, h.g.tape, h.g.output, h.g.size, h.g.block⟩, h.rest, h.fz⟩
theorem Keep.set {b : Nat} {w w1 : World} (h : Keep b w w1) {i : Nat} (hi : i < 25) (v : Value) : Keep b w (w1.setCell ⟨b, i, none⟩ v) :=
  h.trans ⟨⟨rfl, rfl, rfl, by simp, fun k _ hr => Below.heap_setCell _ _ _ _ (fun e => hr (by simp [e]))⟩, fun j hj => cell_other _ _ _ _ (Or.inr (show j ≠ i by omega)), fun j => frozen_set _ _ _ _⟩
theorem Keep.set_new {b : Nat} {w w1 : World} (h : Keep b w w1) {p : Addr} (hp : w.heap.size ≤ p.block) (hb : b < w.heap.size) (v : Value) : Keep b w (w1.setCell p v) :=
  ⟨⟨h.g.os, h.g.tape, h.g.output, by simpa using h.g.size, fun k hk hr => (Below.heap_setCell _ _ _ _ (by omega)).trans (h.g.block k hk hr)⟩,
   fun j hj => (cell_other _ _ _ _ (Or.inl (show b ≠ p.block by omega))).trans (h.rest j hj), fun j => (frozen_set _ _ _ _).trans (h.fz j)⟩
theorem Keep.alloc {b : Nat} {w w1 : World} (h : Keep b w w1) (hb : b < w.heap.size) (o : Obj) : Keep b w (w1.alloc o) := by
  have hb1 : b < w1.heap.size := Nat.lt_of_lt_of_le hb h.g.size
  exact h.trans ⟨World.grownBy_alloc _ _ _, fun i _ => World.cell?_alloc_lt _ _ ⟨b, i, none⟩ hb1, fun i => World.frozen?_alloc_old _ _ ⟨b, i, none⟩ (Nat.ne_of_lt hb1)⟩
theorem Keep.cell {b : Nat} {w w1 : World} (h : Keep b w w1) {a : Addr} {v : Value} (ha : w.cell? a = some v) (hne : a.block ≠ b) : w1.cell? a = some v := h.g.cell ha (by simp [hne])
theorem Keep.row {b : Nat} {w w1 : World} (h : Keep b w w1) {c n : Nat} {L : Nat → Int} (hr : Row w c n L) (hne : c ≠ b) : Row w1 c n L := by
  intro i hi
  have hc := cell_lt (hr i hi).1
  exact ⟨h.g.cell (hr i hi).1 (by simp [hne]), by rw [h.g.frozen_far ⟨c, i, none⟩ hc (by simp [hne])]; exact (hr i hi).2⟩
end Go.Proofs.Ytkijpphmiogbbaa
