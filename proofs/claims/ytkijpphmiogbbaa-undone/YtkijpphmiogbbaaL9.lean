import Derived.Test.YtkijpphmiogbbaaL1
import Derived.Laws.MakeOwn
namespace Go.Proofs.Ytkijpphmiogbbaa
open Go.RowKit
attribute [local go_sem ↓] Go.wp_at_zero Go.wp_at_succ

theorem made_at (k : IntKind) (n i : Nat) (h : i < n) : (madeCells (polyA k (fun _ => 0)) n)[i]? = some (.int k 0) := by
  unfold madeCells
  rw [Array.getElem?_map, Array.getElem?_range]
  simp only [h, if_true, Option.map_some]
  have hp := polyA_at k (fun _ => 0) (i % 256) (Nat.mod_lt _ (by omega))
  rw [polyA_size, getElem!_def, hp]
theorem made_rows (k : IntKind) (W : World) (m : Nat) (T : TypeId) (s : Nat) (hs : s < m) : PRow k (W.alloc (.cells (madeCells (polyA k (fun _ => 0)) (m * 256)) T)) W.heap.size (256 * s) (fun _ => 0) := fun i hi =>
  ⟨by rw [World.cell?_alloc_new]; exact made_at k _ _ (by omega), World.frozen?_alloc_at _ _ _ _ rfl⟩
theorem run_indexPolys {P : Program} (T : TypeId) (b m cp k : Nat) (hk : k < m) (hT : P.underlying T = some (.slice (P.elem T))) (hs : ∀ W, (sizeOf (P.elem T)).run P W = .ok 256 W) (W : World) :
    (Instr.indexAt T (.slice (some ⟨b, 0, none⟩) m cp) (.int .i64 (k : Int))).run P W = .ok (.pointer (some ⟨b, 256 * k, none⟩)) W := by
  rw [run_indexAt_slice W T _ m cp .i64 k hT, if_pos ⟨by omega, by omega⟩, hs]
  simp [Result.andThen, Addr.add_mid, Nat.mul_comm]
/-- The narrow ones: the first t of m are laid. -/
structure Nar (k : IntKind) (W : World) (N m t : Nat) (Ls : Nat → Nat → Int) : Prop where
  done : ∀ s, s < t → PRow k W N (256 * s) (Ls s)
  left : ∀ s, t ≤ s → s < m → PRow k W N (256 * s) (fun _ => 0)
theorem Nar.new {k : IntKind} {W W' : World} {N m t : Nat} {Ls : Nat → Nat → Int} (h : Nar k W N m t Ls) (hg : W.grownBy W' none) : Nar k W' N m t Ls := ⟨fun s hs => (h.done s hs).new hg, fun s h1 h2 => (h.left s h1 h2).new hg⟩
theorem Nar.far {k : IntKind} {W W' : World} {N m t : Nat} {r : Option Nat} {Ls : Nat → Nat → Int} (h : Nar k W N m t Ls) (hg : W.grownBy W' r) (hne : some N ≠ r) : Nar k W' N m t Ls := ⟨fun s hs => (h.done s hs).far hg hne, fun s h1 h2 => (h.left s h1 h2).far hg hne⟩
theorem PRow.apart {k j : IntKind} {w w' : World} {b o f : Nat} {L M : Nat → Int} (h : PRow k w b o L) (p : Put j w w' b f M) (hap : o + 256 ≤ f ∨ f + 256 ≤ o) : PRow k w' b o L := fun i hi =>
  ⟨by rw [p.out (o + i) (by omega)]; exact (h i hi).1, by rw [p.fz]; exact (h i hi).2⟩
theorem Nar.step {k : IntKind} {W W' : World} {N m t : Nat} {Ls : Nat → Nat → Int} (h : Nar k W N m t Ls) (p : Put k W W' N (256 * t) (Ls t)) : Nar k W' N m (t + 1) Ls := by
  refine ⟨fun s hs => ?_, fun s h1 h2 => (h.left s (by omega) h2).apart p (by omega)⟩
  by_cases e : s = t
  · subst e; exact p.r
  · exact (h.done s (by omega)).apart p (by omega)
end Go.Proofs.Ytkijpphmiogbbaa
