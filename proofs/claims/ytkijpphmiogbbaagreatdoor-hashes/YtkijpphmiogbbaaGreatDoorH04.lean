import Derived.Test.YtkijpphmiogbbaaGreatDoorProg
import Derived.Test.YtkijpphmiogbbaaGreatDoorH03
import Derived.WalkKit
import Derived.WalkLawsBesides
import Derived.WalkSpells
import Derived.Deep.RegionHeld3
import Derived.Deep.AppendLies
import Derived.Maps.AppendAt
import Derived.Deep.MidRow
namespace Go.Proofs.YtkijpphmiogbbaaGreatDoor.Z
open Go.RowKit
attribute [local go_sem ↓] Go.wp_at_zero Go.wp_at_succ

def InI (z : Int) : Prop := -9223372036854775808 ≤ z ∧ z ≤ 9223372036854775807
/-- A step of a script. -/
structure OpV where
  kind : Int
  x : Int
  y : Int
  z : Int
  w : Int
  a : Int
  b : Int
  s : ByteArray
structure OpOK (o : OpV) : Prop where
  kind : InI o.kind
  x : InI o.x
  y : InI o.y
  z : InI o.z
  w : InI o.w
  a : InI o.a
  b : InI o.b
  s : o.s.size ≤ 9223372036854775807
def opL (o : OpV) : List Value := [.int .i64 o.kind, .int .i64 o.x, .int .i64 o.y, .int .i64 o.z, .int .i64 o.w, .int .i64 o.a, .int .i64 o.b, .string o.s]
abbrev opVal (o : OpV) : Value := .agg #[.int .i64 o.kind, .int .i64 o.x, .int .i64 o.y, .int .i64 o.z, .int .i64 o.w, .int .i64 o.a, .int .i64 o.b, .string o.s]

def nilS : Value := .slice none 0 0
/-- What lies in the script's world behind the polynomials: streams, lists, what they must read as, the mark. -/
structure SV where
  s : Value
  l : Value
  k : Value
  m : Int
abbrev sv0 : SV := ⟨.slice none 0 0, .slice none 0 0, .slice none 0 0, 0⟩
/-- What else the script's world holds, in the blocks Φ. -/
abbrev Side := Nat → SV → (Nat → Prop) → World → Prop
/-- The script's world lies in block B: texts, polynomials, streams; c: how many steps there were at most. -/
structure SWd (X : Side) (B c : Nat) (vT vP : Value) (vS : SV) (ts : List ByteArray) (nP : Nat) (ps : List Value) (Φ : Nat → Prop) (w : World) : Prop where
  blk : w.heap[B]? = some (.cells #[vT, vP, vS.s, vS.l, vS.k, .int .i64 vS.m] 35)
  own : w.ownsRow 0 9 1 vT ts.length (ts.map Value.string)
  nT : ts.length ≤ 2 * c
  short : ∀ t ∈ ts, t.size ≤ 20000
  ownP : w.ownsRow 0 43 256 vP nP ps
  nPc : nP ≤ 2 * c
  ints : ∀ v ∈ ps, ∃ z, v = .int .i64 z ∧ InI z
  fB : ¬ Φ B
  fT : ∀ g, vT.ownBlock = some g → ¬ Φ g
  fP : ∀ g, vP.ownBlock = some g → ¬ Φ g
  lt : ∀ k, Φ k → k < w.heap.size
  side : X c vS Φ w
def SW (X : Side) (B c : Nat) (w : World) : Prop := ∃ vT vP vS ts nP ps Φ, SWd X B c vT vP vS ts nP ps Φ w

structure Side.Local (X : Side) : Prop where
  loc : ∀ c v Φ w w', w'.os = w.os → w'.tape = w.tape → w'.output = w.output → w.heap.size ≤ w'.heap.size → (∀ k, Φ k → w'.heap[k]? = w.heap[k]?) → X c v Φ w → X c v Φ w'
  more : ∀ c d v Φ w, c ≤ d → X c v Φ w → X d v Φ w
  looks : ∀ B c vT vP vS ts nP ps Φ w, SWd X B c vT vP vS ts nP ps Φ w → c ≤ 50000 →
    Calls Tryz.prog 19 #[.pointer (some ⟨B, 0, none⟩)] w fun e w' => e = .returned (.bool true) ∧ w.grownBy w' none

variable {X : Side} {B c : Nat} {vT vP : Value} {vS : SV} {ts : List ByteArray} {nP : Nat} {ps : List Value} {Φ : Nat → Prop} {w : World}

theorem SWd.Blt (h : SWd X B c vT vP vS ts nP ps Φ w) : B < w.heap.size := (Array.getElem?_eq_some_iff.1 h.blk).1
theorem SWd.c0 (h : SWd X B c vT vP vS ts nP ps Φ w) : w.cell? ⟨B, 0, none⟩ = some vT := by rw [cell_of_row w B 0 _ _ _ h.blk]; rfl
theorem SWd.c1 (h : SWd X B c vT vP vS ts nP ps Φ w) : w.cell? ⟨B, 1, none⟩ = some vP := by rw [cell_of_row w B 1 _ _ _ h.blk]; rfl
theorem SWd.c2 (h : SWd X B c vT vP vS ts nP ps Φ w) : w.cell? ⟨B, 2, none⟩ = some vS.s := by rw [cell_of_row w B 2 _ _ _ h.blk]; rfl
theorem SWd.c3 (h : SWd X B c vT vP vS ts nP ps Φ w) : w.cell? ⟨B, 3, none⟩ = some vS.l := by rw [cell_of_row w B 3 _ _ _ h.blk]; rfl
theorem SWd.c4 (h : SWd X B c vT vP vS ts nP ps Φ w) : w.cell? ⟨B, 4, none⟩ = some vS.k := by rw [cell_of_row w B 4 _ _ _ h.blk]; rfl
theorem SWd.c5 (h : SWd X B c vT vP vS ts nP ps Φ w) : w.cell? ⟨B, 5, none⟩ = some (.int .i64 vS.m) := by rw [cell_of_row w B 5 _ _ _ h.blk]; rfl
theorem SWd.fz (h : SWd X B c vT vP vS ts nP ps Φ w) (i : Nat) : w.frozen? ⟨B, i, none⟩ = false := by
  simp [World.frozen?, h.blk]

/-- What makes only new blocks keeps it. -/
theorem SWd.keep (hX : X.Local) (h : SWd X B c vT vP vS ts nP ps Φ w) {w' : World} (hg : w.grownBy w' none) : SWd X B c vT vP vS ts nP ps Φ w' where
  blk := by rw [hg.block B h.Blt (by simp)]; exact h.blk
  own := h.own.kept hg (by cases hv : vT.ownBlock <;> simp)
  nT := h.nT
  short := h.short
  ownP := h.ownP.kept hg (by cases hv : vP.ownBlock <;> simp)
  nPc := h.nPc
  ints := h.ints
  fB := h.fB
  fT := h.fT
  fP := h.fP
  lt := fun k hk => Nat.lt_of_lt_of_le (h.lt k hk) hg.size
  side := hX.loc _ _ _ _ _ hg.os hg.tape hg.output hg.size (fun k hk => hg.block k (h.lt k hk) (by simp)) h.side
theorem SW.keep (hX : X.Local) (h : SW X B c w) {w' : World} (hg : w.grownBy w' none) : SW X B c w' := by
  obtain ⟨vT, vP, vS, ts, nP, ps, Φ, h⟩ := h
  exact ⟨vT, vP, vS, ts, nP, ps, Φ, h.keep hX hg⟩
theorem SW.Blt (h : SW X B c w) : B < w.heap.size := by
  obtain ⟨vT, vP, vS, ts, nP, ps, Φ, h⟩ := h
  exact h.Blt
theorem SW.more (hX : X.Local) (h : SW X B c w) {d : Nat} (hd : c ≤ d) : SW X B d w := by
  obtain ⟨vT, vP, vS, ts, nP, ps, Φ, h⟩ := h
  exact ⟨vT, vP, vS, ts, nP, ps, Φ, h.blk, h.own, by have := h.nT; omega, h.short, h.ownP, by have := h.nPc; omega, h.ints, h.fB, h.fT, h.fP, h.lt, hX.more _ _ _ _ _ hd h.side⟩

theorem own_ne {w : World} {e T : TypeId} {size : Nat} {v : Value} {n : Nat} {xs : List Value} {base b : Nat} {cs : Array Value} {fr : Nat × Nat} (ho : w.ownsRow base e size v n xs) (hb : w.heap[b]? = some (.cells cs T fr)) (hT : T ≠ e) : v.ownBlock ≠ some b := by
  intro hv
  rcases ho.2 with ⟨rfl, _⟩ | ⟨g, cap, cur, rfl, _, hg, _⟩
  · simp [Value.ownBlock] at hv
  · simp [Value.ownBlock] at hv
    subst hv
    rw [hg] at hb
    cases hb
    exact hT rfl
theorem own_apart {w : World} {e e' : TypeId} {size size' : Nat} {v v' : Value} {n n' : Nat} {xs xs' : List Value} {base base' : Nat} (ho : w.ownsRow base e size v n xs) (ho' : w.ownsRow base' e' size' v' n' xs') (hT : e' ≠ e) : v.ownBlock = none ∨ v.ownBlock ≠ v'.ownBlock := by
  rcases ho'.2 with ⟨rfl, _⟩ | ⟨g, cap, cur, rfl, _, hg, _⟩
  · cases hv : v.ownBlock
    · exact .inl rfl
    · exact .inr (by simp [Value.ownBlock])
  · exact .inr (own_ne ho hg hT)

/-- A field of the script's world is written. -/
theorem heap_setB {w : World} {B i : Nat} {cs : Array Value} {T : TypeId} {v : Value} (h : w.heap[B]? = some (.cells cs T)) : (w.setCell ⟨B, i, none⟩ v).heap[B]? = some (.cells (cs.setIfInBounds i v) T) :=
  Go.heap_setCell_same w B i cs T v h
end Go.Proofs.YtkijpphmiogbbaaGreatDoor.Z
