import Derived.Test.YtkijpphmiogbbaaGreatDoorProg
import Derived.Test.YtkijpphmiogbbaaGreatDoorK01
import Derived.WalkKit
import Derived.WalkLawsBesides
import Derived.WalkSpells
import Derived.Deep.RegionHeld3
import Derived.Deep.AppendLies
import Derived.Maps.AppendAt
import Derived.Deep.MidRow
import Derived.Deep.RegionWith
namespace Go.Proofs.YtkijpphmiogbbaaGreatDoor.Z
open Go.RowKit
attribute [local go_sem ↓] Go.wp_at_zero Go.wp_at_succ

def InI (z : Int) : Prop := -9223372036854775808 ≤ z ∧ z ≤ 9223372036854775807
/-- A step of a script. -/
structure OpV where
  kind : Int
  x : Int
  y : Int
  z : Int
  w : Int
  a : Int
  b : Int
  s : ByteArray
structure OpOK (o : OpV) : Prop where
  kind : InI o.kind
  x : InI o.x
  y : InI o.y
  z : InI o.z
  w : InI o.w
  a : InI o.a
  b : InI o.b
  s : o.s.size ≤ 9223372036854775807
def opL (o : OpV) : List Value := [.int .i64 o.kind, .int .i64 o.x, .int .i64 o.y, .int .i64 o.z, .int .i64 o.w, .int .i64 o.a, .int .i64 o.b, .string o.s]
abbrev opVal (o : OpV) : Value := .agg #[.int .i64 o.kind, .int .i64 o.x, .int .i64 o.y, .int .i64 o.z, .int .i64 o.w, .int .i64 o.a, .int .i64 o.b, .string o.s]

def nilS : Value := .slice none 0 0
/-- What lies in the script's world behind the polynomials: streams, lists, what they must read as, the mark. -/
structure SV where
  s : Value
  l : Value
  k : Value
  m : Int
abbrev sv0 : SV := ⟨.slice none 0 0, .slice none 0 0, .slice none 0 0, 0⟩
/-- What else the script's world holds, in the blocks Φ. -/
abbrev Side := Nat → SV → (Nat → Prop) → World → Prop
/-- The script's world lies in block B: texts, polynomials, streams; c: how many steps there were at most. -/
structure SWd (X : Side) (B c : Nat) (vT vP : Value) (vS : SV) (ts : List ByteArray) (nP : Nat) (ps : List Value) (Φ : Nat → Prop) (w : World) : Prop where
  blk : w.heap[B]? = some (.cells #[vT, vP, vS.s, vS.l, vS.k, .int .i64 vS.m] 35)
  own : w.ownsRow 0 9 1 vT ts.length (ts.map Value.string)
  nT : ts.length ≤ 2 * c
  short : ∀ t ∈ ts, t.size ≤ 20000
  ownP : w.ownsRow 0 43 256 vP nP ps
  nPc : nP ≤ 2 * c
  ints : ∀ v ∈ ps, ∃ z, v = .int .i64 z ∧ InI z
  fB : ¬ Φ B
  fT : ∀ g, vT.ownBlock = some g → ¬ Φ g
  fP : ∀ g, vP.ownBlock = some g → ¬ Φ g
  lt : ∀ k, Φ k → k < w.heap.size
  side : X c vS Φ w
def SW (X : Side) (B c : Nat) (w : World) : Prop := ∃ vT vP vS ts nP ps Φ, SWd X B c vT vP vS ts nP ps Φ w

structure Side.Local (X : Side) : Prop where
  loc : ∀ c v Φ w w', w'.os = w.os → w'.tape = w.tape → w'.output = w.output → w.heap.size ≤ w'.heap.size → (∀ k, Φ k → w'.heap[k]? = w.heap[k]?) → X c v Φ w → X c v Φ w'
  more : ∀ c d v Φ w, c ≤ d → X c v Φ w → X d v Φ w
  looks : ∀ B c vT vP vS ts nP ps Φ w, SWd X B c vT vP vS ts nP ps Φ w → c ≤ 50000 →
    Calls Tryz.prog 19 #[.pointer (some ⟨B, 0, none⟩)] w fun e w' => e = .returned (.bool true) ∧ w.grownBy w' none

variable {X : Side} {B c : Nat} {vT vP : Value} {vS : SV} {ts : List ByteArray} {nP : Nat} {ps : List Value} {Φ : Nat → Prop} {w : World}

theorem SWd.Blt (h : SWd X B c vT vP vS ts nP ps Φ w) : B < w.heap.size := (Array.getElem?_eq_some_iff.1 h.blk).1
theorem SWd.c0 (h : SWd X B c vT vP vS ts nP ps Φ w) : w.cell? ⟨B, 0, none⟩ = some vT := by rw [cell_of_row w B 0 _ _ _ h.blk]; rfl
theorem SWd.c1 (h : SWd X B c vT vP vS ts nP ps Φ w) : w.cell? ⟨B, 1, none⟩ = some vP := by rw [cell_of_row w B 1 _ _ _ h.blk]; rfl
theorem SWd.c2 (h : SWd X B c vT vP vS ts nP ps Φ w) : w.cell? ⟨B, 2, none⟩ = some vS.s := by rw [cell_of_row w B 2 _ _ _ h.blk]; rfl
theorem SWd.c3 (h : SWd X B c vT vP vS ts nP ps Φ w) : w.cell? ⟨B, 3, none⟩ = some vS.l := by rw [cell_of_row w B 3 _ _ _ h.blk]; rfl
theorem SWd.c4 (h : SWd X B c vT vP vS ts nP ps Φ w) : w.cell? ⟨B, 4, none⟩ = some vS.k := by rw [cell_of_row w B 4 _ _ _ h.blk]; rfl
theorem SWd.c5 (h : SWd X B c vT vP vS ts nP ps Φ w) : w.cell? ⟨B, 5, none⟩ = some (.int .i64 vS.m) := by rw [cell_of_row w B 5 _ _ _ h.blk]; rfl
theorem SWd.fz (h : SWd X B c vT vP vS ts nP ps Φ w) (i : Nat) : w.frozen? ⟨B, i, none⟩ = false := by
  simp [World.frozen?, h.blk]

/-- What makes only new blocks keeps it. -/
theorem SWd.keep (hX : X.Local) (h : SWd X B c vT vP vS ts nP ps Φ w) {w' : World} (hg : w.grownBy w' none) : SWd X B c vT vP vS ts nP ps Φ w' where
  blk := by rw [hg.block B h.Blt (by simp)]; exact h.blk
  own := h.own.kept hg (by cases hv : vT.ownBlock <;> simp)
  nT := h.nT
  short := h.short
  ownP := h.ownP.kept hg (by cases hv : vP.ownBlock <;> simp)
  nPc := h.nPc
  ints := h.ints
  fB := h.fB
  fT := h.fT
  fP := h.fP
  lt := fun k hk => Nat.lt_of_lt_of_le (h.lt k hk) hg.size
  side := hX.loc _ _ _ _ _ hg.os hg.tape hg.output hg.size (fun k hk => hg.block k (h.lt k hk) (by simp)) h.side
theorem SW.keep (hX : X.Local) (h : SW X B c w) {w' : World} (hg : w.grownBy w' none) : SW X B c w' := by
  obtain ⟨vT, vP, vS, ts, nP, ps, Φ, h⟩ := h
  exact ⟨vT, vP, vS, ts, nP, ps, Φ, h.keep hX hg⟩
theorem SW.Blt (h : SW X B c w) : B < w.heap.size := by
  obtain ⟨vT, vP, vS, ts, nP, ps, Φ, h⟩ := h
  exact h.Blt
theorem SW.more (hX : X.Local) (h : SW X B c w) {d : Nat} (hd : c ≤ d) : SW X B d w := by
  obtain ⟨vT, vP, vS, ts, nP, ps, Φ, h⟩ := h
  exact ⟨vT, vP, vS, ts, nP, ps, Φ, h.blk, h.own, by have := h.nT; omega, h.short, h.ownP, by have := h.nPc; omega, h.ints, h.fB, h.fT, h.fP, h.lt, hX.more _ _ _ _ _ hd h.side⟩

theorem own_ne {w : World} {e T : TypeId} {size : Nat} {v : Value} {n : Nat} {xs : List Value} {base b : Nat} {cs : Array Value} {fr : Nat × Nat} (ho : w.ownsRow base e size v n xs) (hb : w.heap[b]? = some (.cells cs T fr)) (hT : T ≠ e) : v.ownBlock ≠ some b := by
  intro hv
  rcases ho.2 with ⟨rfl, _⟩ | ⟨g, cap, cur, rfl, _, hg, _⟩
  · simp [Value.ownBlock] at hv
  · simp [Value.ownBlock] at hv
    subst hv
    rw [hg] at hb
    cases hb
    exact hT rfl
theorem own_apart {w : World} {e e' : TypeId} {size size' : Nat} {v v' : Value} {n n' : Nat} {xs xs' : List Value} {base base' : Nat} (ho : w.ownsRow base e size v n xs) (ho' : w.ownsRow base' e' size' v' n' xs') (hT : e' ≠ e) : v.ownBlock = none ∨ v.ownBlock ≠ v'.ownBlock := by
  rcases ho'.2 with ⟨rfl, _⟩ | ⟨g, cap, cur, rfl, _, hg, _⟩
  · cases hv : v.ownBlock
    · exact .inl rfl
    · exact .inr (by simp [Value.ownBlock])
  · exact .inr (own_ne ho hg hT)

/-- A field of the script's world is written. -/
theorem heap_setB {w : World} {B i : Nat} {cs : Array Value} {T : TypeId} {v : Value} (h : w.heap[B]? = some (.cells cs T)) : (w.setCell ⟨B, i, none⟩ v).heap[B]? = some (.cells (cs.setIfInBounds i v) T) :=
  Go.heap_setCell_same w B i cs T v h
end Go.Proofs.YtkijpphmiogbbaaGreatDoor.Z

namespace Go.Proofs.YtkijpphmiogbbaaGreatDoor.Z
open Go.RowKit
attribute [local go_sem ↓] Go.wp_at_zero Go.wp_at_succ

theorem pick_facts (c n : Int) (hn : 0 < n) : (c < 0 → ∃ k : Nat, (k : Int) < n ∧ n - 1 - (-((c + 1).tmod n)) = (k : Int) ∧ 0 ≤ -((c + 1).tmod n) ∧ -((c + 1).tmod n) < n) ∧ (0 ≤ c → ∃ k : Nat, (k : Int) < n ∧ c % n = (k : Int)) := by
  constructor
  · intro h
    have h1 : -((c + 1).tmod n) = (-(c + 1)) % n := by rw [← Int.neg_tmod, Int.tmod_eq_emod_of_nonneg (by omega)]
    have h2 := Int.emod_nonneg (-(c + 1)) (show n ≠ 0 by omega)
    have h3 := Int.emod_lt_of_pos (-(c + 1)) hn
    rw [h1]
    exact ⟨(n - 1 - (-(c + 1)) % n).toNat, by omega, by omega, h2, h3⟩
  · intro h
    have h2 := Int.emod_nonneg c (show n ≠ 0 by omega)
    have h3 := Int.emod_lt_of_pos c hn
    exact ⟨(c % n).toNat, by omega, by omega⟩
set_option maxHeartbeats 1000000 in
theorem pick_any (c n : Int) (w : World) (hc : InI c) (hn : 0 < n) (hn' : n ≤ 9223372036854775807) :
    Calls Tryz.prog 22 #[.int .i64 c, .int .i64 n] w fun e w' => ∃ k : Nat, (k : Int) < n ∧ e = .returned (.int .i64 k) ∧ w' = w := by
  obtain ⟨hc0, hc1⟩ := hc
  by_cases h : c < 0
  · obtain ⟨k, h1, h2, h3, h4⟩ := (pick_facts c n hn).1 h
    have HK : Hid (n - 1 - (-((c + 1).tmod n)) = (k : Int)) := h2
    clear h2
    go_enter Tryz.func22, Tryz.ntmps22
    go_wp2
    go_ret
    refine ⟨k, h1, ?_, rfl⟩
    show Ending.returned (.int .i64 (n - 1 + (c + 1).tmod n)) = _
    rw [show n - 1 + (c + 1).tmod n = (k : Int) by have := HK.out; omega]
  · obtain ⟨k, h1, h2⟩ := (pick_facts c n hn).2 (by omega)
    have HK : Hid (c % n = (k : Int)) := h2
    clear h2
    go_enter Tryz.func22, Tryz.ntmps22
    go_wp2
    go_ret
    refine ⟨k, h1, ?_, rfl⟩
    show Ending.returned (.int .i64 (c % n)) = _
    rw [HK.out]

variable {X : Side} {B c : Nat} {vT vP : Value} {vS : SV} {ts : List ByteArray} {nP : Nat} {ps : List Value} {Φ : Nat → Prop} {w : World}
theorem own_forms {w : World} {base : Nat} {e : TypeId} {size : Nat} {v : Value} {n : Nat} {xs : List Value} (h : w.ownsRow base e size v n xs) : (v = .slice none 0 0 ∧ n = 0 ∧ xs = []) ∨ ∃ g cap, v = .slice (some ⟨g, 0, none⟩) n cap ∧ (∀ j u, xs[j]? = some u → w.cell? ⟨g, j, none⟩ = some u) := by
  have h0 := h
  rcases h.2 with ⟨rfl, rfl⟩ | ⟨g, cap, cur, rfl, _⟩
  · exact .inl ⟨rfl, rfl, List.eq_nil_of_length_eq_zero (by simpa using h.1)⟩
  · refine .inr ⟨g, cap, rfl, fun j u hu => ?_⟩
    have := h0.cells (g := g) rfl j u hu
    have hadd : (⟨g, 0, none⟩ : Addr).add j = ⟨g, j, none⟩ := by unfold Addr.add; split <;> simp_all
    rwa [hadd] at this
set_option maxHeartbeats 1000000 in
theorem text_any (hc : c ≤ 40000) (i : Int) (hi : InI i) (h : SWd X B c vT vP vS ts nP ps Φ w) :
    Calls Tryz.prog 20 #[.pointer (some ⟨B, 0, none⟩), .int .i64 i] w fun e w' => ∃ t, e = .returned (.string t) ∧ t.size ≤ 20000 ∧ w.grownBy w' none := by
  have c0 := h.c0
  have hn := h.nT
  rcases own_forms h.own with ⟨hv, hn0, hx⟩ | ⟨g, cap, hv, hcell⟩
  · rw [hv] at c0
    clear h
    go_enter Tryz.func20, Tryz.ntmps20
    go_wp2
    go_ret
    exact ⟨_, rfl, by decide, World.grownBy.refl _ _⟩
  · rw [hv] at c0
    by_cases hz : ts.length = 0
    · rw [hz] at c0
      clear h hcell
      go_enter Tryz.func20, Tryz.ntmps20
      go_wp2
      go_ret
      exact ⟨_, rfl, by decide, World.grownBy.refl _ _⟩
    · have hs : ∀ k : Nat, (k : Int) < (ts.length : Int) → ∃ t, w.cell? ⟨g, k, none⟩ = some (.string t) ∧ t.size ≤ 20000 := fun k hk => by
        have hk' : k < ts.length := by omega
        exact ⟨ts[k], hcell k _ (by rw [List.getElem?_map, List.getElem?_eq_getElem hk']; rfl), h.short _ (List.getElem_mem hk')⟩
      have HS : Hid (∀ k : Nat, (k : Int) < (ts.length : Int) → ∃ t, w.cell? ⟨g, k, none⟩ = some (.string t) ∧ t.size ≤ 20000) := hs
      obtain ⟨n, hn9⟩ : ∃ n, n = ts.length := ⟨_, rfl⟩
      rw [← hn9] at c0 hz HS hn
      have n0 : (0 : Int) < (n : Int) := by omega
      have n1 : (n : Int) ≤ 9223372036854775807 := by omega
      have nz : ((n : Int) == 0) = false := by simp; omega
      clear h hcell hs hn9 hn hz
      go_enter Tryz.func20, Tryz.ntmps20
      go_wp2
      go_region_with (first | (go_at_call 22; refine (pick_any _ _ _ hi n0 n1).mono ?_; rintro e w' ⟨k, hk, rfl, rfl⟩; obtain ⟨t, ht, hts⟩ := HS.out k hk; have k0 : (0 : Int) ≤ (k : Int) := Int.natCast_nonneg k))
      all_goals
        go_wp2
        go_ret
        exact ⟨t, rfl, hts, grown_drew (World.grownBy.refl _ _)⟩

theorem SWd.setT (hX : X.Local) (h : SWd X B c vT vP vS ts nP ps Φ w) {w1 w2 : World} {v' : Value} {t : ByteArray} (ht : t.size ≤ 20000) (hg : w.grownBy w1 none) (ho : w2.ownsRow 0 9 1 v' (ts.length + 1) ((ts ++ [t]).map Value.string)) (hg2 : w1.grownBy w2 vT.ownBlock) (hb : v'.ownBlock = vT.ownBlock ∨ v'.ownBlock = some w1.heap.size) :
    SWd X B (c + 1) v' vP vS (ts ++ [t]) nP ps Φ (w2.setCell ⟨B, 0, none⟩ v') := by
  have h1 := h.keep hX hg
  have hTB := own_ne h1.own h1.blk (by decide)
  have b2 : w2.heap[B]? = _ := (hg2.block B h1.Blt (Ne.symm hTB)).trans h1.blk
  have hBlt2 : B < w2.heap.size := Nat.lt_of_lt_of_le h1.Blt hg2.size
  have hoB : v'.ownBlock ≠ some B := own_ne ho b2 (by decide)
  have hP2 := h1.ownP.kept hg2 (own_apart h1.ownP h1.own (by decide))
  have hPB := own_ne hP2 b2 (by decide)
  refine ⟨heap_setB b2, ?_, ?_, ?_, ?_, ?_, h.ints, h.fB, ?_, h.fP, ?_, ?_⟩
  · rw [List.length_append]
    exact ownsRow_setCell_other ho hoB _
  · have := h.nT; simp; omega
  · intro u hu
    rcases List.mem_append.1 hu with h2 | h2
    · exact h.short u h2
    · rw [List.mem_singleton.1 h2]; exact ht
  · exact ownsRow_setCell_other hP2 hPB _
  · have := h.nPc; omega
  · intro g hgv hΦ
    rcases hb with h2 | h2
    · rw [h2] at hgv; exact h.fT g hgv hΦ
    · rw [h2] at hgv; cases hgv; exact absurd (h1.lt _ hΦ) (by omega)
  · intro k hk
    have := h1.lt k hk
    have := hg2.size
    simp; omega
  · refine hX.more _ _ _ _ _ (Nat.le_succ c) (hX.loc _ _ _ _ _ hg2.os hg2.tape hg2.output (by have := hg2.size; simpa using this) (fun k hk => ?_) h1.side)
    rw [Below.heap_setCell _ _ _ _ (fun e => by have e2 : k = B := e; subst e2; exact h.fB hk)]
    exact hg2.block k (h1.lt k hk) (fun e => h.fT k e.symm hk)
theorem SWd.setP (hX : X.Local) (h : SWd X B c vT vP vS ts nP ps Φ w) {w1 w2 : World} {v' : Value} {L : Nat → Int} (hL : ∀ i, i < 256 → InI (L i)) (hg : w.grownBy w1 none) (ho : w2.ownsRow 0 43 256 v' (nP + 1) (ps ++ polyL .i64 L)) (hg2 : w1.grownBy w2 vP.ownBlock) (hb : v'.ownBlock = vP.ownBlock ∨ v'.ownBlock = some w1.heap.size) :
    SWd X B (c + 1) vT v' vS ts (nP + 1) (ps ++ polyL .i64 L) Φ (w2.setCell ⟨B, 1, none⟩ v') := by
  have h1 := h.keep hX hg
  have hPB := own_ne h1.ownP h1.blk (by decide)
  have b2 : w2.heap[B]? = _ := (hg2.block B h1.Blt (Ne.symm hPB)).trans h1.blk
  have hBlt2 : B < w2.heap.size := Nat.lt_of_lt_of_le h1.Blt hg2.size
  have hoB : v'.ownBlock ≠ some B := own_ne ho b2 (by decide)
  have hT2 := h1.own.kept hg2 (own_apart h1.own h1.ownP (by decide))
  have hTB := own_ne hT2 b2 (by decide)
  refine ⟨heap_setB b2, ownsRow_setCell_other hT2 hTB _, ?_, h.short, ownsRow_setCell_other ho hoB _, ?_, ?_, h.fB, h.fT, ?_, ?_, ?_⟩
  · have := h.nT; omega
  · have := h.nPc; omega
  · intro u hu
    rcases List.mem_append.1 hu with h2 | h2
    · exact h.ints u h2
    · unfold polyL at h2
      obtain ⟨i, hi, rfl⟩ := List.mem_map.1 h2
      exact ⟨L i, rfl, hL i (List.mem_range.1 hi)⟩
  · intro g hgv hΦ
    rcases hb with h2 | h2
    · rw [h2] at hgv; exact h.fP g hgv hΦ
    · rw [h2] at hgv; cases hgv; exact absurd (h1.lt _ hΦ) (by omega)
  · intro k hk
    have := h1.lt k hk
    have := hg2.size
    simp; omega
  · refine hX.more _ _ _ _ _ (Nat.le_succ c) (hX.loc _ _ _ _ _ hg2.os hg2.tape hg2.output (by have := hg2.size; simpa using this) (fun k hk => ?_) h1.side)
    rw [Below.heap_setCell _ _ _ _ (fun e => by have e2 : k = B := e; subst e2; exact h.fB hk)]
    exact hg2.block k (h1.lt k hk) (fun e => h.fP k e.symm hk)
end Go.Proofs.YtkijpphmiogbbaaGreatDoor.Z
