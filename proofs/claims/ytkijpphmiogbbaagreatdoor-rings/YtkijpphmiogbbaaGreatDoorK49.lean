import Derived.Test.YtkijpphmiogbbaaGreatDoorK48
import Derived.Test.YtkijpphmiogbbaaGreatDoorRows
import GoSem.ClaimGoes
namespace Go.Proofs.YtkijpphmiogbbaaGreatDoor.Z
open Go.RowKit
attribute [local go_sem ↓] Go.wp_at_zero Go.wp_at_succ
variable {w : World}

theorem Tryz.uOps : Tryz.prog.underlying 22 = some (.slice 28) := by kernel_rfl
theorem Tryz.iOp : (Tryz.prog.info? 28).map (fun i => (i.zero, i.size, i.bytes)) = some (some (.agg #[.int .i64 0, .int .i64 0, .int .i64 0, .int .i64 0, .int .i64 0, .int .i64 0, .int .i64 0, .string ByteArray.empty]), 8, 72) := by kernel_rfl
theorem grown_own {w w1 w2 : World} {v : Value} (g1 : w.grownBy w1 none) (g2 : w1.grownBy w2 v.ownBlock) (hb : ∀ b, v.ownBlock = some b → w.heap.size ≤ b) : w.grownBy w2 none :=
  ⟨g2.os.trans g1.os, g2.tape.trans g1.tape, g2.output.trans g1.output, Nat.le_trans g1.size g2.size, fun k hk hr => (g2.block k (Nat.lt_of_lt_of_le hk g1.size) (fun e => by have := hb k e.symm; omega)).trans (g1.block k hk hr)⟩
theorem flat_snoc (ops : List OpV) (o : OpV) : flat (ops ++ [o]) = flat ops ++ opL o := by unfold flat; rw [List.flatMap_append]; simp
def Good (ks : Nat → Int) (m : Nat) (o : OpV) : Prop := OpOK o ∧ (o.kind < 8 ∨ ∃ j, j < m ∧ o.kind = ks j)
set_option maxHeartbeats 4000000 in
set_option maxRecDepth 20000 in
theorem plays_any (a0 : Option Addr) (len cap : Nat) (ops : Nat → OpV) (adr : Nat → Addr) (h : Scr w a0 len cap ops adr) (K m : Nat) (ks : Nat → Int) (hm : m ≤ 100) (hks : ∀ j, j < m → w.cell? ⟨K, j, none⟩ = some (.int .i64 (ks j)))
    (hup : ∀ wr v (os : List OpV), w.grownBy wr none → wr.ownsRow w.heap.size 28 8 v os.length (flat os) → os.length ≤ 16384 → (∀ o ∈ os, Good ks m o) →
      Calls Tryz.prog 13 #[v] wr fun e w' => e = .returned (.int .i64 (-1)) ∧ Below w.heap.size w w') :
    Calls Tryz.prog 11 #[.slice a0 len cap, .slice (some ⟨K, 0, none⟩) m m] w fun e w' => e = .returned (.bool true) ∧ Below w.heap.size w w' := by
  have H : Hid (Scr w a0 len cap ops adr) := h
  have HK : Hid (∀ j, j < m → w.cell? ⟨K, j, none⟩ = some (.int .i64 (ks j))) := hks
  have HUP : Hid (∀ wr v (os : List OpV), w.grownBy wr none → wr.ownsRow w.heap.size 28 8 v os.length (flat os) → os.length ≤ 16384 → (∀ o ∈ os, Good ks m o) →
      Calls Tryz.prog 13 #[v] wr fun e w' => e = .returned (.int .i64 (-1)) ∧ Below w.heap.size w w') := hup
  have hl := h.len
  clear hks hup h
  go_enter Tryz.func11, Tryz.ntmps11
  go_wp2_with fail
  refine (small_any a0 len cap ops adr H.out).mono ?_
  rintro e w' ⟨hw, he⟩
  rw [hw]
  clear hw w'
  rcases he with rfl | ⟨rfl, hlen⟩
  · go_wp2
    go_ret
    exact ⟨rfl, below_of_grown (World.grownBy.refl _ _)⟩
  · have l0 : (len : Int) ≤ 16384 := by omega
    have m0 : (m : Int) ≤ 100 := by omega
    go_wp2
    go_loopw [6, 7] (fun v i wr => ∃ (k : Nat) (os : List OpV), k ≤ len ∧ os.length ≤ k ∧ i = .int .i64 k ∧ w.grownBy wr none ∧ wr.ownsRow w.heap.size 28 8 v os.length (flat os) ∧ Hid (∀ o ∈ os, Good ks m o)) (fun _ i _ => len - (intOf i).toNat)
    case atStart => exact ⟨0, [], by omega, Nat.le_refl _, rfl, World.grownBy.refl _ _, World.ownsRow_nil _ _ _ _, fun o ho => by cases ho⟩
    case round =>
      obtain ⟨k, os, hk, hos, rfl, hg, hO, HG⟩ := hrel
      by_cases hlt : k < len
      · have k0 : (k : Int) < (len : Int) := by omega
        have hx := fun W => H.out.ix k W hlt
        have cc := fun j v hv => hg.cell (H.out.cell k j v hlt hv) (by simp)
        have e0 : wr.cell? (adr k) = some (.int .i64 (ops k).kind) := cc 0 _ rfl
        have e1 : wr.cell? ⟨(adr k).block, (adr k).off + 1, none⟩ = some (.int .i64 (ops k).x) := cc 1 _ rfl
        have e2 : wr.cell? ⟨(adr k).block, (adr k).off + 2, none⟩ = some (.int .i64 (ops k).y) := cc 2 _ rfl
        have e3 : wr.cell? ⟨(adr k).block, (adr k).off + 3, none⟩ = some (.int .i64 (ops k).z) := cc 3 _ rfl
        have e4 : wr.cell? ⟨(adr k).block, (adr k).off + 4, none⟩ = some (.int .i64 (ops k).w) := cc 4 _ rfl
        have e5 : wr.cell? ⟨(adr k).block, (adr k).off + 5, none⟩ = some (.int .i64 (ops k).a) := cc 5 _ rfl
        have e6 : wr.cell? ⟨(adr k).block, (adr k).off + 6, none⟩ = some (.int .i64 (ops k).b) := cc 6 _ rfl
        have e7 : wr.cell? ⟨(adr k).block, (adr k).off + 7, none⟩ = some (.string (ops k).s) := cc 7 _ rfl
        have hok := H.out.ok k hlt
        have HOK : Hid (OpOK (ops k)) := ⟨hok.1, hok.2.1, hok.2.2.1, hok.2.2.2.1, hok.2.2.2.2.1, hok.2.2.2.2.2.1, hok.2.2.2.2.2.2.1, hok.2.2.2.2.2.2.2⟩
        clear cc hok
        generalize ops k = o at *
        generalize adr k = ad at *
        go_wp2
        go_loopw [9, 10] (fun b j wv => ∃ (t : Bool) (jj : Nat), jj ≤ m ∧ b = .bool t ∧ j = .int .i64 jj ∧ wv = wr ∧ Hid (t = true → o.kind < 8 ∨ ∃ j, j < m ∧ o.kind = ks j)) (fun _ j _ => m - (intOf j).toNat)
        case atStart => exact ⟨_, 0, by omega, rfl, rfl, rfl, fun ht => Or.inl (by simpa using ht)⟩
        case round =>
          obtain ⟨t, jj, hj, rfl, rfl, rfl, HT⟩ := hrel
          by_cases hjl : jj < m
          · have j0 : (jj : Int) < (m : Int) := by omega
            have kc := hg.cell (HK.out jj hjl) (by simp)
            cases t with
            | true =>
              go_wp2
              go_roundw
              case rel => exact ⟨true, jj + 1, by omega, rfl, by go_num, trivial, HT.out⟩
              case measure => simp [intOf]; omega
            | false =>
              go_wp2
              go_roundw
              case rel => exact ⟨_, jj + 1, by omega, rfl, by go_num, trivial, fun ht => Or.inr ⟨jj, hjl, by simpa using ht⟩⟩
              case measure => simp [intOf]; omega
          · have hjm : m = jj := by omega
            subst hjm
            cases t with
            | false =>
              go_wp2
              go_roundw
              case rel => exact ⟨k + 1, os, by omega, by omega, by go_num, hg, hO, HG.out⟩
              case measure => simp [intOf]; omega
            | true =>
              obtain ⟨i0, hi, hz0, hz1, hz2⟩ := info_of Tryz.iOp
              simp only at hz0 hz1 hz2
              have HI : Hid (Tryz.prog.info? 28 = some i0) := hi
              have HO : Hid (wr.ownsRow w.heap.size 28 8 u6 os.length (flat os)) := hO
              have hbb : ∀ b, Value.ownBlock u6 = some b → w.heap.size ≤ b := fun b hb => (hO.lt b hb).1
              clear hi hO
              go_wp2_with (first | (at_builtin; refine wpList_append_own_at _ rfl _ _ 22 rfl w.heap.size 28 i0 _ 8 72 Tryz.uOps HI.out hz0 hz1 hz2 rfl (by decide) _ os.length (flat os) rfl (HO.out.alloc _) ⟨_, 0, none⟩ 1 1 (opL o) rfl rfl ?c1 ?c2 ?c3 ?c4 ?c5 ?_))
              case c1 =>
                intro j u hj
                exact hj
              case c2 =>
                intro u hu
                unfold opL at hu
                simp only [List.mem_cons, List.not_mem_nil, or_false] at hu
                rcases hu with rfl | rfl | rfl | rfl | rfl | rfl | rfl | rfl <;> rfl
              case c3 => unfold maxLen; omega
              case c4 => omega
              case c5 => have := hg.size; omega
              intro v' w2 ho hg2 _ _
              clear e0 e1 e2 e3 e4 e5 e6 e7
              go_wp2
              go_roundw
              case rel =>
                refine ⟨k + 1, os ++ [o], by omega, by simp; omega, by go_num, grown_own (grownBy_trans hg (World.grownBy_alloc _ _ none)) hg2 hbb, ?_, ?_⟩
                · rw [flat_snoc, List.length_append]; exact ho
                · intro p hp
                  rcases List.mem_append.1 hp with h1 | h1
                  · exact HG.out p h1
                  · rw [List.mem_singleton.1 h1]; exact ⟨HOK.out, HT.out trivial⟩
              case measure => simp [intOf]; omega
      · have hkl : len = k := by omega
        subst hkl
        go_wp2_with fail
        refine (HUP.out _ _ os hg hO (by omega) HG.out).mono ?_
        rintro e w2 ⟨rfl, hb⟩
        go_wp2
        go_ret
        exact ⟨rfl, hb⟩
end Go.Proofs.YtkijpphmiogbbaaGreatDoor.Z

namespace Go.Proofs.YtkijpphmiogbbaaGreatDoor.Z
open Go.RowKit
attribute [local go_sem ↓] Go.wp_at_zero Go.wp_at_succ

/-- What a script of polynomials holds besides. -/
structure XRd (B : Nat) (w0 : World) (Φ : Nat → Prop) (w : World) : Prop where
  low : Below B w0 w
  lowΦ : ∀ k, k < B → Φ k
def XR (B : Nat) (w0 : World) : Side := fun _ v Φ w => v.l = .slice none 0 0 ∧ XRd B w0 Φ w
theorem XR_local (B : Nat) (w0 : World) : (XR B w0).Local where
  loc := by
    rintro c v Φ w w' h1 h2 h3 h4 h5 ⟨h0, h⟩
    exact ⟨h0, ⟨h1.trans h.low.os, h2.trans h.low.tape, h3.trans h.low.output, Nat.le_trans h.low.size h4, fun k hk => (h5 k (h.lowΦ k hk)).trans (h.low.block k hk)⟩, h.lowΦ⟩
  more := fun _ _ _ _ _ _ h => h
  looks := fun _ _ _ _ _ _ _ _ _ _ h _ => looks_nil h h.side.1
theorem XR_low {B c : Nat} {w0 w : World} (h : SW (XR B w0) B c w) : Below B w0 w := by
  obtain ⟨_, _, _, _, _, _, _, h⟩ := h
  exact h.side.2.low
theorem XR_et {B c : Nat} {w0 w : World} (hE : Et w0) (hB : 0 < B) (h : SW (XR B w0) B c w) : Et w := by
  unfold Et
  rw [World.cell?_of_block (a := ⟨0, 0, none⟩) ((XR_low h).block _ hB)]
  exact hE
theorem step_rings {B c : Nat} {w0 w : World} (hE : Et w0) (hB : 0 < B) (hc : c + 1 ≤ 40000) (o : OpV) (ho : OpOK o) (hk : o.kind < 8 ∨ (12 ≤ o.kind ∧ o.kind ≤ 14)) (h : SW (XR B w0) B c w) :
    Calls Tryz.prog 14 #[.pointer (some ⟨B, 0, none⟩), opVal o] w fun e w' => e = .returned (.bool true) ∧ SW (XR B w0) B (c + 2) w' := by
  have hX := XR_local B w0
  have HE : Hid (∀ W c, SW (XR B w0) B c W → Et W) := fun W c hW => XR_et hE hB hW
  rcases hk with hk | ⟨h12, h14⟩
  · by_cases h1 : o.kind < 1
    · exact step_none hX hc o ho h1 h
    · exact step_own hX (by omega) o ho (by omega) (by omega) h
  · refine step_ring hX hc o ho h12 h14 (fun W hW => ?_) h
    have hk3 : o.kind = 12 ∨ o.kind = 13 ∨ o.kind = 14 := by omega
    rcases hk3 with hk | hk | hk
    · exact (ring_12 hX HE (by omega) o ho hk hW).mono (fun e W' h9 => ⟨h9.1, SW.more hX h9.2 (by omega)⟩)
    · exact (ring_13 hX HE (by omega) o ho hk hW).mono (fun e W' h9 => ⟨h9.1, SW.more hX h9.2 (by omega)⟩)
    · exact (ring_14 hX HE (by omega) o ho hk hW).mono (fun e W' h9 => ⟨h9.1, SW.more hX h9.2 (by omega)⟩)
theorem init_XR (w : World) : SW (XR w.heap.size w) w.heap.size 0 (newW w) := by
  refine ⟨.slice none 0 0, .slice none 0 0, sv0, [], 0, [], fun k => k < w.heap.size, heap_alloc_new w _, World.ownsRow_nil _ _ _ _, Nat.le_refl _, (fun t ht => by cases ht), World.ownsRow_nil _ _ _ _, Nat.le_refl _, (fun t ht => by cases ht), Nat.lt_irrefl _, (fun g hg => by simp [Value.ownBlock] at hg), (fun g hg => by simp [Value.ownBlock] at hg), fun k hk => Nat.lt_trans hk (by simp), ?_⟩
  exact ⟨rfl, below_of_grown (World.grownBy_alloc w _ none), fun k hk => hk⟩
theorem below_trans {w w1 w2 : World} (h : w.grownBy w1 none) (k : Below w1.heap.size w1 w2) : Below w.heap.size w w2 :=
  ⟨k.os.trans h.os, k.tape.trans h.tape, k.output.trans h.output, Nat.le_trans h.size k.size, fun i hi => (k.block i (Nat.lt_of_lt_of_le hi h.size)).trans (h.block i hi (by simp))⟩
theorem Scr.new {w w' : World} {a0 : Option Addr} {len cap : Nat} {ops : Nat → OpV} {adr : Nat → Addr} (h : Scr w a0 len cap ops adr) (hg : w.grownBy w' none) : Scr w' a0 len cap ops adr :=
  ⟨h.ix, fun i k v hi hv => hg.cell (h.cell i k v hi hv) (by simp), h.ok, h.len⟩
set_option maxHeartbeats 2000000 in
theorem rings_any (w : World) (a0 : Option Addr) (len cap : Nat) (ops : Nat → OpV) (adr : Nat → Addr) (h : Scr w a0 len cap ops adr) (hE : Et w) :
    Calls Tryz.prog 4 #[.slice a0 len cap] w fun e w' => e = .returned (.bool true) ∧ Below w.heap.size w w' := by
  have hg1 : w.grownBy (w.alloc (.cells #[.int .i64 12, .int .i64 13, .int .i64 14] 3)) none := World.grownBy_alloc _ _ _
  have h4 : 0 < w.heap.size := cell_lt hE
  have hp := plays_any (w := w.alloc (.cells #[.int .i64 12, .int .i64 13, .int .i64 14] 3)) a0 len cap ops adr (h.new hg1) w.heap.size 3 (fun j => 12 + (j : Int)) (by omega)
    (fun j hj => by
      rw [World.cell?_alloc_new]
      match j, hj with
      | 0, _ => rfl
      | 1, _ => rfl
      | 2, _ => rfl)
    (fun wr v os hg2 hO hn hgood => by
      have h4r : 0 < wr.heap.size := Nat.lt_of_lt_of_le h4 (Nat.le_trans hg1.size hg2.size)
      have hEr : Et wr := (hE.new hg1).new hg2
      have hu := upTo_any (X := XR wr.heap.size wr) (w := wr) v os _ hn hO (fun W c hW k hk => (XR_low hW).block k hk) (init_XR wr)
        (fun o ho c W hc hW => step_rings hEr h4r hc o (hgood o ho).1 (by
          rcases (hgood o ho).2 with h1 | ⟨j, hj, h1⟩
          · exact Or.inl h1
          · have h2 : o.kind = 12 + (j : Int) := h1
            exact Or.inr (by omega)) hW)
      exact hu.mono fun e w' ⟨he, hS⟩ => ⟨he, below_trans hg2 (XR_low hS)⟩)
  have HP : Hid (Calls Tryz.prog 11 #[.slice a0 len cap, .slice (some ⟨w.heap.size, 0, none⟩) 3 3] (w.alloc (.cells #[.int .i64 12, .int .i64 13, .int .i64 14] 3)) fun e w' => e = .returned (.bool true) ∧ Below (w.alloc (.cells #[.int .i64 12, .int .i64 13, .int .i64 14] 3)).heap.size (w.alloc (.cells #[.int .i64 12, .int .i64 13, .int .i64 14] 3)) w') := hp
  clear hp h
  go_enter Tryz.func4, Tryz.ntmps4
  go_wp2_with fail
  refine HP.out.mono ?_
  rintro e w2 ⟨rfl, hb⟩
  have HB : Hid (Below w.heap.size w w2) := below_trans hg1 hb
  clear hb hg1 HP
  go_wp2
  go_ret
  exact ⟨rfl, HB.out⟩
end Go.Proofs.YtkijpphmiogbbaaGreatDoor.Z

namespace Go.Proofs.YtkijpphmiogbbaaGreatDoor.Cl
open Go

/-- Where a function leads, by its number. -/
def leads (P : Program) (g : FuncId) : List FuncId := (P.funcs[g]?).elim [] P.leadsTo
/-- What is still to be paid for: the functions that have not been seen. -/
def owed (P : Program) (seen : List FuncId) : List Nat → Nat
  | [] => 0
  | g :: l => (if seen.contains g then 0 else (leads P g).length + 1) + owed P seen l

theorem owed_mono (P : Program) (f : FuncId) (seen : List FuncId) : ∀ l : List Nat, owed P (f :: seen) l ≤ owed P seen l
  | [] => Nat.le_refl _
  | g :: l => by
    have ih := owed_mono P f seen l
    simp only [owed]
    by_cases h : seen.contains g = true
    · have h2 : (f :: seen).contains g = true := by simp only [List.contains_cons, h, Bool.or_true]
      rw [if_pos h, if_pos h2]; omega
    · rw [if_neg h]
      split <;> omega
theorem owed_drop (P : Program) (f : FuncId) (seen : List FuncId) (hn : seen.contains f = false) : ∀ l : List Nat, f ∈ l → owed P (f :: seen) l + ((leads P f).length + 1) ≤ owed P seen l
  | [], h => by cases h
  | g :: l, h => by
    have hm := owed_mono P f seen l
    simp only [owed]
    by_cases hg : g = f
    · subst hg
      have h2 : (g :: seen).contains g = true := by simp
      rw [if_pos h2, hn]
      simp only [Bool.false_eq_true, if_false]; omega
    · have ih := owed_drop P f seen hn l (by cases h with | head => exact absurd rfl hg | tail _ h => exact h)
      by_cases hs : seen.contains g = true
      · have h2 : (f :: seen).contains g = true := by simp only [List.contains_cons, hs, Bool.or_true]
        rw [if_pos hs, if_pos h2]; omega
      · rw [if_neg hs]
        split <;> omega
theorem leads_none (P : Program) (f : FuncId) (h : P.funcs.size ≤ f) : leads P f = [] := by
  unfold leads; rw [Array.getElem?_eq_none h]; rfl
theorem closed_of (P : Program) : ∀ (n : Nat) (todo seen : List FuncId), todo.length + owed P seen (List.range P.funcs.size) ≤ n →
    (∀ g ∈ seen, ∀ h ∈ leads P g, h ∈ seen ∨ h ∈ todo) →
    (∀ g ∈ seen, g ∈ P.closureVia n todo seen) ∧ (∀ g ∈ todo, g ∈ P.closureVia n todo seen) ∧ ∀ g ∈ P.closureVia n todo seen, ∀ h ∈ leads P g, h ∈ P.closureVia n todo seen
  | 0, todo, seen, hn, hc => by
    have h0 : todo = [] := List.length_eq_zero_iff.1 (by omega)
    subst h0
    simp only [Program.closureVia, List.mem_reverse]
    exact ⟨fun g h => h, fun g h => absurd h (by simp), fun g hg h hh => (hc g hg h hh).resolve_right (by simp)⟩
  | n + 1, [], seen, hn, hc => by
    simp only [Program.closureVia, List.mem_reverse]
    exact ⟨fun g h => h, fun g h => absurd h (by simp), fun g hg h hh => (hc g hg h hh).resolve_right (by simp)⟩
  | n + 1, f :: todo, seen, hn, hc => by
    simp only [Program.closureVia]
    simp only [List.length_cons] at hn
    split
    · rename_i hs
      have hf : f ∈ seen := by simpa using hs
      obtain ⟨i1, i2, i3⟩ := closed_of P n todo seen (by omega) (fun g hg h hh => by
        rcases hc g hg h hh with x | x
        · exact .inl x
        · cases x with
          | head => exact .inl hf
          | tail _ x => exact .inr x)
      exact ⟨i1, fun g hg => by
        cases hg with
        | head => exact i1 _ hf
        | tail _ x => exact i2 _ x, i3⟩
    · rename_i hs
      have hs' : seen.contains f = false := by simpa using hs
      have hle : (leads P f ++ todo).length + owed P (f :: seen) (List.range P.funcs.size) ≤ n := by
        rw [List.length_append]
        rcases Nat.lt_or_ge f P.funcs.size with hlt | hge
        · have := owed_drop P f seen hs' (List.range P.funcs.size) (List.mem_range.2 hlt)
          omega
        · rw [leads_none P f hge]
          have := owed_mono P f seen (List.range P.funcs.size)
          simp only [List.length_nil]; omega
      obtain ⟨i1, i2, i3⟩ := closed_of P n (leads P f ++ todo) (f :: seen) hle (fun g hg h hh => by
        cases hg with
        | head => exact .inr (List.mem_append.2 (.inl hh))
        | tail _ hg =>
          rcases hc g hg h hh with x | x
          · exact .inl (List.mem_cons_of_mem _ x)
          · cases x with
            | head => exact .inl (List.mem_cons_self ..)
            | tail _ x => exact .inr (List.mem_append.2 (.inr x)))
      exact ⟨fun g hg => i1 g (List.mem_cons_of_mem _ hg), fun g hg => by
        cases hg with
        | head => exact i1 _ (List.mem_cons_self ..)
        | tail _ x => exact i2 _ (List.mem_append.2 (.inr x)), i3⟩
theorem owed_nil (P : Program) : ∀ l : List Nat, owed P [] l = (l.map fun g => (leads P g).length + 1).sum
  | [] => rfl
  | g :: l => by simp [owed, owed_nil P l]
theorem fuel_eq (P : Program) : (P.funcs.toList.map fun g => (P.leadsTo g).length + 1) = (List.range P.funcs.size).map fun g => (leads P g).length + 1 := by
  refine List.ext_getElem (by simp) (fun i h1 h2 => ?_)
  simp only [List.length_map, Array.length_toList] at h1
  simp [leads, h1]
/-- What a function leads to, it comes to. -/
theorem mem_self (P : Program) (f : FuncId) : f ∈ P.closure f := by
  unfold Program.closure
  exact (closed_of P _ [f] [] (by rw [owed_nil, fuel_eq]; simp) (fun g hg => by cases hg)).2.1 f (List.mem_cons_self ..)
theorem mem_next (P : Program) (f g h : FuncId) (hg : g ∈ P.closure f) (hh : h ∈ leads P g) : h ∈ P.closure f := by
  unfold Program.closure at hg ⊢
  exact (closed_of P _ [f] [] (by rw [owed_nil, fuel_eq]; simp) (fun g hg => by cases hg)).2.2 g hg h hh
theorem goes_of (P : Program) (f g : FuncId) (fn : Func) (hg : g ∈ P.closure f) (hf : P.funcs[g]? = some fn) (h : fn.goes = true) : P.goes f = true := by
  unfold Program.goes
  have : ((P.closure f).any fun g => (P.funcs[g]?).any Func.goes) = true := List.any_eq_true.2 ⟨g, hg, by rw [hf]; exact h⟩
  rw [this, Bool.true_or]
theorem unfollowed_of (P : Program) (f g : FuncId) (fn : Func) (c : Code) (hg : g ∈ P.closure f) (hf : P.funcs[g]? = some fn) (hb : fn.body = some c) (h : c.unfollowed = true) : P.unfollowed f = true := by
  unfold Program.unfollowed
  exact List.any_eq_true.2 ⟨g, hg, by rw [hf, Option.any_some, hb]; exact h⟩
theorem recurses_of (P : Program) (f : FuncId) (h : P.unfollowed f = true) : P.recurses f = true := by
  unfold Program.recurses
  rw [h, Bool.true_or]
/-- One step of the way, reckoned. -/
theorem step_of {P : Program} {f g h : FuncId} (hg : g ∈ P.closure f) (hh : (leads P g).contains h = true) : h ∈ P.closure f :=
  mem_next P f g h hg (by simpa using hh)
/-- The way from a script to the goroutines that draw a matrix. -/
theorem way (f : FuncId) (h : (leads Tryz.pinned.checked.prog f).contains 11 = true) : Tryz.pinned.checked.prog.goes f = true :=
  goes_of _ f 305 Tryz.f305
    (step_of (g := 220) (h := 305) (step_of (g := 144) (h := 220) (step_of (g := 142) (h := 144) (step_of (g := 78) (h := 142) (step_of (g := 37) (h := 78) (step_of (g := 18) (h := 37) (step_of (g := 14) (h := 18) (step_of (g := 13) (h := 14) (step_of (g := 11) (h := 13) (step_of (mem_self _ f) h) (by kernel_rfl)) (by kernel_rfl)) (by kernel_rfl)) (by kernel_rfl)) (by kernel_rfl)) (by kernel_rfl)) (by kernel_rfl)) (by kernel_rfl)) (by kernel_rfl))
    Tryz.func305 (by kernel_rfl)
/-- On the way something is called that is not named. -/
theorem loose (f : FuncId) (h : (leads Tryz.pinned.checked.prog f).contains 11 = true) : Tryz.pinned.checked.prog.unfollowed f = true :=
  unfollowed_of _ f 141 Tryz.f141 _
    (step_of (g := 78) (h := 141) (step_of (g := 37) (h := 78) (step_of (g := 18) (h := 37) (step_of (g := 14) (h := 18) (step_of (g := 13) (h := 14) (step_of (g := 11) (h := 13) (step_of (mem_self _ f) h) (by kernel_rfl)) (by kernel_rfl)) (by kernel_rfl)) (by kernel_rfl)) (by kernel_rfl)) (by kernel_rfl))
    Tryz.func141 rfl (by kernel_rfl)
theorem goesBy_of {c : OpenClaim} {f : FuncId} (hn : Tryz.pinned.checked.prog.funcNamed c.func = some f) (h : Tryz.pinned.checked.prog.goes f = true) : true = c.goesBy Tryz.pinned.checked.prog := by
  unfold OpenClaim.goesBy Program.goesAt Program.goesFrom
  rw [hn, Option.any_some, h, Bool.true_or]
end Go.Proofs.YtkijpphmiogbbaaGreatDoor.Cl
