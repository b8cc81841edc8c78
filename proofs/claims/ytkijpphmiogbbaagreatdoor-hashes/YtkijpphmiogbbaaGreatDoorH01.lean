import Derived.Test.YtkijpphmiogbbaaGreatDoorRows
import GoSem.ClaimGoes
namespace Go.Proofs.YtkijpphmiogbbaaGreatDoor.Cl
open Go

/-- Where a function leads, by its number. -/
def leads (P : Program) (g : FuncId) : List FuncId := (P.funcs[g]?).elim [] P.leadsTo
/-- What is still to be paid for: the functions that have not been seen. -/
def owed (P : Program) (seen : List FuncId) : List Nat → Nat
  | [] => 0
  | g :: l => (if seen.contains g then 0 else (leads P g).length + 1) + owed P seen l

theorem owed_mono (P : Program) (f : FuncId) (seen : List FuncId) : ∀ l : List Nat, owed P (f :: seen) l ≤ owed P seen l
  | [] => Nat.le_refl _
  | g :: l => by
    have ih := owed_mono P f seen l
    simp only [owed]
    by_cases h : seen.contains g = true
    · have h2 : (f :: seen).contains g = true := by simp only [List.contains_cons, h, Bool.or_true]
      rw [if_pos h, if_pos h2]; omega
    · rw [if_neg h]
      split <;> omega
theorem owed_drop (P : Program) (f : FuncId) (seen : List FuncId) (hn : seen.contains f = false) : ∀ l : List Nat, f ∈ l → owed P (f :: seen) l + ((leads P f).length + 1) ≤ owed P seen l
  | [], h => by cases h
  | g :: l, h => by
    have hm := owed_mono P f seen l
    simp only [owed]
    by_cases hg : g = f
    · subst hg
      have h2 : (g :: seen).contains g = true := by simp
      rw [if_pos h2, hn]
      simp only [Bool.false_eq_true, if_false]; omega
    · have ih := owed_drop P f seen hn l (by cases h with | head => exact absurd rfl hg | tail _ h => exact h)
      by_cases hs : seen.contains g = true
      · have h2 : (f :: seen).contains g = true := by simp only [List.contains_cons, hs, Bool.or_true]
        rw [if_pos hs, if_pos h2]; omega
      · rw [if_neg hs]
        split <;> omega
theorem leads_none (P : Program) (f : FuncId) (h : P.funcs.size ≤ f) : leads P f = [] := by
  unfold leads; rw [Array.getElem?_eq_none h]; rfl
theorem closed_of (P : Program) : ∀ (n : Nat) (todo seen : List FuncId), todo.length + owed P seen (List.range P.funcs.size) ≤ n →
    (∀ g ∈ seen, ∀ h ∈ leads P g, h ∈ seen ∨ h ∈ todo) →
    (∀ g ∈ seen, g ∈ P.closureVia n todo seen) ∧ (∀ g ∈ todo, g ∈ P.closureVia n todo seen) ∧ ∀ g ∈ P.closureVia n todo seen, ∀ h ∈ leads P g, h ∈ P.closureVia n todo seen
  | 0, todo, seen, hn, hc => by
    have h0 : todo = [] := List.length_eq_zero_iff.1 (by omega)
    subst h0
    simp only [Program.closureVia, List.mem_reverse]
    exact ⟨fun g h => h, fun g h => absurd h (by simp), fun g hg h hh => (hc g hg h hh).resolve_right (by simp)⟩
  | n + 1, [], seen, hn, hc => by
    simp only [Program.closureVia, List.mem_reverse]
    exact ⟨fun g h => h, fun g h => absurd h (by simp), fun g hg h hh => (hc g hg h hh).resolve_right (by simp)⟩
  | n + 1, f :: todo, seen, hn, hc => by
    simp only [Program.closureVia]
    simp only [List.length_cons] at hn
    split
    · rename_i hs
      have hf : f ∈ seen := by simpa using hs
      obtain ⟨i1, i2, i3⟩ := closed_of P n todo seen (by omega) (fun g hg h hh => by
        rcases hc g hg h hh with x | x
        · exact .inl x
        · cases x with
          | head => exact .inl hf
          | tail _ x => exact .inr x)
      exact ⟨i1, fun g hg => by
        cases hg with
        | head => exact i1 _ hf
        | tail _ x => exact i2 _ x, i3⟩
    · rename_i hs
      have hs' : seen.contains f = false := by simpa using hs
      have hle : (leads P f ++ todo).length + owed P (f :: seen) (List.range P.funcs.size) ≤ n := by
        rw [List.length_append]
        rcases Nat.lt_or_ge f P.funcs.size with hlt | hge
        · have := owed_drop P f seen hs' (List.range P.funcs.size) (List.mem_range.2 hlt)
          omega
        · rw [leads_none P f hge]
          have := owed_mono P f seen (List.range P.funcs.size)
          simp only [List.length_nil]; omega
      obtain ⟨i1, i2, i3⟩ := closed_of P n (leads P f ++ todo) (f :: seen) hle (fun g hg h hh => by
        cases hg with
        | head => exact .inr (List.mem_append.2 (.inl hh))
        | tail _ hg =>
          rcases hc g hg h hh with x | x
          · exact .inl (List.mem_cons_of_mem _ x)
          · cases x with
            | head => exact .inl (List.mem_cons_self ..)
            | tail _ x => exact .inr (List.mem_append.2 (.inr x)))
      exact ⟨fun g hg => i1 g (List.mem_cons_of_mem _ hg), fun g hg => by
        cases hg with
        | head => exact i1 _ (List.mem_cons_self ..)
        | tail _ x => exact i2 _ (List.mem_append.2 (.inr x)), i3⟩
theorem owed_nil (P : Program) : ∀ l : List Nat, owed P [] l = (l.map fun g => (leads P g).length + 1).sum
  | [] => rfl
  | g :: l => by simp [owed, owed_nil P l]
theorem fuel_eq (P : Program) : (P.funcs.toList.map fun g => (P.leadsTo g).length + 1) = (List.range P.funcs.size).map fun g => (leads P g).length + 1 := by
  refine List.ext_getElem (by simp) (fun i h1 h2 => ?_)
  simp only [List.length_map, Array.length_toList] at h1
  simp [leads, h1]
/-- What a function leads to, it comes to. -/
theorem mem_self (P : Program) (f : FuncId) : f ∈ P.closure f := by
  unfold Program.closure
  exact (closed_of P _ [f] [] (by rw [owed_nil, fuel_eq]; simp) (fun g hg => by cases hg)).2.1 f (List.mem_cons_self ..)
theorem mem_next (P : Program) (f g h : FuncId) (hg : g ∈ P.closure f) (hh : h ∈ leads P g) : h ∈ P.closure f := by
  unfold Program.closure at hg ⊢
  exact (closed_of P _ [f] [] (by rw [owed_nil, fuel_eq]; simp) (fun g hg => by cases hg)).2.2 g hg h hh
theorem goes_of (P : Program) (f g : FuncId) (fn : Func) (hg : g ∈ P.closure f) (hf : P.funcs[g]? = some fn) (h : fn.goes = true) : P.goes f = true := by
  unfold Program.goes
  have : ((P.closure f).any fun g => (P.funcs[g]?).any Func.goes) = true := List.any_eq_true.2 ⟨g, hg, by rw [hf]; exact h⟩
  rw [this, Bool.true_or]
theorem unfollowed_of (P : Program) (f g : FuncId) (fn : Func) (c : Code) (hg : g ∈ P.closure f) (hf : P.funcs[g]? = some fn) (hb : fn.body = some c) (h : c.unfollowed = true) : P.unfollowed f = true := by
  unfold Program.unfollowed
  exact List.any_eq_true.2 ⟨g, hg, by rw [hf, Option.any_some, hb]; exact h⟩
theorem recurses_of (P : Program) (f : FuncId) (h : P.unfollowed f = true) : P.recurses f = true := by
  unfold Program.recurses
  rw [h, Bool.true_or]
/-- One step of the way, reckoned. -/
theorem step_of {P : Program} {f g h : FuncId} (hg : g ∈ P.closure f) (hh : (leads P g).contains h = true) : h ∈ P.closure f :=
  mem_next P f g h hg (by simpa using hh)
/-- The way from a script to the goroutines that draw a matrix. -/
theorem way (f : FuncId) (h : (leads Tryz.pinned.checked.prog f).contains 11 = true) : Tryz.pinned.checked.prog.goes f = true :=
  goes_of _ f 305 Tryz.f305
    (step_of (g := 220) (h := 305) (step_of (g := 144) (h := 220) (step_of (g := 142) (h := 144) (step_of (g := 78) (h := 142) (step_of (g := 37) (h := 78) (step_of (g := 18) (h := 37) (step_of (g := 14) (h := 18) (step_of (g := 13) (h := 14) (step_of (g := 11) (h := 13) (step_of (mem_self _ f) h) (by kernel_rfl)) (by kernel_rfl)) (by kernel_rfl)) (by kernel_rfl)) (by kernel_rfl)) (by kernel_rfl)) (by kernel_rfl)) (by kernel_rfl)) (by kernel_rfl))
    Tryz.func305 (by kernel_rfl)
/-- On the way something is called that is not named. -/
theorem loose (f : FuncId) (h : (leads Tryz.pinned.checked.prog f).contains 11 = true) : Tryz.pinned.checked.prog.unfollowed f = true :=
  unfollowed_of _ f 141 Tryz.f141 _
    (step_of (g := 78) (h := 141) (step_of (g := 37) (h := 78) (step_of (g := 18) (h := 37) (step_of (g := 14) (h := 18) (step_of (g := 13) (h := 14) (step_of (g := 11) (h := 13) (step_of (mem_self _ f) h) (by kernel_rfl)) (by kernel_rfl)) (by kernel_rfl)) (by kernel_rfl)) (by kernel_rfl)) (by kernel_rfl))
    Tryz.func141 rfl (by kernel_rfl)
theorem goesBy_of {c : OpenClaim} {f : FuncId} (hn : Tryz.pinned.checked.prog.funcNamed c.func = some f) (h : Tryz.pinned.checked.prog.goes f = true) : true = c.goesBy Tryz.pinned.checked.prog := by
  unfold OpenClaim.goesBy Program.goesAt Program.goesFrom
  rw [hn, Option.any_some, h, Bool.true_or]
end Go.Proofs.YtkijpphmiogbbaaGreatDoor.Cl
