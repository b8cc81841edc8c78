import Derived.Test.YtgpmkajocadenaaDoorG
import Derived.Lib.SliceRun
namespace Go.Proofs.YtgpmkajocadenaaDoor
open Go.RowKit
attribute [local go_sem ↓] Go.wp_at_zero Go.wp_at_succ

theorem Sp.rateSet {w : World} {b : Nat} {s : Spg} (h : Sp w b s) (p : Nat) : Sp (w.setCell ⟨b, 25, none⟩ (.int .i64 p)) b { s with rate := p } := by
  refine ⟨h.row.set_past (by omega) _, ?_, ?_, ?_, ?_, fun i => ?_⟩
  · rw [cell_same h.c25]
  · rw [cell_other _ _ _ _ (Or.inr (by simp))]; exact h.c26
  · rw [cell_other _ _ _ _ (Or.inr (by simp))]; exact h.c27
  · rw [cell_other _ _ _ _ (Or.inr (by simp))]; exact h.c28
  · rw [frozen_set]; exact h.fz i
theorem Sp.enSet {w : World} {b : Nat} {s : Spg} (h : Sp w b s) (p : Int) : Sp (w.setCell ⟨b, 26, none⟩ (.int .u8 p)) b { s with en := p } := by
  refine ⟨h.row.set_past (by omega) _, ?_, ?_, ?_, ?_, fun i => ?_⟩
  · rw [cell_other _ _ _ _ (Or.inr (by simp))]; exact h.c25
  · rw [cell_same h.c26]
  · rw [cell_other _ _ _ _ (Or.inr (by simp))]; exact h.c27
  · rw [cell_other _ _ _ _ (Or.inr (by simp))]; exact h.c28
  · rw [frozen_set]; exact h.fz i
theorem grown_setCells (b : Nat) : ∀ (vs : List Value) (o : Nat) (w : World), w.grownBy (w.setCells b o vs) (some b)
  | [], _, w => World.grownBy.refl w _
  | v :: r, o, w => by rw [World.setCells]; exact grownBy_trans (grown_set b o w v) (grown_setCells b r (o + 1) _)
theorem sl37 (b : Nat) (W : World) : (Instr.sliceAt 37 (.pointer (some ⟨b, 0, none⟩)) none none none).run Tryd.prog W = .ok (.slice (some ⟨b, 0, none⟩) 25 25) W := by kernel_rfl
theorem run_clr (b : Nat) (s : Spg) (w : World) (hS : Sp w b s) :
    ∃ W1, (Builtin.clear_ #[51] 0 #[.slice (some ⟨b, 0, none⟩) 25 25]).run Tryd.prog w = .ok (.tuple #[]) W1 ∧ w.grownBy W1 (some b) ∧ Sp W1 b { s with L := fun _ => 0 } := by
  have hrun := Lib.run_clear_slice (P := Tryd.prog) w 51 35 0 (.int .u64 0) Tryd.under51 (fun _ => by kernel_rfl) rfl rfl b 0 25 25 (by omega)
    (by intro j hj; rw [Nat.zero_add, (hS.row j hj).1]; rfl) (by intro j hj; rw [Nat.zero_add]; exact hS.fz j)
  refine ⟨_, hrun, grown_setCells _ _ _ _, ?_⟩
  have ho : ∀ i, 25 ≤ i → (w.setCells b 0 (List.replicate 25 (.int .u64 0))).cell? ⟨b, i, none⟩ = w.cell? ⟨b, i, none⟩ := fun i hi =>
    World.cell?_setCells_out b _ 0 w ⟨b, i, none⟩ (fun _ _ => Or.inr (by simpa using hi))
  refine ⟨fun i hi => ⟨?_, ?_⟩, (ho 25 (by omega)).trans hS.c25, (ho 26 (by omega)).trans hS.c26, (ho 27 (by omega)).trans hS.c27, (ho 28 (by omega)).trans hS.c28, fun i => ?_⟩
  · have := World.cell?_setCells_in b (List.replicate 25 (.int .u64 0)) 0 w (fun j hj => by rw [Nat.zero_add, (hS.row j (by simpa using hj)).1]; rfl) i (by simpa using hi)
    rw [Nat.zero_add] at this
    rw [this, List.getElem_replicate]
  · rw [World.frozen?_setCells]; exact hS.fz i
  · rw [World.frozen?_setCells]; exact hS.fz i

def startS (rate : Nat) (en : Int) : Spg := ⟨fun _ => 0, rate, en, 0, false⟩
set_option maxHeartbeats 1000000 in
theorem start_any (b rate : Nat) (en : Int) (s : Spg) (w : World) (hS : Sp w b s) :
    Calls Tryd.prog 9 #[.pointer (some ⟨b, 0, none⟩), .int .i64 rate, .int .u8 en] w fun e w' => e = .returned (.tuple #[]) ∧ w.grownBy w' (some b) ∧ Sp w' b (startS rate en) := by
  obtain ⟨W1, h1, hg1, hS1⟩ := run_clr b s w hS
  have h2 := sl37 b
  have c25 := hS1.c25
  have c26 := hS1.c26
  have c27 := hS1.c27
  have c28 := hS1.c28
  have f25 := hS1.fz 25
  have f26 := hS1.fz 26
  have f27 := hS1.fz 27
  have f28 := hS1.fz 28
  go_enter Tryd.func9, Tryd.ntmps9
  go_wp2
  go_end0
  exact ⟨rfl, grownBy_trans hg1 (grownBy_trans (grownBy_trans (grownBy_trans (grown_set b 25 _ _) (grown_set b 26 _ _)) (grown_set b 27 _ _)) (grown_set b 28 _ _)), (((hS1.rateSet rate).enSet en).place 0).spentSet false⟩

set_option maxHeartbeats 400000 in
theorem rateOf_any (bits : Int) (w : World) (h0 : 0 ≤ bits) (h1 : bits ≤ 512) :
    Calls Tryd.prog 10 #[.int .i64 bits] w fun e w' => e = .returned (.int .i64 (200 - 2 * bits / 8)) ∧ w' = w := by
  go_enter Tryd.func10, Tryd.ntmps10
  go_wp2
  go_ret
  exact ⟨rfl, rfl⟩

theorem new_sp (w : World) : Sp (w.alloc (.cells #[.int .u64 0, .int .u64 0, .int .u64 0, .int .u64 0, .int .u64 0, .int .u64 0, .int .u64 0, .int .u64 0, .int .u64 0, .int .u64 0, .int .u64 0, .int .u64 0, .int .u64 0, .int .u64 0, .int .u64 0, .int .u64 0, .int .u64 0, .int .u64 0, .int .u64 0, .int .u64 0, .int .u64 0, .int .u64 0, .int .u64 0, .int .u64 0, .int .u64 0, .int .i64 0, .int .u8 0, .int .i64 0, .bool false] 41)) w.heap.size ⟨fun _ => 0, 0, 0, 0, false⟩ := by
  refine ⟨fun i hi => ⟨?_, World.frozen?_alloc_at _ _ _ _ rfl⟩, by rw [World.cell?_alloc_new]; rfl, by rw [World.cell?_alloc_new]; rfl, by rw [World.cell?_alloc_new]; rfl, by rw [World.cell?_alloc_new]; rfl, fun i => World.frozen?_alloc_at _ _ _ _ rfl⟩
  rw [World.cell?_alloc_new]
  have h : i = 0 ∨ i = 1 ∨ i = 2 ∨ i = 3 ∨ i = 4 ∨ i = 5 ∨ i = 6 ∨ i = 7 ∨ i = 8 ∨ i = 9 ∨ i = 10 ∨ i = 11 ∨ i = 12 ∨ i = 13 ∨ i = 14 ∨ i = 15 ∨ i = 16 ∨ i = 17 ∨ i = 18 ∨ i = 19 ∨ i = 20 ∨ i = 21 ∨ i = 22 ∨ i = 23 ∨ i = 24 := by omega
  rcases h with rfl | rfl | rfl | rfl | rfl | rfl | rfl | rfl | rfl | rfl | rfl | rfl | rfl | rfl | rfl | rfl | rfl | rfl | rfl | rfl | rfl | rfl | rfl | rfl | rfl <;> rfl
theorem grown_new {w w1 w2 : World} {h : Nat} (g1 : w.grownBy w1 none) (g2 : w1.grownBy w2 (some h)) (hh : w.heap.size ≤ h) : w.grownBy w2 none :=
  ⟨g2.os.trans g1.os, g2.tape.trans g1.tape, g2.output.trans g1.output, Nat.le_trans g1.size g2.size, fun k hk hr => (g2.block k (Nat.lt_of_lt_of_le hk g1.size) (by simp; omega)).trans (g1.block k hk hr)⟩
set_option maxHeartbeats 1000000 in
theorem newStream_128 (w : World) :
    Calls Tryd.prog 5 #[.int .i64 128] w fun e w' => e = .returned (.tuple #[.pointer (some ⟨w.heap.size, 0, none⟩), .nilIface]) ∧ w.grownBy w' none ∧ Sp w' w.heap.size (startS 168 31) := by
  go_enter Tryd.func5, Tryd.ntmps5
  go_wp2 
  go_region_with (first | (go_at_call 10; refine (rateOf_any _ _ (by omega) (by omega)).mono ?_; rintro e w' ⟨rfl, rfl⟩) | (go_at_call 9; refine (start_any w.heap.size 168 31 ⟨fun _ => 0, 0, 0, 0, false⟩ _ ?_).mono ?_; (exact (new_sp w).drew); rintro e w1 ⟨rfl, hg1, hS1⟩))
  all_goals
    go_wp2
    go_ret2
    exact ⟨rfl, grown_new (grown_drew (World.grownBy_alloc w _ none)) hg1 (Nat.le_refl _), hS1⟩
set_option maxHeartbeats 1000000 in
theorem newStream_256 (w : World) :
    Calls Tryd.prog 5 #[.int .i64 256] w fun e w' => e = .returned (.tuple #[.pointer (some ⟨w.heap.size, 0, none⟩), .nilIface]) ∧ w.grownBy w' none ∧ Sp w' w.heap.size (startS 136 31) := by
  go_enter Tryd.func5, Tryd.ntmps5
  go_wp2 
  go_region_with (first | (go_at_call 10; refine (rateOf_any _ _ (by omega) (by omega)).mono ?_; rintro e w' ⟨rfl, rfl⟩) | (go_at_call 9; refine (start_any w.heap.size 136 31 ⟨fun _ => 0, 0, 0, 0, false⟩ _ ?_).mono ?_; (exact (new_sp w).drew); rintro e w1 ⟨rfl, hg1, hS1⟩))
  all_goals
    go_wp2
    go_ret2
    exact ⟨rfl, grown_new (grown_drew (World.grownBy_alloc w _ none)) hg1 (Nat.le_refl _), hS1⟩
end Go.Proofs.YtgpmkajocadenaaDoor
