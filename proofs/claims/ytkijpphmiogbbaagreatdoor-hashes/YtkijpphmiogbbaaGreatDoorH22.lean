import Derived.Test.YtkijpphmiogbbaaGreatDoorH21
namespace Go.Proofs.YtkijpphmiogbbaaGreatDoor
open Go.RowKit
attribute [local go_sem ↓] Go.wp_at_zero Go.wp_at_succ

/-- What a sponge holds. -/
structure Spg where
  L : Nat → Int
  rate : Nat
  en : Int
  place : Nat
  spent : Bool

structure Sp (w : World) (b : Nat) (s : Spg) : Prop where
  row : Row w b 25 s.L
  c25 : w.cell? ⟨b, 25, none⟩ = some (.int .i64 s.rate)
  c26 : w.cell? ⟨b, 26, none⟩ = some (.int .u8 s.en)
  c27 : w.cell? ⟨b, 27, none⟩ = some (.int .i64 s.place)
  c28 : w.cell? ⟨b, 28, none⟩ = some (.bool s.spent)
  fz : ∀ i, w.frozen? ⟨b, i, none⟩ = false

theorem grown_set (b i : Nat) (w : World) (v : Value) : w.grownBy (w.setCell ⟨b, i, none⟩ v) (some b) :=
  ⟨rfl, rfl, rfl, by simp, fun k _ hr => Below.heap_setCell _ _ _ _ (fun e => hr (by simp [e]))⟩
theorem grown_drew {w w' : World} {r : Option Nat} (h : w.grownBy w' r) : w.grownBy w'.drew r := ⟨h.os, h.tape, h.output, h.size, h.block⟩

def turnS (s : Spg) : Spg := { s with L := permF s.L, place := 0 }
def mixS (s : Spg) (n : Nat) (c : Int) : Spg := { s with L := upd s.L (n / 8) (mixI (s.L (n / 8)) c n) }
theorem Sp.mix {w : World} {b : Nat} {s : Spg} (h : Sp w b s) (n : Nat) (hn : n < 200) (c : Int) : Sp (w.setCell ⟨b, n / 8, none⟩ (.int .u64 (mixI (s.L (n / 8)) c n))).drew b (mixS s n c) := by
  refine ⟨(h.row.set (by omega) _).drew, ?_, ?_, ?_, ?_, fun i => ?_⟩
  · rw [World.cell?_drew, cell_other _ _ _ _ (Or.inr (show 25 ≠ n / 8 by omega))]; exact h.c25
  · rw [World.cell?_drew, cell_other _ _ _ _ (Or.inr (show 26 ≠ n / 8 by omega))]; exact h.c26
  · rw [World.cell?_drew, cell_other _ _ _ _ (Or.inr (show 27 ≠ n / 8 by omega))]; exact h.c27
  · rw [World.cell?_drew, cell_other _ _ _ _ (Or.inr (show 28 ≠ n / 8 by omega))]; exact h.c28
  · show (w.setCell _ _).frozen? _ = false
    rw [frozen_set]; exact h.fz i
theorem Sp.place {w : World} {b : Nat} {s : Spg} (h : Sp w b s) (p : Nat) : Sp (w.setCell ⟨b, 27, none⟩ (.int .i64 p)) b { s with place := p } := by
  refine ⟨h.row.set_past (by omega) _, ?_, ?_, ?_, ?_, fun i => ?_⟩
  · rw [cell_other _ _ _ _ (Or.inr (by simp))]; exact h.c25
  · rw [cell_other _ _ _ _ (Or.inr (by simp))]; exact h.c26
  · rw [cell_same h.c27]
  · rw [cell_other _ _ _ _ (Or.inr (by simp))]; exact h.c28
  · rw [frozen_set]; exact h.fz i
theorem Sp.spentSet {w : World} {b : Nat} {s : Spg} (h : Sp w b s) (p : Bool) : Sp (w.setCell ⟨b, 28, none⟩ (.bool p)) b { s with spent := p } := by
  refine ⟨h.row.set_past (by omega) _, ?_, ?_, ?_, ?_, fun i => ?_⟩
  · rw [cell_other _ _ _ _ (Or.inr (by simp))]; exact h.c25
  · rw [cell_other _ _ _ _ (Or.inr (by simp))]; exact h.c26
  · rw [cell_other _ _ _ _ (Or.inr (by simp))]; exact h.c27
  · rw [cell_same h.c28]
  · rw [frozen_set]; exact h.fz i
theorem Sp.drew {w : World} {b : Nat} {s : Spg} (h : Sp w b s) : Sp w.drew b s := ⟨h.row, h.c25, h.c26, h.c27, h.c28, h.fz⟩
theorem Sp.drewN {w : World} {b : Nat} {s : Spg} (h : Sp w b s) (n : Nat) : Sp (w.drewN n) b s := ⟨h.row, h.c25, h.c26, h.c27, h.c28, h.fz⟩
theorem Sp.lt {w : World} {b : Nat} {s : Spg} (h : Sp w b s) : b < w.heap.size := h.row.lt (by omega)
theorem Sp.far {w w' : World} {b c : Nat} {s : Spg} (h : Sp w b s) (hg : w.grownBy w' (some c)) (hne : b ≠ c) : Sp w' b s := by
  have hne' : some b ≠ some c := by simpa using hne
  refine ⟨fun i hi => ⟨hg.cell (h.row i hi).1 hne', ?_⟩, hg.cell h.c25 hne', hg.cell h.c26 hne', hg.cell h.c27 hne', hg.cell h.c28 hne', fun i => ?_⟩
  · rw [hg.frozen_far ⟨b, i, none⟩ h.lt hne']; exact (h.row i hi).2
  · rw [hg.frozen_far ⟨b, i, none⟩ h.lt hne']; exact h.fz i
theorem Sp.alloc {w : World} {b : Nat} {s : Spg} (h : Sp w b s) (o : Obj) : Sp (w.alloc o) b s :=
  h.far (World.grownBy_alloc w o (some (b + 1))) (by omega)

set_option maxHeartbeats 400000 in
theorem turn_any (b : Nat) (hb4 : 4 ≤ b) (s : Spg) (w : World) (hS : Sp w b s) (hG : Globs w) :
    Calls Tryz.prog 187 #[.pointer (some ⟨b, 0, none⟩)] w fun e w' => e = .returned (.tuple #[]) ∧ w.grownBy w' (some b) ∧ Sp w' b (turnS s) := by
  go_enter Tryz.func187, Tryz.ntmps187
  go_wp2_with fail
  refine (permute_any b hb4 s.L _ hS.row hG).mono ?_
  rintro e w1 ⟨rfl, hK, hR⟩
  have hS1 : Sp w1 b { s with L := permF s.L } := ⟨hR, (hK.rest 25 (by omega)).trans hS.c25, (hK.rest 26 (by omega)).trans hS.c26, (hK.rest 27 (by omega)).trans hS.c27, (hK.rest 28 (by omega)).trans hS.c28, fun i => (hK.fz i).trans (hS.fz i)⟩
  have c27 := hS1.c27
  have f27 := hS1.fz 27
  go_wp2
  go_end0
  exact ⟨rfl, grownBy_trans hK.g (grown_set b 27 w1 _), hS1.place 0⟩

theorem mix_sp (b n : Nat) (c : Int) (s : Spg) (w : World) (hn : n < 200) (hS : Sp w b s) :
    Calls Tryz.prog 186 #[.pointer (some ⟨b, 0, none⟩), .int .i64 n, .int .u8 c] w fun e w' => e = .returned (.tuple #[]) ∧ w.grownBy w' (some b) ∧ Sp w' b (mixS s n c) := by
  refine (mix_any b n (n / 8) c (s.L (n / 8)) w hn (by omega) (hS.row _ (by omega)).1 (hS.row _ (by omega)).2).mono ?_
  rintro e w' ⟨rfl, rfl⟩
  exact ⟨rfl, grown_drew (grown_set _ _ _ _), hS.mix n hn c⟩

def finishS (s : Spg) : Spg := { turnS (mixS (mixS s s.place s.en) (s.rate - 1) 128) with spent := true }
set_option maxHeartbeats 1000000 in
theorem finish_any (b : Nat) (hb4 : 4 ≤ b) (s : Spg) (w : World) (hS : Sp w b s) (hG : Globs w) (hr0 : 0 < s.rate) (hr : s.rate ≤ 200) (hp : s.place < s.rate) :
    Calls Tryz.prog 273 #[.pointer (some ⟨b, 0, none⟩)] w fun e w' => e = .returned (.tuple #[]) ∧ w.grownBy w' (some b) ∧ Sp w' b (finishS s) := by
  have c26 := hS.c26
  have c27 := hS.c27
  go_enter Tryz.func273, Tryz.ntmps273
  go_wp2_with fail
  go_region_with (first | (go_at_call 186; refine (mix_sp b s.place s.en s _ (by omega) ?_).mono ?_; (exact hS.drew); rintro e w1 ⟨rfl, hg1, hS1⟩))
  all_goals
    clear c26 c27
    have c25 : w1.cell? ⟨b, 25, none⟩ = some (.int .i64 ((s.rate - 1 : Nat) + 1 : Int)) := by rw [hS1.c25]; congr 2; show ((s.rate : Nat) : Int) = _; omega
    generalize hr1 : s.rate - 1 = r at *
    have b0 : (0 : Int) ≤ (r : Int) := by omega
    have b1 : (r : Int) < 200 := by omega
    go_wp2_with fail
    refine (mix_sp b r 128 _ _ (by omega) hS1).mono ?_
    rintro e w2 ⟨rfl, hg2, hS2⟩
    go_wp2_with fail
    refine (turn_any b hb4 _ _ hS2 ((((hG.grown (b := b) (grown_drew (World.grownBy.refl w _)) hb4).grown hg1 hb4)).grown hg2 hb4)).mono ?_
    rintro e w3 ⟨rfl, hg3, hS3⟩
    have c28 := hS3.c28
    have f28 := hS3.fz 28
    go_wp2
    go_end0
    refine ⟨rfl, grownBy_trans (grownBy_trans (grownBy_trans (grown_drew (World.grownBy.refl w _)) hg1) (grownBy_trans hg2 hg3)) (grown_set b 28 w3 _), ?_⟩
    unfold finishS
    rw [hr1]
    exact hS3.spentSet true

def absorb1 (s : Spg) (c : Int) : Spg := if s.place + 1 = s.rate then turnS (mixS s s.place c) else { mixS s s.place c with place := s.place + 1 }
def absorbS (s : Spg) (l : List UInt8) : Spg := l.foldl (fun s c => absorb1 s (c.toNat : Int)) s
theorem absorbS_append (s : Spg) (l m : List UInt8) : absorbS s (l ++ m) = absorbS (absorbS s l) m := List.foldl_append
/-- A sponge that takes. -/
structure Takes (s : Spg) : Prop where
  r0 : 0 < s.rate
  r1 : s.rate ≤ 200
  p : s.place < s.rate
theorem absorb1_takes {s : Spg} (h : Takes s) (c : Int) : Takes (absorb1 s c) ∧ (absorb1 s c).rate = s.rate ∧ (absorb1 s c).en = s.en ∧ (absorb1 s c).spent = s.spent := by
  have := h.p
  unfold absorb1
  by_cases e : s.place + 1 = s.rate
  · rw [if_pos e]; exact ⟨⟨h.r0, h.r1, h.r0⟩, rfl, rfl, rfl⟩
  · rw [if_neg e]; exact ⟨⟨h.r0, h.r1, show s.place + 1 < s.rate by omega⟩, rfl, rfl, rfl⟩
theorem absorbS_takes (l : List UInt8) : ∀ {s : Spg}, Takes s → Takes (absorbS s l) ∧ (absorbS s l).rate = s.rate ∧ (absorbS s l).en = s.en ∧ (absorbS s l).spent = s.spent := by
  induction l with
  | nil => intro s h; exact ⟨h, rfl, rfl, rfl⟩
  | cons c l ih =>
    intro s h
    have h1 := absorb1_takes h (c.toNat : Int)
    have h2 := ih h1.1
    exact ⟨h2.1, h2.2.1.trans h1.2.1, h2.2.2.1.trans h1.2.2.1, h2.2.2.2.trans h1.2.2.2⟩
theorem take_snoc (s : ByteArray) (k : Nat) (h : k < s.size) : s.data.toList.take (k + 1) = s.data.toList.take k ++ [s[k]] := by
  rw [List.take_succ_eq_append_getElem (by simpa using h)]; rfl
theorem absorbS_snoc (s : Spg) (t : ByteArray) (k : Nat) (h : k < t.size) : absorbS s (t.data.toList.take (k + 1)) = absorb1 (absorbS s (t.data.toList.take k)) (t[k].toNat : Int) := by
  rw [take_snoc t k h, absorbS_append]; rfl

set_option maxHeartbeats 1000000 in
theorem spAbsorb_any (b : Nat) (hb4 : 4 ≤ b) (t : ByteArray) (ht : t.size ≤ maxLen) (s : Spg) (hs : Takes s) (w : World) (hS : Sp w b s) (hG : Globs w) :
    Calls Tryz.prog 101 #[.pointer (some ⟨b, 0, none⟩), .string t] w fun e w' => e = .returned (.tuple #[]) ∧ w.grownBy w' (some b) ∧ Sp w' b (absorbS s t.data.toList) := by
  unfold maxLen at ht
  go_enter Tryz.func101, Tryz.ntmps101
  go_wp2
  go_loopw [4] (fun i wr => ∃ k : Nat, k ≤ t.size ∧ i = .int .i64 k ∧ w.grownBy wr (some b) ∧ Sp wr b (absorbS s (t.data.toList.take k))) (fun i _ => t.size - (intOf i).toNat)
  case atStart => exact ⟨0, by omega, rfl, World.grownBy.refl w _, by simpa [absorbS] using hS⟩
  case round =>
    obtain ⟨k, hk, rfl, hg, hS0⟩ := hrel
    by_cases hlt : k < t.size
    · have hT := (absorbS_takes (t.data.toList.take k) hs).1
      have HN : Hid (absorbS s (t.data.toList.take (k + 1)) = absorb1 (absorbS s (t.data.toList.take k)) (t[k].toNat : Int)) := absorbS_snoc s t k hlt
      generalize absorbS s (t.data.toList.take k) = s1 at *
      have hGr := hG.grown hg hb4
      have c27 := hS0.c27
      have hp := hT.p
      have hr := hT.r1
      go_wp2_with fail
      go_region_with (first | (go_at_call 186; refine (mix_sp b s1.place _ s1 _ (by omega) ?_).mono ?_; (exact hS0.drew); rintro e w1 ⟨rfl, hg1, hS1⟩))
      all_goals
        clear c27
        have c27 := hS1.c27
        have c25 := hS1.c25
        have f27 := hS1.fz 27
        have hGr1 := (hGr.grown (b := b) (grown_drew (World.grownBy.refl wr _)) hb4).grown hg1 hb4
        have hg01 := grownBy_trans (grownBy_trans hg (grown_drew (World.grownBy.refl wr _))) hg1
        have hSp := hS1.place (s1.place + 1)
        rw [show ((s1.place + 1 : Nat) : Int) = (s1.place : Int) + 1 by omega] at hSp
        clear hg hg1 hGr hS0 hS1
        change w1.cell? ⟨b, 27, none⟩ = some (.int .i64 (s1.place : Int)) at c27
        change w1.cell? ⟨b, 25, none⟩ = some (.int .i64 (s1.rate : Int)) at c25
        by_cases e : s1.place + 1 = s1.rate
        · have e1 : (((s1.place : Int) + 1) == (s1.rate : Int)) = true := by simp; omega
          have HE : Hid (s1.place + 1 = s1.rate) := e
          clear e
          go_wp2
          go_region
          go_wp2_with fail
          refine (turn_any b hb4 _ _ hSp.drew ((hGr1.grown (grown_set b 27 w1 _) hb4).grown (grown_drew (World.grownBy.refl _ _)) hb4)).mono ?_
          rintro e w2 ⟨rfl, hg2, hS2⟩
          clear c27 c25 f27 e1
          go_wp2
          go_roundw
          case rel =>
            refine ⟨k + 1, by omega, by go_num, grownBy_trans (grown_drew (grownBy_trans hg01 (grown_set b 27 w1 _))) hg2, ?_⟩
            rw [HN.out]
            unfold absorb1
            rw [if_pos HE.out]
            exact hS2
          case measure => simp [intOf]; omega
        · have e1 : (((s1.place : Int) + 1) == (s1.rate : Int)) = false := by simp; omega
          go_wp2
          go_region
          go_wp2
          go_roundw
          case rel =>
            refine ⟨k + 1, by omega, by go_num, grown_drew (grownBy_trans hg01 (grown_set b 27 w1 _)), ?_⟩
            rw [HN.out]
            unfold absorb1
            rw [if_neg e]
            exact hSp.drew
          case measure => simp [intOf]; omega
    · have hk2 : k = t.size := by omega
      subst hk2
      go_wp2
      go_end0
      refine ⟨rfl, hg, ?_⟩
      rw [List.take_of_length_le (by simp)] at hS0
      exact hS0
end Go.Proofs.YtkijpphmiogbbaaGreatDoor
