import Derived.Test.YtkijpphmiogbbaaDoorF
import Derived.Laws.MakeOwn
import Derived.Laws.BytesString
namespace Go.Proofs.YtkijpphmiogbbaaDoor
open Go.RowKit
attribute [local go_sem ↓] Go.wp_at_zero Go.wp_at_succ

/-- n bytes lie in block b, and may be written. -/
def RowB (w : World) (b n : Nat) (f : Nat → Int) : Prop := ∀ i, i < n → w.cell? ⟨b, i, none⟩ = some (.int .u8 (f i)) ∧ w.frozen? ⟨b, i, none⟩ = false
theorem RowB.set {w : World} {b n : Nat} {f : Nat → Int} (h : RowB w b n f) {i : Nat} (hi : i < n) (v : Int) : RowB (w.setCell ⟨b, i, none⟩ (.int .u8 v)) b n (upd f i v) := by
  intro j hj
  refine ⟨?_, by rw [frozen_set]; exact (h j hj).2⟩
  by_cases e : j = i
  · subst e; rw [cell_same (h j hj).1, upd_same]
  · rw [cell_other _ _ _ _ (Or.inr e), upd_ne _ _ _ _ e]; exact (h j hj).1
theorem RowB.far {w w' : World} {b c n : Nat} {f : Nat → Int} (h : RowB w b n f) (hg : w.grownBy w' (some c)) (hne : b ≠ c) : RowB w' b n f := by
  intro i hi
  have hc := cell_lt (h i hi).1
  exact ⟨hg.cell (h i hi).1 (by simpa using hne), by rw [hg.frozen_far ⟨b, i, none⟩ hc (by simpa using hne)]; exact (h i hi).2⟩
theorem RowB.ext {w : World} {b n : Nat} {L M : Nat → Int} (h : RowB w b n L) (e : ∀ i, i < n → L i = M i) : RowB w b n M := fun i hi => by rw [← e i hi]; exact h i hi
theorem RowB.drew {w : World} {b n : Nat} {f : Nat → Int} (h : RowB w b n f) : RowB w.drew b n f := h

def zer (n : Nat) : Array Value := madeCells #[.int .u8 0] n
theorem zer_at (n i : Nat) (h : i < n) : (zer n)[i]? = some (.int .u8 0) := by
  unfold zer madeCells; simp [h]
  rw [Nat.mod_one]; rfl
theorem Tryd.under46 : Tryd.prog.underlying 45 = some (.slice 5) := by kernel_rfl
theorem Tryd.info5 : (Tryd.prog.info? 5).map (fun i => (i.zero, i.size, i.bytes)) = some (some (.int .u8 0), 1, 1) := by kernel_rfl
theorem run_mk (n : Nat) (hn : n ≤ 10000) (W : World) : (Instr.makeSlice 45 (.int .i64 (n : Int)) (.int .i64 (n : Int))).run Tryd.prog W = .ok (.slice (some ⟨W.heap.size, 0, none⟩) n n) (W.alloc (.cells (zer n) 5)) := by
  obtain ⟨i0, hi, hz0, hz1, hz2⟩ := info_parts Tryd.info5
  have h := run_make (P := Tryd.prog) W 45 5 i0 (.int .u8 0) Tryd.under46 hi hz0 .i64 .i64 n n (by omega) (by omega) (by rw [hz2]; omega) (by omega)
  rw [hz1] at h
  simpa [zer, Value.cells] using h
theorem zer_row (n : Nat) (W : World) : RowB (W.alloc (.cells (zer n) 5)) W.heap.size n (fun _ => 0) := fun i hi =>
  ⟨by rw [World.cell?_alloc_new]; exact zer_at n i hi, World.frozen?_alloc_at _ _ _ _ rfl⟩

def sq1 (s : Spg) : Spg := if s.place = s.rate then turnS s else s
def byteOf (s : Spg) : Int := IntKind.u8.wrap (s.L (s.place / 8) / 2 ^ ((s.place : Int) % 8 * 8).toNat)
def sqNext (s : Spg) : Spg := { sq1 s with place := (sq1 s).place + 1 }
def sqTo (s : Spg) : Nat → Spg
  | 0 => s
  | k + 1 => sqNext (sqTo s k)
def outI (s : Spg) (k : Nat) : Int := byteOf (sq1 (sqTo s k))
/-- A sponge that gives. -/
structure Gives (s : Spg) : Prop where
  r0 : 0 < s.rate
  r1 : s.rate ≤ 200
  p : s.place ≤ s.rate
  sp : s.spent = true
theorem sq1_gives {s : Spg} (h : Gives s) : Gives (sq1 s) ∧ (sq1 s).place < (sq1 s).rate := by
  have := h.p
  have := h.r0
  unfold sq1
  by_cases e : s.place = s.rate
  · rw [if_pos e]; exact ⟨⟨h.r0, h.r1, Nat.zero_le _, h.sp⟩, h.r0⟩
  · rw [if_neg e]; exact ⟨h, by omega⟩
theorem sqNext_gives {s : Spg} (h : Gives s) : Gives (sqNext s) := by
  have h1 := sq1_gives h
  exact ⟨h1.1.r0, h1.1.r1, h1.2, h1.1.sp⟩
theorem sqTo_gives {s : Spg} (h : Gives s) : ∀ k, Gives (sqTo s k)
  | 0 => h
  | k + 1 => sqNext_gives (sqTo_gives h k)
theorem finish_gives {s : Spg} (h : Takes s) : Gives (finishS s) := ⟨h.r0, h.r1, Nat.zero_le _, rfl⟩
/-- The sponge as a Squeeze finds it, the text ended. -/
def ended (s : Spg) : Spg := if s.spent = true then s else finishS s
def outTo (R : Nat → Int) (s : Spg) (k : Nat) : Nat → Int := fun i => if i < k then outI s i else R i
theorem outTo_step (R : Nat → Int) (s : Spg) (k j : Nat) : upd (outTo R s k) k (outI s k) j = outTo R s (k + 1) j := by
  unfold upd outTo
  by_cases e : j = k
  · subst e; rw [if_pos rfl, if_pos (by omega)]
  · rw [if_neg e]
    by_cases h : j < k
    · rw [if_pos h, if_pos (by omega)]
    · rw [if_neg h, if_neg (by omega)]

set_option maxHeartbeats 1000000 in
theorem fill_spent (b H : Nat) (hb4 : 4 ≤ b) (n : Nat) (hn : n ≤ 10000) (R : Nat → Int) (s : Spg) (hs : Gives s) (w0 w : World) (hw : w0.grownBy w (some b)) (hH : w0.heap.size ≤ H) (hb : b < w0.heap.size) (hS : Sp w b s) (hZ : RowB w H n R) (hG : Globs w0) :
    Calls Tryd.prog 20 #[.pointer (some ⟨b, 0, none⟩), .slice (some ⟨H, 0, none⟩) n n] w fun e w' => e = .returned (.tuple #[]) ∧ w0.grownBy w' (some b) ∧ Sp w' b (sqTo s n) ∧ RowB w' H n (outI s) := by
  have c28 := hS.c28
  rw [hs.sp] at c28
  go_enter Tryd.func20, Tryd.ntmps20
  go_wp2
  clear c28
  go_loopw [14] (fun i wr => ∃ k : Nat, k ≤ n ∧ i = .int .i64 k ∧ w0.grownBy wr (some b) ∧ Sp wr b (sqTo s k) ∧ RowB wr H n (outTo R s k)) (fun i _ => n - (intOf i).toNat)
  case atStart => exact ⟨0, by omega, rfl, hw, hS, hZ⟩
  case round =>
    obtain ⟨k, hk, rfl, hg, hS0, hO⟩ := hrel
    by_cases hlt : k < n
    · have hV := sqTo_gives hs k
      have hGr := hG.grown hg hb4
      have HN : Hid (sqTo s (k + 1) = sqNext (sqTo s k)) := show _ = _ from rfl
      have HO : Hid (outI s k = byteOf (sq1 (sqTo s k))) := show _ = _ from rfl
      generalize sqTo s k = s1 at *
      have c27 := hS0.c27
      have c25 := hS0.c25
      have hlt' : (k : Int) < (n : Int) := by omega
      have b0 : (0 : Int) ≤ (k : Int) := by omega
      by_cases e : s1.place = s1.rate
      · have e1 : ((s1.place : Int) == (s1.rate : Int)) = true := by simp; omega
        go_wp2
        go_region
        go_wp2_with fail
        refine (turn_any b hb4 _ _ hS0.drew (hGr.grown (b := b) (grown_drew (World.grownBy.refl _ _)) hb4)).mono ?_
        rintro e w1 ⟨rfl, hg1, hS1⟩
        have hv := (sq1_gives hV).2
        have hr := (sq1_gives hV).1.r1
        have hsq : sq1 s1 = turnS s1 := by unfold sq1; rw [if_pos e]
        rw [hsq] at hv hr
        obtain ⟨s2, hs2⟩ : ∃ s2, s2 = turnS s1 := ⟨_, rfl⟩
        rw [← hs2] at hS1 hv hr hsq
        have HS : Hid (sq1 s1 = s2) := hsq
        have hS2 := hS1
        have hg2 : w0.grownBy w1 (some b) := grownBy_trans (grown_drew hg) hg1
        have hO2 : RowB w1 H n (outTo R s k) := hO.drew.far hg1 (by omega)
        clear c27 c25 e1 hS1 hg1 hg hO hS0 hsq hs2 e
        go_wp2_with fail
        obtain ⟨p, hp⟩ : ∃ p, p = s2.place := ⟨_, rfl⟩
        have hpr : p < 200 := by rw [hp]; omega
        obtain ⟨q, hq⟩ : ∃ q, q = p / 8 := ⟨_, rfl⟩
        have d27 : w1.cell? ⟨b, 27, none⟩ = some (.int .i64 (p : Int)) := by rw [hp]; exact hS2.c27
        have df : w1.frozen? ⟨b, 27, none⟩ = false := hS2.fz 27
        have dl : w1.cell? ⟨b, q, none⟩ = some (.int .u64 (s2.L q)) := (hS2.row q (by omega)).1
        have o0 := (hO2 k hlt).1
        have o1 := (hO2 k hlt).2
        have hq1 : (p : Int) / 8 = (q : Int) := by omega
        have hq2 : (p : Int).tdiv 8 = (q : Int) := by rw [Int.tdiv_eq_ediv_of_nonneg (by omega)]; exact hq1
        have hq3 : IntKind.i64.wrap (q : Int) = q := by rw [IntKind.wrap_i64] <;> omega
        have q0 : (0 : Int) ≤ (q : Int) := by omega
        have q1 : (q : Int) < 25 := by omega
        have hne : ¬ H = b := by omega
        have hne' : ¬ b = H := by omega
        have HP : Hid (p = s2.place) := hp
        have HQ : Hid (q = p / 8) := hq
        have p0 : (0 : Int) ≤ (p : Int) := by omega
        have p1 : (p : Int) < 200 := by omega
        clear hp hq
        go_region_held3 (fun w' => w'.cell? ⟨b, 27, none⟩ = some (.int .i64 (p : Int)) ∧ w'.cell? ⟨b, q, none⟩ = some (.int .u64 (s2.L q))) (go_keep) (first | (go_at_call 25; refine (shift_any _ _ (by omega) (by omega)).mono ?_; rintro e w' ⟨rfl, rfl⟩))
        have hby : IntKind.u8.wrap (s2.L q / 2 ^ ((p : Int) % 8 * 8).toNat) = outI s k := by rw [HO.out, HS.out]; unfold byteOf; rw [← HP.out, ← HQ.out]
        rw [hby]
        obtain ⟨W3, hW⟩ : ∃ W3, W3 = (w1.setCell ⟨H, k, none⟩ (.int .u8 (outI s k))).drew := ⟨_, rfl⟩
        rw [← hW]
        have g3 : w1.grownBy W3 (some H) := by rw [hW]; exact grown_drew (grown_set _ _ _ _)
        have hO3 := (hO2.set hlt (outI s k)).drew
        rw [← hW] at hO3
        have hS3 := hS2.far g3 hne'
        have hg3 : w0.grownBy W3 (some b) := by
          refine ⟨g3.os.trans hg2.os, g3.tape.trans hg2.tape, g3.output.trans hg2.output, Nat.le_trans hg2.size g3.size, fun i hi hr => (g3.block i (Nat.lt_of_lt_of_le hi hg2.size) (by simp; omega)).trans (hg2.block i hi hr)⟩
        have e27 : W3.cell? ⟨b, 27, none⟩ = some (.int .i64 (p : Int)) := by rw [HP.out]; exact hS3.c27
        have f27 := hS3.fz 27
        have hSp := hS3.place (p + 1)
        rw [show ((p + 1 : Nat) : Int) = (p : Int) + 1 by omega] at hSp
        clear hW hby d27 df dl o0 o1 hq1 hq2 hq3
        go_wp2
        go_roundw
        case rel =>
          refine ⟨k + 1, by omega, by go_num, grownBy_trans hg3 (grown_set b 27 W3 _), ?_, (hO3.far (grown_set b 27 W3 _) hne).ext (fun i _ => outTo_step R s k i)⟩
          rw [HN.out]
          have e9 : sqNext s1 = { s2 with place := p + 1 } := by unfold sqNext; rw [HS.out, HP.out]
          rw [e9]
          exact hSp
        case measure => simp [intOf]; omega
      · have e1 : ((s1.place : Int) == (s1.rate : Int)) = false := by simp; omega
        go_wp2
        go_region
        go_wp2_with fail
        have hv := (sq1_gives hV).2
        have hr := (sq1_gives hV).1.r1
        have hsq : sq1 s1 = s1 := by unfold sq1; rw [if_neg e]
        rw [hsq] at hv hr
        obtain ⟨w1, hw1⟩ : ∃ w1, w1 = wr.drew := ⟨_, rfl⟩
        rw [← hw1]
        obtain ⟨s2, hs2⟩ : ∃ s2, s2 = s1 := ⟨_, rfl⟩
        have HS : Hid (sq1 s1 = s2) := by rw [hs2]; exact hsq
        have hS2 : Sp w1 b s2 := by rw [hw1, hs2]; exact hS0.drew
        have hg2 : w0.grownBy w1 (some b) := by rw [hw1]; exact grown_drew hg
        have hO2 : RowB w1 H n (outTo R s k) := by rw [hw1]; exact hO.drew
        rw [← hs2] at hv hr
        clear c27 c25 e1 hg hO hS0 hsq hs2 e hw1
        obtain ⟨p, hp⟩ : ∃ p, p = s2.place := ⟨_, rfl⟩
        have hpr : p < 200 := by rw [hp]; omega
        obtain ⟨q, hq⟩ : ∃ q, q = p / 8 := ⟨_, rfl⟩
        have d27 : w1.cell? ⟨b, 27, none⟩ = some (.int .i64 (p : Int)) := by rw [hp]; exact hS2.c27
        have df : w1.frozen? ⟨b, 27, none⟩ = false := hS2.fz 27
        have dl : w1.cell? ⟨b, q, none⟩ = some (.int .u64 (s2.L q)) := (hS2.row q (by omega)).1
        have o0 := (hO2 k hlt).1
        have o1 := (hO2 k hlt).2
        have hq1 : (p : Int) / 8 = (q : Int) := by omega
        have hq2 : (p : Int).tdiv 8 = (q : Int) := by rw [Int.tdiv_eq_ediv_of_nonneg (by omega)]; exact hq1
        have hq3 : IntKind.i64.wrap (q : Int) = q := by rw [IntKind.wrap_i64] <;> omega
        have q0 : (0 : Int) ≤ (q : Int) := by omega
        have q1 : (q : Int) < 25 := by omega
        have hne : ¬ H = b := by omega
        have hne' : ¬ b = H := by omega
        have HP : Hid (p = s2.place) := hp
        have HQ : Hid (q = p / 8) := hq
        have p0 : (0 : Int) ≤ (p : Int) := by omega
        have p1 : (p : Int) < 200 := by omega
        clear hp hq
        go_region_held3 (fun w' => w'.cell? ⟨b, 27, none⟩ = some (.int .i64 (p : Int)) ∧ w'.cell? ⟨b, q, none⟩ = some (.int .u64 (s2.L q))) (go_keep) (first | (go_at_call 25; refine (shift_any _ _ (by omega) (by omega)).mono ?_; rintro e w' ⟨rfl, rfl⟩))
        have hby : IntKind.u8.wrap (s2.L q / 2 ^ ((p : Int) % 8 * 8).toNat) = outI s k := by rw [HO.out, HS.out]; unfold byteOf; rw [← HP.out, ← HQ.out]
        rw [hby]
        obtain ⟨W3, hW⟩ : ∃ W3, W3 = (w1.setCell ⟨H, k, none⟩ (.int .u8 (outI s k))).drew := ⟨_, rfl⟩
        rw [← hW]
        have g3 : w1.grownBy W3 (some H) := by rw [hW]; exact grown_drew (grown_set _ _ _ _)
        have hO3 := (hO2.set hlt (outI s k)).drew
        rw [← hW] at hO3
        have hS3 := hS2.far g3 hne'
        have hg3 : w0.grownBy W3 (some b) := by
          refine ⟨g3.os.trans hg2.os, g3.tape.trans hg2.tape, g3.output.trans hg2.output, Nat.le_trans hg2.size g3.size, fun i hi hr => (g3.block i (Nat.lt_of_lt_of_le hi hg2.size) (by simp; omega)).trans (hg2.block i hi hr)⟩
        have e27 : W3.cell? ⟨b, 27, none⟩ = some (.int .i64 (p : Int)) := by rw [HP.out]; exact hS3.c27
        have f27 := hS3.fz 27
        have hSp := hS3.place (p + 1)
        rw [show ((p + 1 : Nat) : Int) = (p : Int) + 1 by omega] at hSp
        clear hW hby d27 df dl o0 o1 hq1 hq2 hq3
        go_wp2
        go_roundw
        case rel =>
          refine ⟨k + 1, by omega, by go_num, grownBy_trans hg3 (grown_set b 27 W3 _), ?_, (hO3.far (grown_set b 27 W3 _) hne).ext (fun i _ => outTo_step R s k i)⟩
          rw [HN.out]
          have e9 : sqNext s1 = { s2 with place := p + 1 } := by unfold sqNext; rw [HS.out, HP.out]
          rw [e9]
          exact hSp
        case measure => simp [intOf]; omega
    · have hkn : k = n := by omega
      subst hkn
      go_wp2
      go_end0
      exact ⟨rfl, hg, hS0, hO.ext (fun i hi => if_pos hi)⟩

set_option maxHeartbeats 1000000 in
theorem fill_fresh (b H : Nat) (hb4 : 4 ≤ b) (n : Nat) (hn : n ≤ 10000) (R : Nat → Int) (sP : Spg) (hsP : Takes sP) (hspP : sP.spent = false) (w0 w : World) (hw : w0.grownBy w (some b)) (hH : w0.heap.size ≤ H) (hb : b < w0.heap.size) (hSP : Sp w b sP) (hZ : RowB w H n R) (hG : Globs w0) :
    Calls Tryd.prog 20 #[.pointer (some ⟨b, 0, none⟩), .slice (some ⟨H, 0, none⟩) n n] w fun e w' => e = .returned (.tuple #[]) ∧ w0.grownBy w' (some b) ∧ Sp w' b (sqTo (finishS sP) n) ∧ RowB w' H n (outI (finishS sP)) := by
  have c28 := hSP.c28
  rw [hspP] at c28
  go_enter Tryd.func20, Tryd.ntmps20
  go_wp2_with fail
  refine (finish_any b hb4 sP _ hSP (hG.grown hw hb4) hsP.r0 hsP.r1 hsP.p).mono ?_
  rintro e wA ⟨rfl, hgA, hSA⟩
  have hs := finish_gives hsP
  have hwA := grownBy_trans hw hgA
  have hZA : RowB wA H n R := hZ.far hgA (by omega)
  obtain ⟨s, hs0⟩ : ∃ s0, s0 = finishS sP := ⟨_, rfl⟩
  rw [← hs0] at hSA hs
  have HF : Hid (s = finishS sP) := hs0
  clear c28 hSP hs0 hw hgA hZ
  go_wp2
  go_loopw [14] (fun i wr => ∃ k : Nat, k ≤ n ∧ i = .int .i64 k ∧ w0.grownBy wr (some b) ∧ Sp wr b (sqTo s k) ∧ RowB wr H n (outTo R s k)) (fun i _ => n - (intOf i).toNat)
  case atStart => exact ⟨0, by omega, rfl, hwA, hSA, hZA⟩
  case round =>
    obtain ⟨k, hk, rfl, hg, hS0, hO⟩ := hrel
    by_cases hlt : k < n
    · have hV := sqTo_gives hs k
      have hGr := hG.grown hg hb4
      have HN : Hid (sqTo s (k + 1) = sqNext (sqTo s k)) := show _ = _ from rfl
      have HO : Hid (outI s k = byteOf (sq1 (sqTo s k))) := show _ = _ from rfl
      generalize sqTo s k = s1 at *
      have c27 := hS0.c27
      have c25 := hS0.c25
      have hlt' : (k : Int) < (n : Int) := by omega
      have b0 : (0 : Int) ≤ (k : Int) := by omega
      by_cases e : s1.place = s1.rate
      · have e1 : ((s1.place : Int) == (s1.rate : Int)) = true := by simp; omega
        go_wp2
        go_region
        go_wp2_with fail
        refine (turn_any b hb4 _ _ hS0.drew (hGr.grown (b := b) (grown_drew (World.grownBy.refl _ _)) hb4)).mono ?_
        rintro e w1 ⟨rfl, hg1, hS1⟩
        have hv := (sq1_gives hV).2
        have hr := (sq1_gives hV).1.r1
        have hsq : sq1 s1 = turnS s1 := by unfold sq1; rw [if_pos e]
        rw [hsq] at hv hr
        obtain ⟨s2, hs2⟩ : ∃ s2, s2 = turnS s1 := ⟨_, rfl⟩
        rw [← hs2] at hS1 hv hr hsq
        have HS : Hid (sq1 s1 = s2) := hsq
        have hS2 := hS1
        have hg2 : w0.grownBy w1 (some b) := grownBy_trans (grown_drew hg) hg1
        have hO2 : RowB w1 H n (outTo R s k) := hO.drew.far hg1 (by omega)
        clear c27 c25 e1 hS1 hg1 hg hO hS0 hsq hs2 e
        go_wp2_with fail
        obtain ⟨p, hp⟩ : ∃ p, p = s2.place := ⟨_, rfl⟩
        have hpr : p < 200 := by rw [hp]; omega
        obtain ⟨q, hq⟩ : ∃ q, q = p / 8 := ⟨_, rfl⟩
        have d27 : w1.cell? ⟨b, 27, none⟩ = some (.int .i64 (p : Int)) := by rw [hp]; exact hS2.c27
        have df : w1.frozen? ⟨b, 27, none⟩ = false := hS2.fz 27
        have dl : w1.cell? ⟨b, q, none⟩ = some (.int .u64 (s2.L q)) := (hS2.row q (by omega)).1
        have o0 := (hO2 k hlt).1
        have o1 := (hO2 k hlt).2
        have hq1 : (p : Int) / 8 = (q : Int) := by omega
        have hq2 : (p : Int).tdiv 8 = (q : Int) := by rw [Int.tdiv_eq_ediv_of_nonneg (by omega)]; exact hq1
        have hq3 : IntKind.i64.wrap (q : Int) = q := by rw [IntKind.wrap_i64] <;> omega
        have q0 : (0 : Int) ≤ (q : Int) := by omega
        have q1 : (q : Int) < 25 := by omega
        have hne : ¬ H = b := by omega
        have hne' : ¬ b = H := by omega
        have HP : Hid (p = s2.place) := hp
        have HQ : Hid (q = p / 8) := hq
        have p0 : (0 : Int) ≤ (p : Int) := by omega
        have p1 : (p : Int) < 200 := by omega
        clear hp hq
        go_region_held3 (fun w' => w'.cell? ⟨b, 27, none⟩ = some (.int .i64 (p : Int)) ∧ w'.cell? ⟨b, q, none⟩ = some (.int .u64 (s2.L q))) (go_keep) (first | (go_at_call 25; refine (shift_any _ _ (by omega) (by omega)).mono ?_; rintro e w' ⟨rfl, rfl⟩))
        have hby : IntKind.u8.wrap (s2.L q / 2 ^ ((p : Int) % 8 * 8).toNat) = outI s k := by rw [HO.out, HS.out]; unfold byteOf; rw [← HP.out, ← HQ.out]
        rw [hby]
        obtain ⟨W3, hW⟩ : ∃ W3, W3 = (w1.setCell ⟨H, k, none⟩ (.int .u8 (outI s k))).drew := ⟨_, rfl⟩
        rw [← hW]
        have g3 : w1.grownBy W3 (some H) := by rw [hW]; exact grown_drew (grown_set _ _ _ _)
        have hO3 := (hO2.set hlt (outI s k)).drew
        rw [← hW] at hO3
        have hS3 := hS2.far g3 hne'
        have hg3 : w0.grownBy W3 (some b) := by
          refine ⟨g3.os.trans hg2.os, g3.tape.trans hg2.tape, g3.output.trans hg2.output, Nat.le_trans hg2.size g3.size, fun i hi hr => (g3.block i (Nat.lt_of_lt_of_le hi hg2.size) (by simp; omega)).trans (hg2.block i hi hr)⟩
        have e27 : W3.cell? ⟨b, 27, none⟩ = some (.int .i64 (p : Int)) := by rw [HP.out]; exact hS3.c27
        have f27 := hS3.fz 27
        have hSp := hS3.place (p + 1)
        rw [show ((p + 1 : Nat) : Int) = (p : Int) + 1 by omega] at hSp
        clear hW hby d27 df dl o0 o1 hq1 hq2 hq3
        go_wp2
        go_roundw
        case rel =>
          refine ⟨k + 1, by omega, by go_num, grownBy_trans hg3 (grown_set b 27 W3 _), ?_, (hO3.far (grown_set b 27 W3 _) hne).ext (fun i _ => outTo_step R s k i)⟩
          rw [HN.out]
          have e9 : sqNext s1 = { s2 with place := p + 1 } := by unfold sqNext; rw [HS.out, HP.out]
          rw [e9]
          exact hSp
        case measure => simp [intOf]; omega
      · have e1 : ((s1.place : Int) == (s1.rate : Int)) = false := by simp; omega
        go_wp2
        go_region
        go_wp2_with fail
        have hv := (sq1_gives hV).2
        have hr := (sq1_gives hV).1.r1
        have hsq : sq1 s1 = s1 := by unfold sq1; rw [if_neg e]
        rw [hsq] at hv hr
        obtain ⟨w1, hw1⟩ : ∃ w1, w1 = wr.drew := ⟨_, rfl⟩
        rw [← hw1]
        obtain ⟨s2, hs2⟩ : ∃ s2, s2 = s1 := ⟨_, rfl⟩
        have HS : Hid (sq1 s1 = s2) := by rw [hs2]; exact hsq
        have hS2 : Sp w1 b s2 := by rw [hw1, hs2]; exact hS0.drew
        have hg2 : w0.grownBy w1 (some b) := by rw [hw1]; exact grown_drew hg
        have hO2 : RowB w1 H n (outTo R s k) := by rw [hw1]; exact hO.drew
        rw [← hs2] at hv hr
        clear c27 c25 e1 hg hO hS0 hsq hs2 e hw1
        obtain ⟨p, hp⟩ : ∃ p, p = s2.place := ⟨_, rfl⟩
        have hpr : p < 200 := by rw [hp]; omega
        obtain ⟨q, hq⟩ : ∃ q, q = p / 8 := ⟨_, rfl⟩
        have d27 : w1.cell? ⟨b, 27, none⟩ = some (.int .i64 (p : Int)) := by rw [hp]; exact hS2.c27
        have df : w1.frozen? ⟨b, 27, none⟩ = false := hS2.fz 27
        have dl : w1.cell? ⟨b, q, none⟩ = some (.int .u64 (s2.L q)) := (hS2.row q (by omega)).1
        have o0 := (hO2 k hlt).1
        have o1 := (hO2 k hlt).2
        have hq1 : (p : Int) / 8 = (q : Int) := by omega
        have hq2 : (p : Int).tdiv 8 = (q : Int) := by rw [Int.tdiv_eq_ediv_of_nonneg (by omega)]; exact hq1
        have hq3 : IntKind.i64.wrap (q : Int) = q := by rw [IntKind.wrap_i64] <;> omega
        have q0 : (0 : Int) ≤ (q : Int) := by omega
        have q1 : (q : Int) < 25 := by omega
        have hne : ¬ H = b := by omega
        have hne' : ¬ b = H := by omega
        have HP : Hid (p = s2.place) := hp
        have HQ : Hid (q = p / 8) := hq
        have p0 : (0 : Int) ≤ (p : Int) := by omega
        have p1 : (p : Int) < 200 := by omega
        clear hp hq
        go_region_held3 (fun w' => w'.cell? ⟨b, 27, none⟩ = some (.int .i64 (p : Int)) ∧ w'.cell? ⟨b, q, none⟩ = some (.int .u64 (s2.L q))) (go_keep) (first | (go_at_call 25; refine (shift_any _ _ (by omega) (by omega)).mono ?_; rintro e w' ⟨rfl, rfl⟩))
        have hby : IntKind.u8.wrap (s2.L q / 2 ^ ((p : Int) % 8 * 8).toNat) = outI s k := by rw [HO.out, HS.out]; unfold byteOf; rw [← HP.out, ← HQ.out]
        rw [hby]
        obtain ⟨W3, hW⟩ : ∃ W3, W3 = (w1.setCell ⟨H, k, none⟩ (.int .u8 (outI s k))).drew := ⟨_, rfl⟩
        rw [← hW]
        have g3 : w1.grownBy W3 (some H) := by rw [hW]; exact grown_drew (grown_set _ _ _ _)
        have hO3 := (hO2.set hlt (outI s k)).drew
        rw [← hW] at hO3
        have hS3 := hS2.far g3 hne'
        have hg3 : w0.grownBy W3 (some b) := by
          refine ⟨g3.os.trans hg2.os, g3.tape.trans hg2.tape, g3.output.trans hg2.output, Nat.le_trans hg2.size g3.size, fun i hi hr => (g3.block i (Nat.lt_of_lt_of_le hi hg2.size) (by simp; omega)).trans (hg2.block i hi hr)⟩
        have e27 : W3.cell? ⟨b, 27, none⟩ = some (.int .i64 (p : Int)) := by rw [HP.out]; exact hS3.c27
        have f27 := hS3.fz 27
        have hSp := hS3.place (p + 1)
        rw [show ((p + 1 : Nat) : Int) = (p : Int) + 1 by omega] at hSp
        clear hW hby d27 df dl o0 o1 hq1 hq2 hq3
        go_wp2
        go_roundw
        case rel =>
          refine ⟨k + 1, by omega, by go_num, grownBy_trans hg3 (grown_set b 27 W3 _), ?_, (hO3.far (grown_set b 27 W3 _) hne).ext (fun i _ => outTo_step R s k i)⟩
          rw [HN.out]
          have e9 : sqNext s1 = { s2 with place := p + 1 } := by unfold sqNext; rw [HS.out, HP.out]
          rw [e9]
          exact hSp
        case measure => simp [intOf]; omega
    · have hkn : k = n := by omega
      subst hkn
      go_wp2
      go_end0
      rw [← HF.out]
      exact ⟨rfl, hg, hS0, hO.ext (fun i hi => if_pos hi)⟩

set_option maxHeartbeats 400000 in
theorem spSqueeze_spent (b : Nat) (hb4 : 4 ≤ b) (n : Nat) (hn : n ≤ 10000) (s : Spg) (hs : Gives s) (w : World) (hS : Sp w b s) (hG : Globs w) :
    Calls Tryd.prog 13 #[.pointer (some ⟨b, 0, none⟩), .int .i64 n] w fun e w' => ∃ H, w.heap.size ≤ H ∧ e = .returned (.slice (some ⟨H, 0, none⟩) n n) ∧ w.grownBy w' (some b) ∧ Sp w' b (sqTo s n) ∧ RowB w' H n (outI s) := by
  have hmk := run_mk n hn
  have hb := hS.lt
  go_enter Tryd.func13, Tryd.ntmps13
  go_wp2_with fail
  refine (fill_spent b w.heap.size hb4 n hn _ s hs w _ (World.grownBy_alloc _ _ _) (Nat.le_refl _) hb (hS.alloc _) (zer_row n w) hG).mono ?_
  rintro e w' ⟨rfl, hg1, hS1, hO1⟩
  clear hS hG hmk
  go_wp2
  go_ret
  exact ⟨w.heap.size, Nat.le_refl _, rfl, hg1, hS1, hO1⟩
set_option maxHeartbeats 400000 in
theorem spSqueeze_fresh (b : Nat) (hb4 : 4 ≤ b) (n : Nat) (hn : n ≤ 10000) (s : Spg) (hs : Takes s) (hsp : s.spent = false) (w : World) (hS : Sp w b s) (hG : Globs w) :
    Calls Tryd.prog 13 #[.pointer (some ⟨b, 0, none⟩), .int .i64 n] w fun e w' => ∃ H, w.heap.size ≤ H ∧ e = .returned (.slice (some ⟨H, 0, none⟩) n n) ∧ w.grownBy w' (some b) ∧ Sp w' b (sqTo (finishS s) n) ∧ RowB w' H n (outI (finishS s)) := by
  have hmk := run_mk n hn
  have hb := hS.lt
  go_enter Tryd.func13, Tryd.ntmps13
  go_wp2_with fail
  refine (fill_fresh b w.heap.size hb4 n hn _ s hs hsp w _ (World.grownBy_alloc _ _ _) (Nat.le_refl _) hb (hS.alloc _) (zer_row n w) hG).mono ?_
  rintro e w' ⟨rfl, hg1, hS1, hO1⟩
  clear hS hG hmk
  go_wp2
  go_ret
  exact ⟨w.heap.size, Nat.le_refl _, rfl, hg1, hS1, hO1⟩
end Go.Proofs.YtkijpphmiogbbaaDoor
