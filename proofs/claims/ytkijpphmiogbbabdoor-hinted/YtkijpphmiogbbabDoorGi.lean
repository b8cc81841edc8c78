import Derived.Test.YtkijpphmiogbbabDoorGh
namespace Go.Proofs.YtkijpphmiogbbabDoor
open Go.RowKit
attribute [local go_sem ↓] Go.wp_at_zero Go.wp_at_succ
attribute [local go_sem] Tryd.zv24 Tryd.zv51

theorem PRow.setO {k : IntKind} {w : World} {b f : Nat} {L : Nat → Int} (h : PRow k w b f L) {i : Nat} (hi : i < 256) (v : Int) : PRow k (w.setCell ⟨b, f + i, none⟩ (.int k v)) b f (upd L i v) := by
  intro j hj
  refine ⟨?_, by rw [frozen_set]; exact (h j hj).2⟩
  by_cases e : j = i
  · subst e; rw [cell_same (h j hj).1, upd_same]
  · rw [cell_other _ _ _ _ (Or.inr (show f + j ≠ f + i by omega)), upd_ne _ _ _ _ e]; exact (h j hj).1
theorem PRow.setOut {k : IntKind} {w : World} {b f : Nat} {L : Nat → Int} (h : PRow k w b f L) {x : Nat} (hx : x < f ∨ f + 256 ≤ x) (v : Value) : PRow k (w.setCell ⟨b, x, none⟩ v) b f L := by
  intro j hj
  exact ⟨by rw [cell_other _ _ _ _ (Or.inr (show f + j ≠ x by omega))]; exact (h j hj).1, by rw [frozen_set]; exact (h j hj).2⟩
theorem Nar.setOut {k : IntKind} {W : World} {N m t : Nat} {Ls : Nat → Nat → Int} (h : Nar k W N m t Ls) {b : Nat} (hb : N ≠ b) (x : Nat) (v : Value) : Nar k (W.setCell ⟨b, x, none⟩ v) N m t Ls :=
  ⟨fun s hs => (h.done s hs).set_other (Ne.symm hb) v, fun s h1 h2 => (h.left s h1 h2).set_other (Ne.symm hb) v⟩
/-- As Nar, with polynomial t read as far as its first j ones. -/
structure Rdg (W : World) (N m t j : Nat) (Ls : Nat → Nat → Int) : Prop where
  done : ∀ s, s < t → PRow .u32 W N (256 * s) (Ls s)
  now : PRow .u32 W N (256 * t) (rdTo (Ls t) j)
  left : ∀ s, t < s → s < m → PRow .u32 W N (256 * s) (fun _ => 0)
theorem Rdg.begin {W : World} {N m t : Nat} {Ls : Nat → Nat → Int} (h : Nar .u32 W N m t Ls) (ht : t < m) : Rdg W N m t 0 Ls :=
  ⟨h.done, (h.left t (Nat.le_refl _) ht).ext (fun i _ => (rdTo_none (Ls t) i).symm), fun s h1 h2 => h.left s (by omega) h2⟩
theorem Rdg.step {W : World} {N m t j p : Nat} {Ls : Nat → Nat → Int} (h : Rdg W N m t j Ls) (hp : p < 256) (h1 : Ls t p ≠ 0) (h2 : cnt (Ls t) p = j) : Rdg (W.setCell ⟨N, 256 * t + p, none⟩ (.int .u32 1)) N m t (j + 1) Ls :=
  ⟨fun s hs => (h.done s hs).setOut (by omega) _, (h.now.setO hp 1).ext (fun i _ => rdTo_step (Ls t) j p h1 h2 i), fun s h3 h4 => (h.left s h3 h4).setOut (by omega) _⟩
theorem Rdg.end {W : World} {N m t : Nat} {Ls : Nat → Nat → Int} (h : Rdg W N m t (cnt (Ls t) 256) Ls) (h01 : ∀ i, i < 256 → Ls t i = 0 ∨ Ls t i = 1) : Nar .u32 W N m (t + 1) Ls := by
  refine ⟨fun s hs => ?_, fun s h1 h2 => h.left s (by omega) h2⟩
  by_cases e : s = t
  · subst e; exact h.now.ext (fun i hi => rdTo_all (Ls s) h01 i hi)
  · exact h.done s (by omega)
theorem Rdg.drew {W : World} {N m t j : Nat} {Ls : Nat → Nat → Int} (h : Rdg W N m t j Ls) : Rdg W.drew N m t j Ls := ⟨h.done, h.now, h.left⟩
theorem Nar.drewN {k : IntKind} {W : World} {N m t : Nat} {Ls : Nat → Nat → Int} (h : Nar k W N m t Ls) (n : Nat) : Nar k (W.drewN n) N m t Ls := ⟨h.done, h.left⟩
set_option maxHeartbeats 8000000 in
set_option maxRecDepth 20000 in
theorem sUnpack_any (Ls : Nat → Nat → Int) (k o : Nat) (g : Int) (B : Nat → Int) (w : World) (hk : k ≤ 8) (ho : o ≤ 80) (h01 : ∀ s, s < k → ∀ i, i < 256 → 0 ≤ Ls s i ∧ Ls s i < 2) (htot : tot Ls k ≤ o) (hB : Pck Ls k o B) (hBB : ∀ p, 0 ≤ B p ∧ B p < 256) :
    Calls Tryd.prog 25 #[.agg #[.int .i64 g, .int .i64 (k : Int), .int .i64 (o : Int)], .string (strH B (o + k))] w fun e w' => ∃ N, e = .returned (.tuple #[.slice (some ⟨N, 0, none⟩) k k, .bool true]) ∧ (∀ s, s < k → PRow .u32 w' N (256 * s) (Ls s)) ∧ w.grownBy w' none := by
  have hsz := strH_size B (o + k)
  have hX : ∀ p, p < o + k → ((txH (strH B (o + k)) p : Nat) : Int) = B p := fun p hp => txH_str B (o + k) p hp (hBB p).1 (hBB p).2
  generalize strH B (o + k) = t at *
  obtain ⟨P, hP⟩ : ∃ P, P = t.extract 0 o := ⟨_, rfl⟩
  obtain ⟨E, hE⟩ : ∃ E, E = t.extract o (o + k) := ⟨_, rfl⟩
  have Psz : P.size = o := by rw [hP]; simp; omega
  have Esz : E.size = k := by rw [hE]; simp; omega
  have HPx : Hid (∀ p, p < o → ((txH P p : Nat) : Int) = B p) := fun p hp => by rw [hP, txH_ext t 0 o p (by omega) (by omega), Nat.zero_add]; exact hX p (by omega)
  have HEx : Hid (∀ s, s < k → txH E s = tot Ls (s + 1)) := fun s hs => by
    have h1 := hB.ends s hs
    rw [← hX (o + s) (by omega)] at h1
    rw [hE, txH_ext t o (o + k) s (by omega) (by omega)]
    omega
  have HB : Hid (Pck Ls k o B) := hB
  have HT : Hid (tot Ls k ≤ o) := htot
  have H1 : Hid (∀ s, s < k → ∀ i, i < 256 → 0 ≤ Ls s i ∧ Ls s i < 2) := h01
  have hP' := hP.symm
  have hE' := hE.symm
  clear hX hBB hB htot h01 hP hE
  have l1 : (o : Int) ≤ (t.size : Int) := by omega
  have l2 : o ≤ t.size := by omega
  have s1 := setAt_new w g k o 43
  have g1 := World.grownBy_alloc w (.cells #[.int .i64 g, .int .i64 (k : Int), .int .i64 (o : Int)] 43) none
  have e1 := World.size_alloc w (.cells #[.int .i64 g, .int .i64 (k : Int), .int .i64 (o : Int)] 43)
  have co := s1.o
  have ck := s1.k
  go_enter Tryd.func25, Tryd.ntmps25
  go_wp2_with fail
  go_quiet (fail)
  have g2 : w.grownBy ((w.alloc (.cells #[.int .i64 g, .int .i64 (k : Int), .int .i64 (o : Int)] 43)).drewN nq) none := ⟨g1.os, g1.tape, g1.output, g1.size, g1.block⟩
  have s2 : SetAt ((w.alloc (.cells #[.int .i64 g, .int .i64 (k : Int), .int .i64 (o : Int)] 43)).drewN nq) w.heap.size g k o := ⟨s1.g, s1.k, s1.o⟩
  have e2 : ((w.alloc (.cells #[.int .i64 g, .int .i64 (k : Int), .int .i64 (o : Int)] 43)).drewN nq).heap.size = w.heap.size + 1 := e1
  generalize (w.alloc (.cells #[.int .i64 g, .int .i64 (k : Int), .int .i64 (o : Int)] 43)).drewN nq = w2 at *
  clear s1 g1 e1 co ck hP' hE' l1 l2
  have ck := s2.k
  have hmk := fun W => mk32 k hk W
  have z3 := made_rows .u32 w2 k 51
  have g3 := World.grownBy_alloc w2 (.cells (madeCells (polyA .u32 (fun _ => 0)) (k * 256)) 51) none
  have s3 := s2.new g3
  have ck3 := s3.k
  go_wp2
  generalize w2.alloc (.cells (madeCells (polyA .u32 (fun _ => 0)) (k * 256)) 51) = w3 at *
  have hg := grownBy_trans g2 g3
  obtain ⟨D, hD⟩ : ∃ D, D = w.heap.size := ⟨_, rfl⟩
  rw [e2] at z3
  rw [← hD] at s3 z3 ⊢
  have hN : Nar .u32 w3 (D + 1) k 0 Ls := ⟨fun s hs => absurd hs (by omega), fun s _ hs => z3 s hs⟩
  have hD' : w.heap.size ≤ D := by omega
  clear hD g2 s2 e2 ck hmk z3 g3 ck3
  go_loopw [9, 10, 11, 12, 26] (fun rd _ _ _ i wr => ∃ s : Nat, s ≤ k ∧ i = .int .i64 s ∧ rd = .int .i64 (tot Ls s : Nat) ∧ w.grownBy wr none ∧ SetAt wr D g k o ∧ Nar .u32 wr (D + 1) k s Ls) (fun _ _ _ _ i _ => k - (intOf i).toNat)
  case atStart => exact ⟨0, by omega, rfl, rfl, hg, s3, hN⟩
  case round =>
    clear hg s3 hN
    obtain ⟨s, hs, rfl, rfl, hg, hS, hN⟩ := hrel
    by_cases hlt : s < k
    · have a0 : (0 : Int) ≤ (s : Int) := by omega
      have a1 : (s : Int) < (k : Int) := by omega
      have h3 : tot Ls (s + 1) = tot Ls s + cnt (Ls s) 256 := rfl
      have hot := HT.out
      have hmo := tot_mono Ls (show s + 1 ≤ k by omega)
      have xE : ∀ W, (Instr.index 9 (.string E) (.int .i64 (s : Int))).run Tryd.prog W = .ok (.int .u8 ((tot Ls (s + 1) : Nat) : Int)) W := fun W => by
        have h := run_ixH E s (by omega) W
        rw [HEx.out s hlt] at h; exact h
      have HRs : Hid (∀ W, Calls Tryd.prog 29 #[.string (P.extract (tot Ls s) (tot Ls (s + 1)))] W fun e w' => e = .returned (.bool true) ∧ W.grownBy w' none) := fun W => by
        refine rising_any _ W (by simp; omega) (fun j hj => ?_)
        have hsz2 : (P.extract (tot Ls s) (tot Ls (s + 1))).size = tot Ls (s + 1) - tot Ls s := by simp; omega
        rw [hsz2] at hj
        rw [txH_ext P _ _ j (by omega) (by omega), txH_ext P _ _ (j + 1) (by omega) (by omega)]
        have h5 := HB.out.rise hlt (show j + 1 < cnt (Ls s) 256 by omega)
        rw [← HPx.out (tot Ls s + j) (by omega), ← HPx.out (tot Ls s + (j + 1)) (by omega)] at h5
        omega
      have HQ : Hid (∀ j, j < cnt (Ls s) 256 → ∃ p, p < 256 ∧ Ls s p ≠ 0 ∧ cnt (Ls s) p = j ∧ ∀ W, (Instr.index 9 (.string P) (.int .i64 ((tot Ls s : Nat) + (j : Int)))).run Tryd.prog W = .ok (.int .u8 (p : Int)) W) := fun j hj => by
        obtain ⟨p, p1, p2, p3⟩ := cnt_nth (Ls s) 256 j hj
        refine ⟨p, p1, p2, p3, fun W => ?_⟩
        have h := run_ixH P (tot Ls s + j) (by omega) W
        rw [HPx.out _ (by omega), ← p3, HB.out.place s p hlt p1 p2, p3, Int.natCast_add] at h
        exact h
      have H2 : Hid (∀ i, i < 256 → Ls s i = 0 ∨ Ls s i = 1) := fun i hi => by have := H1.out s hlt i hi; omega
      obtain ⟨c0, hc0⟩ : ∃ c, c = tot Ls s := ⟨_, rfl⟩
      obtain ⟨c1, hc1⟩ : ∃ c, c = tot Ls (s + 1) := ⟨_, rfl⟩
      obtain ⟨m, hm⟩ : ∃ m, m = cnt (Ls s) 256 := ⟨_, rfl⟩
      rw [← hc0] at HRs HQ ⊢
      rw [← hc1] at HRs xE
      rw [← hm] at HQ
      have hcm : c1 = c0 + m := by rw [hc0, hc1, hm]; exact h3
      have hco : c1 ≤ o := by omega
      have hle : c0 ≤ c1 := by omega
      have cw : IntKind.i64.wrap (c1 : Int) = (c1 : Int) := by rw [IntKind.wrap_i64] <;> omega
      have d1 : decide ((c1 : Int) < (c0 : Int)) = false := by simp; omega
      have d1' : decide (c1 < c0) = false := by simp; omega
      have d2 : decide ((o : Int) < (c1 : Int)) = false := by simp; omega
      have d2' : decide (o < c1) = false := by simp; omega
      have co := hS.o
      have HC : Hid (c0 = tot Ls s ∧ c1 = tot Ls (s + 1) ∧ m = cnt (Ls s) 256 ∧ c1 = c0 + m) := ⟨hc0, hc1, hm, hcm⟩
      have HK : Hid (SetAt wr D g k o ∧ Nar .u32 wr (D + 1) k s Ls) := ⟨hS, hN⟩
      have l3 : (c0 : Int) ≤ (c1 : Int) := by omega
      have l4 : (c1 : Int) ≤ (o : Int) := by omega
      clear hc0 hc1 hm h3 hot hmo hS hN hcm
      go_wp2_with fail
      refine (HRs.out _).mono ?_
      rintro e w5 ⟨rfl, g5⟩
      have hS5 := HK.out.1.new g5
      have hR5 := Rdg.begin (HK.out.2.new g5) hlt
      have hg5 := grownBy_trans hg g5
      have hsub : (c1 : Int) - (c0 : Int) = (m : Int) := by have := HC.out.2.2.2; omega
      clear HRs HK hg g5 co d1 d1' d2 d2' l3 l4 xE cw
      go_wp2
      go_loopw [12, 53] (fun _ i wr => ∃ j : Nat, j ≤ m ∧ i = .int .i64 j ∧ w.grownBy wr none ∧ SetAt wr D g k o ∧ Rdg wr (D + 1) k s j Ls) (fun _ i _ => m - (intOf i).toNat)
      case atStart => exact ⟨0, by omega, rfl, hg5, hS5, hR5⟩
      case round =>
        clear hg5 hS5 hR5
        obtain ⟨j, hj, rfl, hg, hS, hR⟩ := hrel
        by_cases hl2 : j < m
        · have b0 : (0 : Int) ≤ (j : Int) := by omega
          have b1 : (j : Int) < (m : Int) := by omega
          obtain ⟨p, p1, p2, p3, xP⟩ := HQ.out j hl2
          have q0 : (0 : Int) ≤ (p : Int) := by omega
          have q1 : (p : Int) < 256 := by omega
          have ix := fun W => ixPolys32 (D + 1) k s hlt W
          have hc := hR.now p p1
          have cc : wr.drew.cell? ⟨D + 1, 256 * s + p, none⟩ = _ := hc.1
          have ff : wr.drew.frozen? ⟨D + 1, 256 * s + p, none⟩ = _ := hc.2
          have HK : Hid (w.grownBy wr none ∧ SetAt wr D g k o ∧ Rdg wr (D + 1) k s j Ls ∧ p < 256 ∧ Ls s p ≠ 0 ∧ cnt (Ls s) p = j) := ⟨hg, hS, hR, p1, p2, p3⟩
          clear hg hS hR hc p2 p3
          go_wp2_with fail
          go_region
          go_wp2
          go_roundw
          case rel =>
            obtain ⟨hg, hS, hR, p1, p2, p3⟩ := HK.out
            exact ⟨j + 1, by omega, by go_num, grown_setNew (grown_drew hg) (by simp; omega) _, ⟨(hS.set_other (by simp) _).g, (hS.set_other (by simp) _).k, (hS.set_other (by simp) _).o⟩, hR.drew.step p1 p2 p3⟩
          case measure => simp [intOf]; omega
        · have hk6 : j = m := by omega
          subst hk6
          have hN' := Rdg.end (HC.out.2.2.1 ▸ hR) H2.out
          have hc1 := HC.out.2.1
          clear hR
          go_wp2
          go_roundw
          case rel => exact ⟨s + 1, by omega, by go_num, by rw [← hc1], hg, hS, hN'⟩
          case measure => simp [intOf]; omega
    · have hk6 : s = k := by omega
      subst hk6
      have hot := HT.out
      have hTr : ∀ W, Calls Tryd.prog 30 #[.string (P.extract (tot Ls s) o), .string (ByteArray.mk #[0])] W fun e w' => e = .returned (.string (ByteArray.mk #[])) ∧ W.grownBy w' none := fun W => by
        refine trim_any _ W (by simp; omega) (fun j hj => ?_)
        have hsz2 : (P.extract (tot Ls s) o).size = o - tot Ls s := by simp; omega
        rw [hsz2] at hj
        rw [txH_ext P _ _ j (by omega) (by omega)]
        have h5 := HB.out.rest (tot Ls s + j) (by omega) (by omega)
        rw [← HPx.out (tot Ls s + j) (by omega)] at h5
        omega
      obtain ⟨c, hc⟩ : ∃ c, c = tot Ls s := ⟨_, rfl⟩
      rw [← hc] at hTr hot ⊢
      have HTr : Hid (∀ W, Calls Tryd.prog 30 #[.string (P.extract c o), .string (ByteArray.mk #[0])] W fun e w' => e = .returned (.string (ByteArray.mk #[])) ∧ W.grownBy w' none) := hTr
      have HN : Hid (∀ u, u < s → PRow .u32 wr (D + 1) (256 * u) (Ls u)) := fun u hu => hN.done u hu
      have l3 : (c : Int) ≤ (o : Int) := by omega
      clear hTr hN hc
      go_wp2_with (first | (go_at_call 30; refine (HTr.out _).mono ?_; rintro e w7 ⟨rfl, g7⟩))
      go_ret2
      exact ⟨D + 1, rfl, fun u hu => (HN.out u hu).new g7, grownBy_trans hg g7⟩
end Go.Proofs.YtkijpphmiogbbabDoor
