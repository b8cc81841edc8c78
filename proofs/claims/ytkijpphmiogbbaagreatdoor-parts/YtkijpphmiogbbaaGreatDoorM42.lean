import Derived.Test.YtkijpphmiogbbaaGreatDoorM37
import Derived.Test.YtkijpphmiogbbaaGreatDoorM39
import Derived.Test.YtkijpphmiogbbaaGreatDoorM41
namespace Go.Proofs.YtkijpphmiogbbaaGreatDoor.Z
open Go.RowKit
attribute [local go_sem ↓] Go.wp_at_zero Go.wp_at_succ

theorem mkA (m : Nat) (hm : m ≤ 9) (W : World) : (Instr.makeSlice 60 (.int .i64 ((m : Int) + 1)) (.int .i64 ((m : Int) + 1))).run Tryz.prog W = .ok (.slice (some ⟨W.heap.size, 0, none⟩) (m + 1) (m + 1)) (W.alloc (.cells (madeCells (polyA .i64 (fun _ => 0)) ((m + 1) * 256)) 71)) := by
  have hinfo : (Tryz.prog.info? 71).map (fun i => (i.zero, i.size, i.bytes)) = some (some (.agg (polyA .i64 (fun _ => 0))), 256, 2048) := by kernel_rfl
  obtain ⟨i0, hi, hz0, hz1, hz2⟩ := info_of hinfo
  simp only at hz0 hz1 hz2
  have h := run_make (P := Tryz.prog) W 60 71 i0 _ (by kernel_rfl) hi hz0 .i64 .i64 ((m : Int) + 1) ((m : Int) + 1) (by omega) (by omega) (by rw [hz2]; omega) (by omega)
  rw [hz1] at h
  have e : ((m : Int) + 1).toNat = m + 1 := by omega
  rw [e] at h
  simpa [Value.cells] using h
/-- So many polynomials lie in a block, and noughts behind them. -/
structure NarZ (W : World) (N m t : Nat) (Ls : Nat → Nat → Int) : Prop where
  done : ∀ s, s < t → PRow .i64 W N (256 * s) (Ls s)
  left : ∀ s, t ≤ s → s < m → PRow .i64 W N (256 * s) (fun _ => 0)
theorem NarZ.new {W W' : World} {N m t : Nat} {Ls : Nat → Nat → Int} (h : NarZ W N m t Ls) (hg : W.grownBy W' none) : NarZ W' N m t Ls := ⟨fun s hs => (h.done s hs).new hg, fun s h1 h2 => (h.left s h1 h2).new hg⟩
theorem PRow.apartZ {k j : IntKind} {w w' : World} {b o f : Nat} {L M : Nat → Int} (h : PRow k w b o L) (p : Put j w w' b f M) (hap : o + 256 ≤ f ∨ f + 256 ≤ o) : PRow k w' b o L := fun i hi =>
  ⟨by rw [p.out (o + i) (by omega)]; exact (h i hi).1, by rw [p.fz]; exact (h i hi).2⟩
theorem NarZ.step {W W' : World} {N m t : Nat} {Ls : Nat → Nat → Int} (h : NarZ W N m t Ls) (p : Put .i64 W W' N (256 * t) (Ls t)) : NarZ W' N m (t + 1) Ls := by
  refine ⟨fun s hs => ?_, fun s h1 h2 => (h.left s (by omega) h2).apartZ p (by omega)⟩
  by_cases e : s = t
  · subst e; exact p.r
  · exact (h.done s (by omega)).apartZ p (by omega)
/-- The list that is handed in, and what lies behind it. -/
structure Inn (W : World) (N n : Nat) (Ls : Nat → Nat → Int) : Prop where
  rows : ∀ s, s < n → PRow .i64 W N (256 * s) (Ls s)
  mark : W.cell? ⟨N, 256 * n + 3, none⟩ = some (.int .i64 (-7))
theorem Inn.new {W W' : World} {N n : Nat} {Ls : Nat → Nat → Int} (h : Inn W N n Ls) (hg : W.grownBy W' none) : Inn W' N n Ls := ⟨fun s hs => (h.rows s hs).new hg, hg.cell h.mark (by simp)⟩
theorem NarZ.inn {W : World} {N n : Nat} {Ls : Nat → Nat → Int} (h : NarZ W N (n + 1) n Ls) : Inn (W.setCell ⟨N, 256 * n + 3, none⟩ (.int .i64 (-7))) N n Ls :=
  ⟨fun s hs => PRow.setOut (h.done s hs) (by omega) _, cell_same ((h.left n (Nat.le_refl _) (by omega)) 3 (by omega)).1⟩
theorem ixA (b m cp k : Nat) (hk : k < m) (W : World) : (Instr.indexAt 60 (.slice (some ⟨b, 0, none⟩) m cp) (.int .i64 (k : Int))).run Tryz.prog W = .ok (.pointer (some ⟨b, 256 * k, none⟩)) W :=
  run_indexPolys 60 b m cp k hk (by kernel_rfl) (fun W => by kernel_rfl) W
attribute [local go_sem ↓] ld_hide st_hide ldA_hide stA_hide
set_option maxHeartbeats 4000000 in
set_option maxRecDepth 20000 in
theorem hpk_n (d : Int) (a0 : Option Addr) (b n cp : Nat) (Ls : Nat → Nat → Int) (s : Sg) (w : World) (hn : n ≤ 9)
    (HX : Hid (∀ k, k < n → ∀ W, (Instr.indexAt 31 (.slice a0 n cp) (.int .i64 (k : Int))).run Tryz.prog W = .ok (.pointer (some ⟨b, 256 * k, none⟩)) W)) (HR : Hid (∀ k, k < n → PRow .i64 w b (256 * k) (Ls k)))
    (HS : Hid (∀ W, Calls Tryz.prog 64 #[.int .i64 d] W fun e w' => e = .returned (.tuple #[sgV s, .bool false]) ∧ W.grownBy w' none))
    (HA : Hid (∀ I W, (∀ k, k < n → PRow .i64 W I (256 * k) (Ls k)) → Calls Tryz.prog 73 #[.int .i64 d, .slice (some ⟨I, 0, none⟩) n (n + 1)] W fun e w' => e = .returned (.tuple #[.string ByteArray.empty, .iface 138 (.int .i64 1)]) ∧ W.grownBy w' none))
    (hE : Et w) : Calls Tryz.prog 34 #[.int .i64 d, .slice a0 n cp] w fun e w' => e = .returned (.tuple #[.string ByteArray.empty, .bool true]) ∧ w.grownBy w' none := by
  have n9 : (n : Int) ≤ 9 := by omega
  have hmk := fun W => mkA n hn W
  have m1 : NarZ (w.alloc (.cells (madeCells (polyA .i64 (fun _ => 0)) ((n + 1) * 256)) 71)) w.heap.size (n + 1) 0 Ls := ⟨fun s hs => absurd hs (by omega), fun s _ hs => made_rows .i64 w (n + 1) 71 s hs⟩
  have g1 := World.grownBy_alloc w (.cells (madeCells (polyA .i64 (fun _ => 0)) ((n + 1) * 256)) 71) none
  go_enter Tryz.func34, Tryz.ntmps34
  go_wp2
  generalize (w.alloc (.cells (madeCells (polyA .i64 (fun _ => 0)) ((n + 1) * 256)) 71)) = w1 at *
  obtain ⟨N, hN⟩ : ∃ N, N = w.heap.size := ⟨_, rfl⟩
  rw [← hN] at m1 ⊢
  have lN : w.heap.size ≤ N := by omega
  clear hN hmk
  go_loopw [8] (fun i wr => ∃ k : Nat, k ≤ n ∧ i = .int .i64 k ∧ w.grownBy wr none ∧ NarZ wr N (n + 1) k Ls) (fun i _ => n - (intOf i).toNat)
  case atStart => exact ⟨0, by omega, rfl, g1, m1⟩
  case round =>
    clear g1 m1
    obtain ⟨k, hk, rfl, hg, hN⟩ := hrel
    by_cases hlt : k < n
    · have a1 : (k : Int) < (n : Int) := by omega
      have ix := HX.out k hlt
      have ix2 := fun W => ixA N (n + 1) (n + 1) k (by omega) W
      have hr := (HR.out k hlt).new hg
      go_wp2_with (first | (refine wpL_load rfl .i64 43 _ rfl b (256 * k) rfl _ hr ⟨_, Tryz.uY⟩ Tryz.sY ?_) | (go_at_call 50; refine (lpoly_any (Ls k) _).mono ?_; rintro e w7 ⟨rfl, g7⟩) | (refine wpL_store rfl .i64 71 _ _ rfl N (256 * k) rfl _ rfl .i64 _ ((hN.left k (Nat.le_refl _) (by omega)).new g7) Tryz.sA ?_; intro w8 p8))
      go_roundw
      case rel => exact ⟨k + 1, by omega, by go_num, grown_new (grownBy_trans hg g7) p8.g lN, (hN.new g7).step p8⟩
      case measure => simp [intOf]; omega
    · obtain rfl : k = n := by omega
      clear hlt hk
      have ix := fun W => ixA N (k + 1) (k + 1) k (by omega) W
      have r3 := hN.left k (Nat.le_refl _) (by omega) 3 (by omega)
      have e3 := r3.1
      have f3 := r3.2
      have j1 := hN.inn
      have g2 := grown_setNew hg (p := ⟨N, 256 * k + 3, none⟩) lN (.int .i64 (-7))
      clear r3 hN hg
      go_wp2_with fail
      generalize wr.setCell ⟨N, 256 * k + 3, none⟩ (.int .i64 (-7)) = w3 at *
      clear e3 f3
      refine (HA.out N _ j1.rows).mono ?_
      rintro e w4 ⟨rfl, y4⟩
      have j2 := j1.new y4
      have g3 := grownBy_trans g2 y4
      clear j1 g2 y4 w3
      have e3 := j2.mark
      go_wp2
      clear e3
      go_loopw [11, 12, 13, 14, 15] (fun st bt i _ _ wq => ∃ (j : Nat) (tb : Bool), j ≤ k ∧ st = .bool true ∧ bt = .bool tb ∧ i = .int .i64 j ∧ w.grownBy wq none ∧ Inn wq N k Ls ∧ Hid (tb = true ↔ ∀ x, x < j → InB (Ls x) 2)) (fun _ _ i _ _ _ => k - (intOf i).toNat)
      case atStart => exact ⟨0, true, by omega, rfl, rfl, rfl, g3, j2, ⟨fun _ x hx => absurd hx (by omega), fun _ => rfl⟩⟩
      case round =>
        clear g3 j2
        obtain ⟨j, tb, hj, rfl, rfl, rfl, hg, hI, HB⟩ := hrel
        by_cases hlt : j < k
        · have a1 : (j : Int) < (k : Int) := by omega
          have a2 : (j : Int) < (k : Int) + 1 := by omega
          have ix1 := HX.out j hlt
          have ix2 := fun W => ixA N (k + 1) (k + 1) j (by omega) W
          have hr := (HR.out j hlt).new hg
          have hi := hI.rows j hlt
          have ld1 := run_hidLd wr.drew b (256 * j) _ hr.drew
          have ld2 := run_hidLdA wr.drew N (256 * j) _ hi.drew
          have HG : Hid (w.grownBy wr none ∧ Inn wr N k Ls) := ⟨hg, hI⟩
          clear hr hi hg hI
          go_wp2_with fail
          go_region_with (go_at_call 59; refine (is_same _ _ (fun _ _ => rfl) _).mono ?_; rintro e w5 ⟨rfl, y5⟩)
          all_goals
            have y5b : wr.drew.grownBy w5 none := y5
            have g5 := grownBy_trans (grown_drew HG.out.1) y5b
            have I5 := HG.out.2.new (grownBy_trans (grown_drew (World.grownBy.refl _ _)) y5b)
            clear ld1 ld2 y5 y5b HG
            have hr := (HR.out j hlt).new g5
            cases tb
            · go_wp2_with (first | (refine wpL_load rfl .i64 43 _ rfl b (256 * j) rfl _ hr ⟨_, Tryz.uY⟩ Tryz.sY ?_) | (go_at_call 52; refine (bound_any (Ls j) 2 _).mono ?_; rintro e w6 ⟨bx, rfl, hbx, y6⟩))
              have g6 := grownBy_trans g5 y6
              have I6 := I5.new y6
              clear hr g5 I5 y6
              have HC : Hid ((false && bx) = true ↔ ∀ x, x < j + 1 → InB (Ls x) 2) := ⟨fun h => by
                rw [Bool.and_eq_true] at h
                intro x hx
                by_cases e : x = j
                · subst e; exact hbx.1 h.2
                · exact HB.out.1 h.1 x (by omega), fun h => by
                rw [Bool.and_eq_true]
                exact ⟨HB.out.2 (fun x hx => h x (by omega)), hbx.2 (h j (by omega))⟩⟩
              clear HB hbx
              go_roundw
              case rel => exact ⟨j + 1, false, by omega, rfl, rfl, by go_num, g6, I6, HC⟩
              case measure => simp [intOf]; omega
            · go_wp2_with (first | (refine wpL_load rfl .i64 43 _ rfl b (256 * j) rfl _ hr ⟨_, Tryz.uY⟩ Tryz.sY ?_) | (go_at_call 52; refine (bound_any (Ls j) 2 _).mono ?_; rintro e w6 ⟨bx, rfl, hbx, y6⟩))
              have g6 := grownBy_trans g5 y6
              have I6 := I5.new y6
              clear hr g5 I5 y6
              have HC : Hid ((true && bx) = true ↔ ∀ x, x < j + 1 → InB (Ls x) 2) := ⟨fun h => by
                rw [Bool.and_eq_true] at h
                intro x hx
                by_cases e : x = j
                · subst e; exact hbx.1 h.2
                · exact HB.out.1 (by simp) x (by omega), fun h => by
                rw [Bool.and_eq_true]
                exact ⟨rfl, hbx.2 (h j (by omega))⟩⟩
              clear HB hbx
              go_roundw
              case rel => exact ⟨j + 1, bx, by omega, rfl, rfl, by go_num, g6, I6, HC⟩
              case measure => simp [intOf]; omega
        · obtain rfl : j = k := by omega
          clear hlt hj hI
          clear HB
          go_wp2_with fail
          refine (HS.out _).mono ?_
          rintro e w5 ⟨rfl, y5⟩
          have g5 := grownBy_trans hg y5
          clear hg y5
          have S1 : SgAt (w5.alloc (.cells #[.int .i64 s.k, .int .i64 s.l, .int .i64 s.e, .int .i64 s.c, .int .i64 s.g, .int .i64 s.t, .int .i64 s.a, .int .i64 s.o] 102)) w5.heap.size s := sgAt_new w5 s
          have g6 := grownBy_trans g5 (World.grownBy_alloc w5 (.cells #[.int .i64 s.k, .int .i64 s.l, .int .i64 s.e, .int .i64 s.c, .int .i64 s.g, .int .i64 s.t, .int .i64 s.a, .int .i64 s.o] 102) none)
          clear g5
          go_wp2_with fail
          generalize w5.alloc (.cells #[.int .i64 s.k, .int .i64 s.l, .int .i64 s.e, .int .i64 s.c, .int .i64 s.g, .int .i64 s.t, .int .i64 s.a, .int .i64 s.o] 102) = w6 at *
          clear S1
          have g8 := g6
          clear g6
          refine (ltold_err 1 _ (hE.new g8) (by decide)).mono ?_
          rintro e w9 ⟨rfl, y9⟩
          have g9 := grownBy_trans g8 y9
          clear y9
          clear g8
          go_wp2
          go_ret2
          exact ⟨rfl, g9⟩
set_option maxHeartbeats 4000000 in
set_option maxRecDepth 20000 in
theorem hpk_l (d : Int) (a0 : Option Addr) (b n cp : Nat) (Ls : Nat → Nat → Int) (s : Sg) (w : World) (hn : n ≤ 9) (hk : ¬ (n : Int) = s.k)
    (HX : Hid (∀ k, k < n → ∀ W, (Instr.indexAt 31 (.slice a0 n cp) (.int .i64 (k : Int))).run Tryz.prog W = .ok (.pointer (some ⟨b, 256 * k, none⟩)) W)) (HR : Hid (∀ k, k < n → PRow .i64 w b (256 * k) (Ls k)))
    (HS : Hid (∀ W, Calls Tryz.prog 64 #[.int .i64 d] W fun e w' => e = .returned (.tuple #[sgV s, .bool true]) ∧ W.grownBy w' none))
    (HA : Hid (∀ I W, (∀ k, k < n → PRow .i64 W I (256 * k) (Ls k)) → Calls Tryz.prog 73 #[.int .i64 d, .slice (some ⟨I, 0, none⟩) n (n + 1)] W fun e w' => e = .returned (.tuple #[.string ByteArray.empty, .iface 138 (.int .i64 2)]) ∧ W.grownBy w' none))
    (hE : Et w) : Calls Tryz.prog 34 #[.int .i64 d, .slice a0 n cp] w fun e w' => e = .returned (.tuple #[.string ByteArray.empty, .bool true]) ∧ w.grownBy w' none := by
  have kk : ((n : Int) != s.k) = true := by simpa using hk
  clear hk
  have n9 : (n : Int) ≤ 9 := by omega
  have hmk := fun W => mkA n hn W
  have m1 : NarZ (w.alloc (.cells (madeCells (polyA .i64 (fun _ => 0)) ((n + 1) * 256)) 71)) w.heap.size (n + 1) 0 Ls := ⟨fun s hs => absurd hs (by omega), fun s _ hs => made_rows .i64 w (n + 1) 71 s hs⟩
  have g1 := World.grownBy_alloc w (.cells (madeCells (polyA .i64 (fun _ => 0)) ((n + 1) * 256)) 71) none
  go_enter Tryz.func34, Tryz.ntmps34
  go_wp2
  generalize (w.alloc (.cells (madeCells (polyA .i64 (fun _ => 0)) ((n + 1) * 256)) 71)) = w1 at *
  obtain ⟨N, hN⟩ : ∃ N, N = w.heap.size := ⟨_, rfl⟩
  rw [← hN] at m1 ⊢
  have lN : w.heap.size ≤ N := by omega
  clear hN hmk
  go_loopw [8] (fun i wr => ∃ k : Nat, k ≤ n ∧ i = .int .i64 k ∧ w.grownBy wr none ∧ NarZ wr N (n + 1) k Ls) (fun i _ => n - (intOf i).toNat)
  case atStart => exact ⟨0, by omega, rfl, g1, m1⟩
  case round =>
    clear g1 m1
    obtain ⟨k, hk, rfl, hg, hN⟩ := hrel
    by_cases hlt : k < n
    · have a1 : (k : Int) < (n : Int) := by omega
      have ix := HX.out k hlt
      have ix2 := fun W => ixA N (n + 1) (n + 1) k (by omega) W
      have hr := (HR.out k hlt).new hg
      go_wp2_with (first | (refine wpL_load rfl .i64 43 _ rfl b (256 * k) rfl _ hr ⟨_, Tryz.uY⟩ Tryz.sY ?_) | (go_at_call 50; refine (lpoly_any (Ls k) _).mono ?_; rintro e w7 ⟨rfl, g7⟩) | (refine wpL_store rfl .i64 71 _ _ rfl N (256 * k) rfl _ rfl .i64 _ ((hN.left k (Nat.le_refl _) (by omega)).new g7) Tryz.sA ?_; intro w8 p8))
      go_roundw
      case rel => exact ⟨k + 1, by omega, by go_num, grown_new (grownBy_trans hg g7) p8.g lN, (hN.new g7).step p8⟩
      case measure => simp [intOf]; omega
    · obtain rfl : k = n := by omega
      clear hlt hk
      have ix := fun W => ixA N (k + 1) (k + 1) k (by omega) W
      have r3 := hN.left k (Nat.le_refl _) (by omega) 3 (by omega)
      have e3 := r3.1
      have f3 := r3.2
      have j1 := hN.inn
      have g2 := grown_setNew hg (p := ⟨N, 256 * k + 3, none⟩) lN (.int .i64 (-7))
      clear r3 hN hg
      go_wp2_with fail
      generalize wr.setCell ⟨N, 256 * k + 3, none⟩ (.int .i64 (-7)) = w3 at *
      clear e3 f3
      refine (HA.out N _ j1.rows).mono ?_
      rintro e w4 ⟨rfl, y4⟩
      have j2 := j1.new y4
      have g3 := grownBy_trans g2 y4
      clear j1 g2 y4 w3
      have e3 := j2.mark
      go_wp2
      clear e3
      go_loopw [11, 12, 13, 14, 15] (fun st bt i _ _ wq => ∃ (j : Nat) (tb : Bool), j ≤ k ∧ st = .bool true ∧ bt = .bool tb ∧ i = .int .i64 j ∧ w.grownBy wq none ∧ Inn wq N k Ls ∧ Hid (tb = true ↔ ∀ x, x < j → InB (Ls x) 2)) (fun _ _ i _ _ _ => k - (intOf i).toNat)
      case atStart => exact ⟨0, true, by omega, rfl, rfl, rfl, g3, j2, ⟨fun _ x hx => absurd hx (by omega), fun _ => rfl⟩⟩
      case round =>
        clear g3 j2
        obtain ⟨j, tb, hj, rfl, rfl, rfl, hg, hI, HB⟩ := hrel
        by_cases hlt : j < k
        · have a1 : (j : Int) < (k : Int) := by omega
          have a2 : (j : Int) < (k : Int) + 1 := by omega
          have ix1 := HX.out j hlt
          have ix2 := fun W => ixA N (k + 1) (k + 1) j (by omega) W
          have hr := (HR.out j hlt).new hg
          have hi := hI.rows j hlt
          have ld1 := run_hidLd wr.drew b (256 * j) _ hr.drew
          have ld2 := run_hidLdA wr.drew N (256 * j) _ hi.drew
          have HG : Hid (w.grownBy wr none ∧ Inn wr N k Ls) := ⟨hg, hI⟩
          clear hr hi hg hI
          go_wp2_with fail
          go_region_with (go_at_call 59; refine (is_same _ _ (fun _ _ => rfl) _).mono ?_; rintro e w5 ⟨rfl, y5⟩)
          all_goals
            have y5b : wr.drew.grownBy w5 none := y5
            have g5 := grownBy_trans (grown_drew HG.out.1) y5b
            have I5 := HG.out.2.new (grownBy_trans (grown_drew (World.grownBy.refl _ _)) y5b)
            clear ld1 ld2 y5 y5b HG
            have hr := (HR.out j hlt).new g5
            cases tb
            · go_wp2_with (first | (refine wpL_load rfl .i64 43 _ rfl b (256 * j) rfl _ hr ⟨_, Tryz.uY⟩ Tryz.sY ?_) | (go_at_call 52; refine (bound_any (Ls j) 2 _).mono ?_; rintro e w6 ⟨bx, rfl, hbx, y6⟩))
              have g6 := grownBy_trans g5 y6
              have I6 := I5.new y6
              clear hr g5 I5 y6
              have HC : Hid ((false && bx) = true ↔ ∀ x, x < j + 1 → InB (Ls x) 2) := ⟨fun h => by
                rw [Bool.and_eq_true] at h
                intro x hx
                by_cases e : x = j
                · subst e; exact hbx.1 h.2
                · exact HB.out.1 h.1 x (by omega), fun h => by
                rw [Bool.and_eq_true]
                exact ⟨HB.out.2 (fun x hx => h x (by omega)), hbx.2 (h j (by omega))⟩⟩
              clear HB hbx
              go_roundw
              case rel => exact ⟨j + 1, false, by omega, rfl, rfl, by go_num, g6, I6, HC⟩
              case measure => simp [intOf]; omega
            · go_wp2_with (first | (refine wpL_load rfl .i64 43 _ rfl b (256 * j) rfl _ hr ⟨_, Tryz.uY⟩ Tryz.sY ?_) | (go_at_call 52; refine (bound_any (Ls j) 2 _).mono ?_; rintro e w6 ⟨bx, rfl, hbx, y6⟩))
              have g6 := grownBy_trans g5 y6
              have I6 := I5.new y6
              clear hr g5 I5 y6
              have HC : Hid ((true && bx) = true ↔ ∀ x, x < j + 1 → InB (Ls x) 2) := ⟨fun h => by
                rw [Bool.and_eq_true] at h
                intro x hx
                by_cases e : x = j
                · subst e; exact hbx.1 h.2
                · exact HB.out.1 (by simp) x (by omega), fun h => by
                rw [Bool.and_eq_true]
                exact ⟨rfl, hbx.2 (h j (by omega))⟩⟩
              clear HB hbx
              go_roundw
              case rel => exact ⟨j + 1, bx, by omega, rfl, rfl, by go_num, g6, I6, HC⟩
              case measure => simp [intOf]; omega
        · obtain rfl : j = k := by omega
          clear hlt hj hI
          clear HB
          go_wp2_with fail
          refine (HS.out _).mono ?_
          rintro e w5 ⟨rfl, y5⟩
          have g5 := grownBy_trans hg y5
          clear hg y5
          have S1 : SgAt (w5.alloc (.cells #[.int .i64 s.k, .int .i64 s.l, .int .i64 s.e, .int .i64 s.c, .int .i64 s.g, .int .i64 s.t, .int .i64 s.a, .int .i64 s.o] 102)) w5.heap.size s := sgAt_new w5 s
          have g6 := grownBy_trans g5 (World.grownBy_alloc w5 (.cells #[.int .i64 s.k, .int .i64 s.l, .int .i64 s.e, .int .i64 s.c, .int .i64 s.g, .int .i64 s.t, .int .i64 s.a, .int .i64 s.o] 102) none)
          clear g5
          obtain ⟨g0, g1, g2, g3, g4, g5, g6b, g7⟩ := S1
          go_wp2_with fail
          generalize w5.alloc (.cells #[.int .i64 s.k, .int .i64 s.l, .int .i64 s.e, .int .i64 s.c, .int .i64 s.g, .int .i64 s.t, .int .i64 s.a, .int .i64 s.o] 102) = w6 at *
          clear g0 g1 g2 g3 g4 g5 g6b g7
          have g8 := g6
          clear g6
          refine (ltold_err 2 _ (hE.new g8) (by decide)).mono ?_
          rintro e w9 ⟨rfl, y9⟩
          have g9 := grownBy_trans g8 y9
          clear y9
          clear g8
          go_wp2
          go_ret2
          exact ⟨rfl, g9⟩
set_option maxHeartbeats 4000000 in
set_option maxRecDepth 20000 in
theorem hpk_b (d : Int) (a0 : Option Addr) (b n cp : Nat) (Ls : Nat → Nat → Int) (s : Sg) (w : World) (hn : n ≤ 9) (hk : (n : Int) = s.k) (hL : ¬ ∀ j, j < n → InB (Ls j) 2)
    (HX : Hid (∀ k, k < n → ∀ W, (Instr.indexAt 31 (.slice a0 n cp) (.int .i64 (k : Int))).run Tryz.prog W = .ok (.pointer (some ⟨b, 256 * k, none⟩)) W)) (HR : Hid (∀ k, k < n → PRow .i64 w b (256 * k) (Ls k)))
    (HS : Hid (∀ W, Calls Tryz.prog 64 #[.int .i64 d] W fun e w' => e = .returned (.tuple #[sgV s, .bool true]) ∧ W.grownBy w' none))
    (HA : Hid (∀ I W, (∀ k, k < n → PRow .i64 W I (256 * k) (Ls k)) → Calls Tryz.prog 73 #[.int .i64 d, .slice (some ⟨I, 0, none⟩) n (n + 1)] W fun e w' => e = .returned (.tuple #[.string ByteArray.empty, .iface 138 (.int .i64 5)]) ∧ W.grownBy w' none))
    (hE : Et w) : Calls Tryz.prog 34 #[.int .i64 d, .slice a0 n cp] w fun e w' => e = .returned (.tuple #[.string ByteArray.empty, .bool true]) ∧ w.grownBy w' none := by
  have kk : ((n : Int) != s.k) = false := by simpa using hk
  clear hk
  have HL : Hid (¬ ∀ j, j < n → InB (Ls j) 2) := hL
  clear hL
  have n9 : (n : Int) ≤ 9 := by omega
  have hmk := fun W => mkA n hn W
  have m1 : NarZ (w.alloc (.cells (madeCells (polyA .i64 (fun _ => 0)) ((n + 1) * 256)) 71)) w.heap.size (n + 1) 0 Ls := ⟨fun s hs => absurd hs (by omega), fun s _ hs => made_rows .i64 w (n + 1) 71 s hs⟩
  have g1 := World.grownBy_alloc w (.cells (madeCells (polyA .i64 (fun _ => 0)) ((n + 1) * 256)) 71) none
  go_enter Tryz.func34, Tryz.ntmps34
  go_wp2
  generalize (w.alloc (.cells (madeCells (polyA .i64 (fun _ => 0)) ((n + 1) * 256)) 71)) = w1 at *
  obtain ⟨N, hN⟩ : ∃ N, N = w.heap.size := ⟨_, rfl⟩
  rw [← hN] at m1 ⊢
  have lN : w.heap.size ≤ N := by omega
  clear hN hmk
  go_loopw [8] (fun i wr => ∃ k : Nat, k ≤ n ∧ i = .int .i64 k ∧ w.grownBy wr none ∧ NarZ wr N (n + 1) k Ls) (fun i _ => n - (intOf i).toNat)
  case atStart => exact ⟨0, by omega, rfl, g1, m1⟩
  case round =>
    clear g1 m1
    obtain ⟨k, hk, rfl, hg, hN⟩ := hrel
    by_cases hlt : k < n
    · have a1 : (k : Int) < (n : Int) := by omega
      have ix := HX.out k hlt
      have ix2 := fun W => ixA N (n + 1) (n + 1) k (by omega) W
      have hr := (HR.out k hlt).new hg
      go_wp2_with (first | (refine wpL_load rfl .i64 43 _ rfl b (256 * k) rfl _ hr ⟨_, Tryz.uY⟩ Tryz.sY ?_) | (go_at_call 50; refine (lpoly_any (Ls k) _).mono ?_; rintro e w7 ⟨rfl, g7⟩) | (refine wpL_store rfl .i64 71 _ _ rfl N (256 * k) rfl _ rfl .i64 _ ((hN.left k (Nat.le_refl _) (by omega)).new g7) Tryz.sA ?_; intro w8 p8))
      go_roundw
      case rel => exact ⟨k + 1, by omega, by go_num, grown_new (grownBy_trans hg g7) p8.g lN, (hN.new g7).step p8⟩
      case measure => simp [intOf]; omega
    · obtain rfl : k = n := by omega
      clear hlt hk
      have ix := fun W => ixA N (k + 1) (k + 1) k (by omega) W
      have r3 := hN.left k (Nat.le_refl _) (by omega) 3 (by omega)
      have e3 := r3.1
      have f3 := r3.2
      have j1 := hN.inn
      have g2 := grown_setNew hg (p := ⟨N, 256 * k + 3, none⟩) lN (.int .i64 (-7))
      clear r3 hN hg
      go_wp2_with fail
      generalize wr.setCell ⟨N, 256 * k + 3, none⟩ (.int .i64 (-7)) = w3 at *
      clear e3 f3
      refine (HA.out N _ j1.rows).mono ?_
      rintro e w4 ⟨rfl, y4⟩
      have j2 := j1.new y4
      have g3 := grownBy_trans g2 y4
      clear j1 g2 y4 w3
      have e3 := j2.mark
      go_wp2
      clear e3
      go_loopw [11, 12, 13, 14, 15] (fun st bt i _ _ wq => ∃ (j : Nat) (tb : Bool), j ≤ k ∧ st = .bool true ∧ bt = .bool tb ∧ i = .int .i64 j ∧ w.grownBy wq none ∧ Inn wq N k Ls ∧ Hid (tb = true ↔ ∀ x, x < j → InB (Ls x) 2)) (fun _ _ i _ _ _ => k - (intOf i).toNat)
      case atStart => exact ⟨0, true, by omega, rfl, rfl, rfl, g3, j2, ⟨fun _ x hx => absurd hx (by omega), fun _ => rfl⟩⟩
      case round =>
        clear g3 j2
        obtain ⟨j, tb, hj, rfl, rfl, rfl, hg, hI, HB⟩ := hrel
        by_cases hlt : j < k
        · have a1 : (j : Int) < (k : Int) := by omega
          have a2 : (j : Int) < (k : Int) + 1 := by omega
          have ix1 := HX.out j hlt
          have ix2 := fun W => ixA N (k + 1) (k + 1) j (by omega) W
          have hr := (HR.out j hlt).new hg
          have hi := hI.rows j hlt
          have ld1 := run_hidLd wr.drew b (256 * j) _ hr.drew
          have ld2 := run_hidLdA wr.drew N (256 * j) _ hi.drew
          have HG : Hid (w.grownBy wr none ∧ Inn wr N k Ls) := ⟨hg, hI⟩
          clear hr hi hg hI
          go_wp2_with fail
          go_region_with (go_at_call 59; refine (is_same _ _ (fun _ _ => rfl) _).mono ?_; rintro e w5 ⟨rfl, y5⟩)
          all_goals
            have y5b : wr.drew.grownBy w5 none := y5
            have g5 := grownBy_trans (grown_drew HG.out.1) y5b
            have I5 := HG.out.2.new (grownBy_trans (grown_drew (World.grownBy.refl _ _)) y5b)
            clear ld1 ld2 y5 y5b HG
            have hr := (HR.out j hlt).new g5
            cases tb
            · go_wp2_with (first | (refine wpL_load rfl .i64 43 _ rfl b (256 * j) rfl _ hr ⟨_, Tryz.uY⟩ Tryz.sY ?_) | (go_at_call 52; refine (bound_any (Ls j) 2 _).mono ?_; rintro e w6 ⟨bx, rfl, hbx, y6⟩))
              have g6 := grownBy_trans g5 y6
              have I6 := I5.new y6
              clear hr g5 I5 y6
              have HC : Hid ((false && bx) = true ↔ ∀ x, x < j + 1 → InB (Ls x) 2) := ⟨fun h => by
                rw [Bool.and_eq_true] at h
                intro x hx
                by_cases e : x = j
                · subst e; exact hbx.1 h.2
                · exact HB.out.1 h.1 x (by omega), fun h => by
                rw [Bool.and_eq_true]
                exact ⟨HB.out.2 (fun x hx => h x (by omega)), hbx.2 (h j (by omega))⟩⟩
              clear HB hbx
              go_roundw
              case rel => exact ⟨j + 1, false, by omega, rfl, rfl, by go_num, g6, I6, HC⟩
              case measure => simp [intOf]; omega
            · go_wp2_with (first | (refine wpL_load rfl .i64 43 _ rfl b (256 * j) rfl _ hr ⟨_, Tryz.uY⟩ Tryz.sY ?_) | (go_at_call 52; refine (bound_any (Ls j) 2 _).mono ?_; rintro e w6 ⟨bx, rfl, hbx, y6⟩))
              have g6 := grownBy_trans g5 y6
              have I6 := I5.new y6
              clear hr g5 I5 y6
              have HC : Hid ((true && bx) = true ↔ ∀ x, x < j + 1 → InB (Ls x) 2) := ⟨fun h => by
                rw [Bool.and_eq_true] at h
                intro x hx
                by_cases e : x = j
                · subst e; exact hbx.1 h.2
                · exact HB.out.1 (by simp) x (by omega), fun h => by
                rw [Bool.and_eq_true]
                exact ⟨rfl, hbx.2 (h j (by omega))⟩⟩
              clear HB hbx
              go_roundw
              case rel => exact ⟨j + 1, bx, by omega, rfl, rfl, by go_num, g6, I6, HC⟩
              case measure => simp [intOf]; omega
        · obtain rfl : j = k := by omega
          clear hlt hj hI
          obtain rfl : tb = false := by cases tb with | false => rfl | true => exact absurd (HB.out.1 rfl) HL.out
          clear HB
          go_wp2_with fail
          refine (HS.out _).mono ?_
          rintro e w5 ⟨rfl, y5⟩
          have g5 := grownBy_trans hg y5
          clear hg y5
          have S1 : SgAt (w5.alloc (.cells #[.int .i64 s.k, .int .i64 s.l, .int .i64 s.e, .int .i64 s.c, .int .i64 s.g, .int .i64 s.t, .int .i64 s.a, .int .i64 s.o] 102)) w5.heap.size s := sgAt_new w5 s
          have g6 := grownBy_trans g5 (World.grownBy_alloc w5 (.cells #[.int .i64 s.k, .int .i64 s.l, .int .i64 s.e, .int .i64 s.c, .int .i64 s.g, .int .i64 s.t, .int .i64 s.a, .int .i64 s.o] 102) none)
          clear g5
          obtain ⟨g0, g1, g2, g3, g4, g5, g6b, g7⟩ := S1
          go_wp2_with fail
          generalize w5.alloc (.cells #[.int .i64 s.k, .int .i64 s.l, .int .i64 s.e, .int .i64 s.c, .int .i64 s.g, .int .i64 s.t, .int .i64 s.a, .int .i64 s.o] 102) = w6 at *
          clear g0 g1 g2 g3 g4 g5 g6b g7
          have g8 := g6
          clear g6
          refine (ltold_err 5 _ (hE.new g8) (by decide)).mono ?_
          rintro e w9 ⟨rfl, y9⟩
          have g9 := grownBy_trans g8 y9
          clear y9
          clear g8
          go_wp2
          go_ret2
          exact ⟨rfl, g9⟩
set_option maxHeartbeats 4000000 in
set_option maxRecDepth 20000 in
theorem hpk_k (d : Int) (a0 : Option Addr) (b n cp : Nat) (Ls : Nat → Nat → Int) (s : Sg) (t : ByteArray) (w : World) (hn : n ≤ 9) (hk : (n : Int) = s.k) (hL : ∀ j, j < n → InB (Ls j) 2)
    (HX : Hid (∀ k, k < n → ∀ W, (Instr.indexAt 31 (.slice a0 n cp) (.int .i64 (k : Int))).run Tryz.prog W = .ok (.pointer (some ⟨b, 256 * k, none⟩)) W)) (HR : Hid (∀ k, k < n → PRow .i64 w b (256 * k) (Ls k)))
    (HS : Hid (∀ W, Calls Tryz.prog 64 #[.int .i64 d] W fun e w' => e = .returned (.tuple #[sgV s, .bool true]) ∧ W.grownBy w' none))
    (HA : Hid (∀ I W, (∀ k, k < n → PRow .i64 W I (256 * k) (Ls k)) → Calls Tryz.prog 73 #[.int .i64 d, .slice (some ⟨I, 0, none⟩) n (n + 1)] W fun e w' => e = .returned (.tuple #[.string t, .nilIface]) ∧ W.grownBy w' none))
    (HP : Hid (∀ W, w.grownBy W none → Calls Tryz.prog 74 #[sgV s, .slice a0 n cp] W fun e w' => e = .returned (.tuple #[.string t, .bool true]) ∧ W.grownBy w' none))
    : Calls Tryz.prog 34 #[.int .i64 d, .slice a0 n cp] w fun e w' => e = .returned (.tuple #[.string t, .bool true]) ∧ w.grownBy w' none := by
  have kk : ((n : Int) != s.k) = false := by simpa using hk
  clear hk
  have HL : Hid (∀ j, j < n → InB (Ls j) 2) := hL
  clear hL
  have n9 : (n : Int) ≤ 9 := by omega
  have hmk := fun W => mkA n hn W
  have m1 : NarZ (w.alloc (.cells (madeCells (polyA .i64 (fun _ => 0)) ((n + 1) * 256)) 71)) w.heap.size (n + 1) 0 Ls := ⟨fun s hs => absurd hs (by omega), fun s _ hs => made_rows .i64 w (n + 1) 71 s hs⟩
  have g1 := World.grownBy_alloc w (.cells (madeCells (polyA .i64 (fun _ => 0)) ((n + 1) * 256)) 71) none
  go_enter Tryz.func34, Tryz.ntmps34
  go_wp2
  generalize (w.alloc (.cells (madeCells (polyA .i64 (fun _ => 0)) ((n + 1) * 256)) 71)) = w1 at *
  obtain ⟨N, hN⟩ : ∃ N, N = w.heap.size := ⟨_, rfl⟩
  rw [← hN] at m1 ⊢
  have lN : w.heap.size ≤ N := by omega
  clear hN hmk
  go_loopw [8] (fun i wr => ∃ k : Nat, k ≤ n ∧ i = .int .i64 k ∧ w.grownBy wr none ∧ NarZ wr N (n + 1) k Ls) (fun i _ => n - (intOf i).toNat)
  case atStart => exact ⟨0, by omega, rfl, g1, m1⟩
  case round =>
    clear g1 m1
    obtain ⟨k, hk, rfl, hg, hN⟩ := hrel
    by_cases hlt : k < n
    · have a1 : (k : Int) < (n : Int) := by omega
      have ix := HX.out k hlt
      have ix2 := fun W => ixA N (n + 1) (n + 1) k (by omega) W
      have hr := (HR.out k hlt).new hg
      go_wp2_with (first | (refine wpL_load rfl .i64 43 _ rfl b (256 * k) rfl _ hr ⟨_, Tryz.uY⟩ Tryz.sY ?_) | (go_at_call 50; refine (lpoly_any (Ls k) _).mono ?_; rintro e w7 ⟨rfl, g7⟩) | (refine wpL_store rfl .i64 71 _ _ rfl N (256 * k) rfl _ rfl .i64 _ ((hN.left k (Nat.le_refl _) (by omega)).new g7) Tryz.sA ?_; intro w8 p8))
      go_roundw
      case rel => exact ⟨k + 1, by omega, by go_num, grown_new (grownBy_trans hg g7) p8.g lN, (hN.new g7).step p8⟩
      case measure => simp [intOf]; omega
    · obtain rfl : k = n := by omega
      clear hlt hk
      have ix := fun W => ixA N (k + 1) (k + 1) k (by omega) W
      have r3 := hN.left k (Nat.le_refl _) (by omega) 3 (by omega)
      have e3 := r3.1
      have f3 := r3.2
      have j1 := hN.inn
      have g2 := grown_setNew hg (p := ⟨N, 256 * k + 3, none⟩) lN (.int .i64 (-7))
      clear r3 hN hg
      go_wp2_with fail
      generalize wr.setCell ⟨N, 256 * k + 3, none⟩ (.int .i64 (-7)) = w3 at *
      clear e3 f3
      refine (HA.out N _ j1.rows).mono ?_
      rintro e w4 ⟨rfl, y4⟩
      have j2 := j1.new y4
      have g3 := grownBy_trans g2 y4
      clear j1 g2 y4 w3
      have e3 := j2.mark
      go_wp2
      clear e3
      go_loopw [11, 12, 13, 14, 15] (fun st bt i _ _ wq => ∃ (j : Nat) (tb : Bool), j ≤ k ∧ st = .bool true ∧ bt = .bool tb ∧ i = .int .i64 j ∧ w.grownBy wq none ∧ Inn wq N k Ls ∧ Hid (tb = true ↔ ∀ x, x < j → InB (Ls x) 2)) (fun _ _ i _ _ _ => k - (intOf i).toNat)
      case atStart => exact ⟨0, true, by omega, rfl, rfl, rfl, g3, j2, ⟨fun _ x hx => absurd hx (by omega), fun _ => rfl⟩⟩
      case round =>
        clear g3 j2
        obtain ⟨j, tb, hj, rfl, rfl, rfl, hg, hI, HB⟩ := hrel
        by_cases hlt : j < k
        · have a1 : (j : Int) < (k : Int) := by omega
          have a2 : (j : Int) < (k : Int) + 1 := by omega
          have ix1 := HX.out j hlt
          have ix2 := fun W => ixA N (k + 1) (k + 1) j (by omega) W
          have hr := (HR.out j hlt).new hg
          have hi := hI.rows j hlt
          have ld1 := run_hidLd wr.drew b (256 * j) _ hr.drew
          have ld2 := run_hidLdA wr.drew N (256 * j) _ hi.drew
          have HG : Hid (w.grownBy wr none ∧ Inn wr N k Ls) := ⟨hg, hI⟩
          clear hr hi hg hI
          go_wp2_with fail
          go_region_with (go_at_call 59; refine (is_same _ _ (fun _ _ => rfl) _).mono ?_; rintro e w5 ⟨rfl, y5⟩)
          all_goals
            have y5b : wr.drew.grownBy w5 none := y5
            have g5 := grownBy_trans (grown_drew HG.out.1) y5b
            have I5 := HG.out.2.new (grownBy_trans (grown_drew (World.grownBy.refl _ _)) y5b)
            clear ld1 ld2 y5 y5b HG
            have hr := (HR.out j hlt).new g5
            cases tb
            · go_wp2_with (first | (refine wpL_load rfl .i64 43 _ rfl b (256 * j) rfl _ hr ⟨_, Tryz.uY⟩ Tryz.sY ?_) | (go_at_call 52; refine (bound_any (Ls j) 2 _).mono ?_; rintro e w6 ⟨bx, rfl, hbx, y6⟩))
              have g6 := grownBy_trans g5 y6
              have I6 := I5.new y6
              clear hr g5 I5 y6
              have HC : Hid ((false && bx) = true ↔ ∀ x, x < j + 1 → InB (Ls x) 2) := ⟨fun h => by
                rw [Bool.and_eq_true] at h
                intro x hx
                by_cases e : x = j
                · subst e; exact hbx.1 h.2
                · exact HB.out.1 h.1 x (by omega), fun h => by
                rw [Bool.and_eq_true]
                exact ⟨HB.out.2 (fun x hx => h x (by omega)), hbx.2 (h j (by omega))⟩⟩
              clear HB hbx
              go_roundw
              case rel => exact ⟨j + 1, false, by omega, rfl, rfl, by go_num, g6, I6, HC⟩
              case measure => simp [intOf]; omega
            · go_wp2_with (first | (refine wpL_load rfl .i64 43 _ rfl b (256 * j) rfl _ hr ⟨_, Tryz.uY⟩ Tryz.sY ?_) | (go_at_call 52; refine (bound_any (Ls j) 2 _).mono ?_; rintro e w6 ⟨bx, rfl, hbx, y6⟩))
              have g6 := grownBy_trans g5 y6
              have I6 := I5.new y6
              clear hr g5 I5 y6
              have HC : Hid ((true && bx) = true ↔ ∀ x, x < j + 1 → InB (Ls x) 2) := ⟨fun h => by
                rw [Bool.and_eq_true] at h
                intro x hx
                by_cases e : x = j
                · subst e; exact hbx.1 h.2
                · exact HB.out.1 (by simp) x (by omega), fun h => by
                rw [Bool.and_eq_true]
                exact ⟨rfl, hbx.2 (h j (by omega))⟩⟩
              clear HB hbx
              go_roundw
              case rel => exact ⟨j + 1, bx, by omega, rfl, rfl, by go_num, g6, I6, HC⟩
              case measure => simp [intOf]; omega
        · obtain rfl : j = k := by omega
          clear hlt hj hI
          obtain rfl : tb = true := HB.out.2 HL.out
          clear HB
          go_wp2_with fail
          refine (HS.out _).mono ?_
          rintro e w5 ⟨rfl, y5⟩
          have g5 := grownBy_trans hg y5
          clear hg y5
          have S1 : SgAt (w5.alloc (.cells #[.int .i64 s.k, .int .i64 s.l, .int .i64 s.e, .int .i64 s.c, .int .i64 s.g, .int .i64 s.t, .int .i64 s.a, .int .i64 s.o] 102)) w5.heap.size s := sgAt_new w5 s
          have g6 := grownBy_trans g5 (World.grownBy_alloc w5 (.cells #[.int .i64 s.k, .int .i64 s.l, .int .i64 s.e, .int .i64 s.c, .int .i64 s.g, .int .i64 s.t, .int .i64 s.a, .int .i64 s.o] 102) none)
          clear g5
          obtain ⟨g0, g1, g2, g3, g4, g5, g6b, g7⟩ := S1
          go_wp2_with fail
          generalize w5.alloc (.cells #[.int .i64 s.k, .int .i64 s.l, .int .i64 s.e, .int .i64 s.c, .int .i64 s.g, .int .i64 s.t, .int .i64 s.a, .int .i64 s.o] 102) = w6 at *
          clear g0 g1 g2 g3 g4 g5 g6b g7
          refine (HP.out _ g6).mono ?_
          rintro e w7 ⟨rfl, y7⟩
          have g8 := grownBy_trans g6 y7
          clear g6 y7
          go_wp2_with fail
          refine (ltold_nil _).mono ?_
          rintro e w' ⟨rfl, hw⟩
          rw [hw]
          clear hw w'
          have g9 := g8
          clear g8
          go_wp2
          go_ret2
          exact ⟨rfl, g9⟩
set_option maxHeartbeats 4000000 in
set_option maxRecDepth 20000 in
theorem hpk_h (d : Int) (a0 : Option Addr) (b n cp : Nat) (Ls : Nat → Nat → Int) (s : Sg) (w : World) (hn : n ≤ 9) (hk : (n : Int) = s.k) (hL : ∀ j, j < n → InB (Ls j) 2)
    (HX : Hid (∀ k, k < n → ∀ W, (Instr.indexAt 31 (.slice a0 n cp) (.int .i64 (k : Int))).run Tryz.prog W = .ok (.pointer (some ⟨b, 256 * k, none⟩)) W)) (HR : Hid (∀ k, k < n → PRow .i64 w b (256 * k) (Ls k)))
    (HS : Hid (∀ W, Calls Tryz.prog 64 #[.int .i64 d] W fun e w' => e = .returned (.tuple #[sgV s, .bool true]) ∧ W.grownBy w' none))
    (HA : Hid (∀ I W, (∀ k, k < n → PRow .i64 W I (256 * k) (Ls k)) → Calls Tryz.prog 73 #[.int .i64 d, .slice (some ⟨I, 0, none⟩) n (n + 1)] W fun e w' => e = .returned (.tuple #[.string ByteArray.empty, .iface 138 (.int .i64 8)]) ∧ W.grownBy w' none))
    (HP : Hid (∀ W, w.grownBy W none → Calls Tryz.prog 74 #[sgV s, .slice a0 n cp] W fun e w' => e = .returned (.tuple #[.string ByteArray.empty, .bool false]) ∧ W.grownBy w' none))
    (hE : Et w) : Calls Tryz.prog 34 #[.int .i64 d, .slice a0 n cp] w fun e w' => e = .returned (.tuple #[.string ByteArray.empty, .bool true]) ∧ w.grownBy w' none := by
  have kk : ((n : Int) != s.k) = false := by simpa using hk
  clear hk
  have HL : Hid (∀ j, j < n → InB (Ls j) 2) := hL
  clear hL
  have n9 : (n : Int) ≤ 9 := by omega
  have hmk := fun W => mkA n hn W
  have m1 : NarZ (w.alloc (.cells (madeCells (polyA .i64 (fun _ => 0)) ((n + 1) * 256)) 71)) w.heap.size (n + 1) 0 Ls := ⟨fun s hs => absurd hs (by omega), fun s _ hs => made_rows .i64 w (n + 1) 71 s hs⟩
  have g1 := World.grownBy_alloc w (.cells (madeCells (polyA .i64 (fun _ => 0)) ((n + 1) * 256)) 71) none
  go_enter Tryz.func34, Tryz.ntmps34
  go_wp2
  generalize (w.alloc (.cells (madeCells (polyA .i64 (fun _ => 0)) ((n + 1) * 256)) 71)) = w1 at *
  obtain ⟨N, hN⟩ : ∃ N, N = w.heap.size := ⟨_, rfl⟩
  rw [← hN] at m1 ⊢
  have lN : w.heap.size ≤ N := by omega
  clear hN hmk
  go_loopw [8] (fun i wr => ∃ k : Nat, k ≤ n ∧ i = .int .i64 k ∧ w.grownBy wr none ∧ NarZ wr N (n + 1) k Ls) (fun i _ => n - (intOf i).toNat)
  case atStart => exact ⟨0, by omega, rfl, g1, m1⟩
  case round =>
    clear g1 m1
    obtain ⟨k, hk, rfl, hg, hN⟩ := hrel
    by_cases hlt : k < n
    · have a1 : (k : Int) < (n : Int) := by omega
      have ix := HX.out k hlt
      have ix2 := fun W => ixA N (n + 1) (n + 1) k (by omega) W
      have hr := (HR.out k hlt).new hg
      go_wp2_with (first | (refine wpL_load rfl .i64 43 _ rfl b (256 * k) rfl _ hr ⟨_, Tryz.uY⟩ Tryz.sY ?_) | (go_at_call 50; refine (lpoly_any (Ls k) _).mono ?_; rintro e w7 ⟨rfl, g7⟩) | (refine wpL_store rfl .i64 71 _ _ rfl N (256 * k) rfl _ rfl .i64 _ ((hN.left k (Nat.le_refl _) (by omega)).new g7) Tryz.sA ?_; intro w8 p8))
      go_roundw
      case rel => exact ⟨k + 1, by omega, by go_num, grown_new (grownBy_trans hg g7) p8.g lN, (hN.new g7).step p8⟩
      case measure => simp [intOf]; omega
    · obtain rfl : k = n := by omega
      clear hlt hk
      have ix := fun W => ixA N (k + 1) (k + 1) k (by omega) W
      have r3 := hN.left k (Nat.le_refl _) (by omega) 3 (by omega)
      have e3 := r3.1
      have f3 := r3.2
      have j1 := hN.inn
      have g2 := grown_setNew hg (p := ⟨N, 256 * k + 3, none⟩) lN (.int .i64 (-7))
      clear r3 hN hg
      go_wp2_with fail
      generalize wr.setCell ⟨N, 256 * k + 3, none⟩ (.int .i64 (-7)) = w3 at *
      clear e3 f3
      refine (HA.out N _ j1.rows).mono ?_
      rintro e w4 ⟨rfl, y4⟩
      have j2 := j1.new y4
      have g3 := grownBy_trans g2 y4
      clear j1 g2 y4 w3
      have e3 := j2.mark
      go_wp2
      clear e3
      go_loopw [11, 12, 13, 14, 15] (fun st bt i _ _ wq => ∃ (j : Nat) (tb : Bool), j ≤ k ∧ st = .bool true ∧ bt = .bool tb ∧ i = .int .i64 j ∧ w.grownBy wq none ∧ Inn wq N k Ls ∧ Hid (tb = true ↔ ∀ x, x < j → InB (Ls x) 2)) (fun _ _ i _ _ _ => k - (intOf i).toNat)
      case atStart => exact ⟨0, true, by omega, rfl, rfl, rfl, g3, j2, ⟨fun _ x hx => absurd hx (by omega), fun _ => rfl⟩⟩
      case round =>
        clear g3 j2
        obtain ⟨j, tb, hj, rfl, rfl, rfl, hg, hI, HB⟩ := hrel
        by_cases hlt : j < k
        · have a1 : (j : Int) < (k : Int) := by omega
          have a2 : (j : Int) < (k : Int) + 1 := by omega
          have ix1 := HX.out j hlt
          have ix2 := fun W => ixA N (k + 1) (k + 1) j (by omega) W
          have hr := (HR.out j hlt).new hg
          have hi := hI.rows j hlt
          have ld1 := run_hidLd wr.drew b (256 * j) _ hr.drew
          have ld2 := run_hidLdA wr.drew N (256 * j) _ hi.drew
          have HG : Hid (w.grownBy wr none ∧ Inn wr N k Ls) := ⟨hg, hI⟩
          clear hr hi hg hI
          go_wp2_with fail
          go_region_with (go_at_call 59; refine (is_same _ _ (fun _ _ => rfl) _).mono ?_; rintro e w5 ⟨rfl, y5⟩)
          all_goals
            have y5b : wr.drew.grownBy w5 none := y5
            have g5 := grownBy_trans (grown_drew HG.out.1) y5b
            have I5 := HG.out.2.new (grownBy_trans (grown_drew (World.grownBy.refl _ _)) y5b)
            clear ld1 ld2 y5 y5b HG
            have hr := (HR.out j hlt).new g5
            cases tb
            · go_wp2_with (first | (refine wpL_load rfl .i64 43 _ rfl b (256 * j) rfl _ hr ⟨_, Tryz.uY⟩ Tryz.sY ?_) | (go_at_call 52; refine (bound_any (Ls j) 2 _).mono ?_; rintro e w6 ⟨bx, rfl, hbx, y6⟩))
              have g6 := grownBy_trans g5 y6
              have I6 := I5.new y6
              clear hr g5 I5 y6
              have HC : Hid ((false && bx) = true ↔ ∀ x, x < j + 1 → InB (Ls x) 2) := ⟨fun h => by
                rw [Bool.and_eq_true] at h
                intro x hx
                by_cases e : x = j
                · subst e; exact hbx.1 h.2
                · exact HB.out.1 h.1 x (by omega), fun h => by
                rw [Bool.and_eq_true]
                exact ⟨HB.out.2 (fun x hx => h x (by omega)), hbx.2 (h j (by omega))⟩⟩
              clear HB hbx
              go_roundw
              case rel => exact ⟨j + 1, false, by omega, rfl, rfl, by go_num, g6, I6, HC⟩
              case measure => simp [intOf]; omega
            · go_wp2_with (first | (refine wpL_load rfl .i64 43 _ rfl b (256 * j) rfl _ hr ⟨_, Tryz.uY⟩ Tryz.sY ?_) | (go_at_call 52; refine (bound_any (Ls j) 2 _).mono ?_; rintro e w6 ⟨bx, rfl, hbx, y6⟩))
              have g6 := grownBy_trans g5 y6
              have I6 := I5.new y6
              clear hr g5 I5 y6
              have HC : Hid ((true && bx) = true ↔ ∀ x, x < j + 1 → InB (Ls x) 2) := ⟨fun h => by
                rw [Bool.and_eq_true] at h
                intro x hx
                by_cases e : x = j
                · subst e; exact hbx.1 h.2
                · exact HB.out.1 (by simp) x (by omega), fun h => by
                rw [Bool.and_eq_true]
                exact ⟨rfl, hbx.2 (h j (by omega))⟩⟩
              clear HB hbx
              go_roundw
              case rel => exact ⟨j + 1, bx, by omega, rfl, rfl, by go_num, g6, I6, HC⟩
              case measure => simp [intOf]; omega
        · obtain rfl : j = k := by omega
          clear hlt hj hI
          obtain rfl : tb = true := HB.out.2 HL.out
          clear HB
          go_wp2_with fail
          refine (HS.out _).mono ?_
          rintro e w5 ⟨rfl, y5⟩
          have g5 := grownBy_trans hg y5
          clear hg y5
          have S1 : SgAt (w5.alloc (.cells #[.int .i64 s.k, .int .i64 s.l, .int .i64 s.e, .int .i64 s.c, .int .i64 s.g, .int .i64 s.t, .int .i64 s.a, .int .i64 s.o] 102)) w5.heap.size s := sgAt_new w5 s
          have g6 := grownBy_trans g5 (World.grownBy_alloc w5 (.cells #[.int .i64 s.k, .int .i64 s.l, .int .i64 s.e, .int .i64 s.c, .int .i64 s.g, .int .i64 s.t, .int .i64 s.a, .int .i64 s.o] 102) none)
          clear g5
          obtain ⟨g0, g1, g2, g3, g4, g5, g6b, g7⟩ := S1
          go_wp2_with fail
          generalize w5.alloc (.cells #[.int .i64 s.k, .int .i64 s.l, .int .i64 s.e, .int .i64 s.c, .int .i64 s.g, .int .i64 s.t, .int .i64 s.a, .int .i64 s.o] 102) = w6 at *
          clear g0 g1 g2 g3 g4 g5 g6b g7
          refine (HP.out _ g6).mono ?_
          rintro e w7 ⟨rfl, y7⟩
          have g8 := grownBy_trans g6 y7
          clear g6 y7
          go_wp2_with fail
          refine (ltold_err 8 _ (hE.new g8) (by decide)).mono ?_
          rintro e w9 ⟨rfl, y9⟩
          have g9 := grownBy_trans g8 y9
          clear y9
          clear g8
          go_wp2
          go_ret2
          exact ⟨rfl, g9⟩
end Go.Proofs.YtkijpphmiogbbaaGreatDoor.Z
