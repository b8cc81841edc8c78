import Derived.Test.YtkijpphmiogbbaaGreatDoorM40
import Derived.Test.YtkijpphmiogbbaaGreatDoorM39
namespace Go.Proofs.YtkijpphmiogbbaaGreatDoor
open Go.RowKit
attribute [local go_sem ↓] Go.wp_at_zero Go.wp_at_succ

theorem mk64 (m : Nat) (hm : m ≤ 8) (W : World) : (Instr.makeSlice 60 (.int .i64 (m : Int)) (.int .i64 (m : Int))).run Tryz.prog W = .ok (.slice (some ⟨W.heap.size, 0, none⟩) m m) (W.alloc (.cells (madeCells (polyA .i64 (fun _ => 0)) (m * 256)) 71)) := by
  have hinfo : (Tryz.prog.info? 71).map (fun i => (i.zero, i.size, i.bytes)) = some (some (.agg (polyA .i64 (fun _ => 0))), 256, 2048) := by kernel_rfl
  obtain ⟨i0, hi, hz0, hz1, hz2⟩ := info_parts hinfo
  have h := run_make (P := Tryz.prog) W 60 71 i0 _ (by kernel_rfl) hi hz0 .i64 .i64 m m (by omega) (by omega) (by rw [hz2]; omega) (by omega)
  rw [hz1] at h
  simpa [Value.cells] using h
set_option maxHeartbeats 4000000 in
set_option maxRecDepth 20000 in
theorem UnpackHint_any (Ls : Nat → Nat → Int) (k o : Nat) (n g : Int) (B : Nat → Int) (w : World) (hs : IsSet n g k o) (h01 : ∀ s, s < k → ∀ i, i < 256 → 0 ≤ Ls s i ∧ Ls s i < 2) (htot : tot Ls k ≤ o) (hB : Pck Ls k o B) (hBB : ∀ p, 0 ≤ B p ∧ B p < 256) :
    Calls Tryz.prog 75 #[.int .i64 n, .string (strH B (o + k))] w fun e w' => ∃ N, e = .returned (.tuple #[.slice (some ⟨N, 0, none⟩) k k, .nilIface]) ∧ (∀ s, s < k → PRow .i64 w' N (256 * s) (Ls s)) ∧ w.grownBy w' none := by
  have hko : k ≤ 8 ∧ o ≤ 80 := by unfold IsSet at hs; omega
  have k8 := hko.1
  have o80 := hko.2
  have HN : Hid (∀ W, Calls Tryz.prog 129 #[.int .i64 n] W fun e w' => e = .returned (.tuple #[.agg #[.int .i64 g, .int .i64 (k : Int), .int .i64 (o : Int)], .nilIface]) ∧ W.grownBy w' none) := fun W => New_any n g k o W hs
  have HY : Hid (∀ W, Calls Tryz.prog 139 #[.agg #[.int .i64 g, .int .i64 (k : Int), .int .i64 (o : Int)]] W fun e w' => e = .returned (.int .i64 ((o : Int) + (k : Int))) ∧ W.grownBy w' none) := fun W => hintBytes_any g k o W (by omega) (by omega) (by omega) (by omega)
  have HU : Hid (∀ W, Calls Tryz.prog 140 #[.agg #[.int .i64 g, .int .i64 (k : Int), .int .i64 (o : Int)], .string (strH B (o + k))] W fun e w' => ∃ N, e = .returned (.tuple #[.slice (some ⟨N, 0, none⟩) k k, .bool true]) ∧ (∀ s, s < k → PRow .u32 w' N (256 * s) (Ls s)) ∧ W.grownBy w' none) := fun W => sUnpack_any Ls k o g B W k8 o80 h01 htot hB hBB
  have HV : Hid (∀ s W, s < k → Calls Tryz.prog 125 #[.agg (polyA .u32 (Ls s))] W fun e w' => e = .returned (.agg (polyA .i64 (Ls s))) ∧ W.grownBy w' none) := fun s W hs => wide32_any (Ls s) W (fun i hi => by have := h01 s hs i hi; omega)
  have hsz : (strH B (o + k)).size = o + k := strH_size B (o + k)
  clear hs h01 htot hB hBB hko
  generalize strH B (o + k) = t at *
  go_enter Tryz.func75, Tryz.ntmps75
  go_wp2_with fail
  refine (HN.out _).mono ?_
  rintro e w2 ⟨rfl, g2⟩
  have g3 := World.grownBy_alloc w2 (.cells #[.int .i64 g, .int .i64 (k : Int), .int .i64 (o : Int)] 176) none
  have S3 := setAt_new w2 g k o 176
  have q3 := grownBy_trans g2 g3
  have c0 := S3.g
  have c1 := S3.k
  have c2 := S3.o
  clear g3
  go_wp2_with fail
  generalize w2.alloc (.cells #[.int .i64 g, .int .i64 (k : Int), .int .i64 (o : Int)] 176) = w3 at *
  refine (HY.out w3).mono ?_
  rintro e w4 ⟨rfl, g4⟩
  have S4 := S3.new g4
  have q4 := grownBy_trans q3 g4
  have l2 := g2.size
  clear c0 c1 c2 S3 q3 g4 HY g2
  have c0 := S4.g
  have c1 := S4.k
  have c2 := S4.o
  have ht : (t.size : Int) = (o : Int) + (k : Int) := by omega
  go_wp2_with fail
  refine (HU.out w4).mono ?_
  rintro e w5 ⟨N, rfl, r5, g5⟩
  have S5 := S4.new g5
  have q5 := grownBy_trans q4 g5
  have HR5 : Hid (∀ s, s < k → PRow .u32 w5 N (256 * s) (Ls s)) := r5
  clear c0 c1 c2 S4 q4 g5 r5 HU ht hsz
  have c1 := S5.k
  have hmk := fun W => mk64 k k8 W
  have m6 := made_rows .i64 w5 k 71
  have g6 := World.grownBy_alloc w5 (.cells (madeCells (polyA .i64 (fun _ => 0)) (k * 256)) 71) none
  have S6 := S5.new g6
  have d1 := S6.k
  go_wp2
  generalize w5.alloc (.cells (madeCells (polyA .i64 (fun _ => 0)) (k * 256)) 71) = w6 at *
  have hg := grownBy_trans q5 g6
  have HR : Hid (∀ s, s < k → PRow .u32 w6 N (256 * s) (Ls s)) := fun s hs => (HR5.out s hs).new g6
  have HNl : Hid (∀ s, s < k → N < w5.heap.size) := fun s hs => (HR5.out s hs).lt
  have lw : w.heap.size ≤ w5.heap.size := q5.size
  clear c1 d1 hmk S5 S6 q5 HR5
  obtain ⟨M, hM⟩ : ∃ M, M = w5.heap.size := ⟨_, rfl⟩
  rw [← hM] at m6 lw HNl ⊢
  have hN : Nar .i64 w6 M k 0 Ls := ⟨fun s hs => absurd hs (by omega), fun s _ hs => m6 s hs⟩
  clear hM m6 g6
  go_loopw [11, 40] (fun _ i wr => ∃ s : Nat, s ≤ k ∧ i = .int .i64 s ∧ w.grownBy wr none ∧ Nar .i64 wr M k s Ls ∧ Hid (∀ s, s < k → PRow .u32 wr N (256 * s) (Ls s))) (fun _ i _ => k - (intOf i).toNat)
  case atStart => exact ⟨0, by omega, rfl, hg, hN, HR⟩
  case round =>
    clear hg hN HR
    obtain ⟨s, hs, rfl, hg, hN, HR⟩ := hrel
    by_cases hlt : s < k
    · have a0 : (0 : Int) ≤ (s : Int) := by omega
      have a1 : (s : Int) < (k : Int) := by omega
      have ix := fun W => ixPolys32 N k s hlt W
      have ix2 := fun W => ixPolysc M k k s hlt W
      have hr := HR.out s hlt
      have hNM := HNl.out s hlt
      go_wp2_with (first | (refine wpL_load rfl .u32 166 _ rfl N (256 * s) rfl _ hr Tryz.oQ32 Tryz.sQ32 ?_) | (go_at_call 125; refine (HV.out s _ hlt).mono ?_; rintro e w7 ⟨rfl, g7⟩) | (refine wpL_store rfl .i64 71 _ _ rfl M (256 * s) rfl _ rfl .i64 _ ((hN.left s (Nat.le_refl _) hlt).new g7) Tryz.sP ?_; intro w8 p8))
      go_roundw
      case rel => exact ⟨s + 1, by omega, by go_num, grown_new (grownBy_trans hg g7) p8.g lw, (hN.new g7).step p8, fun u hu => ((HR.out u hu).new g7).far p8.g (by simp; omega)⟩
      case measure => simp [intOf]; omega
    · have hk6 : s = k := by omega
      subst hk6
      have HD : Hid (∀ u, u < s → PRow .i64 wr M (256 * u) (Ls u)) := fun u hu => hN.done u hu
      clear hN
      go_wp2
      go_ret2
      exact ⟨M, rfl, HD.out, hg⟩
end Go.Proofs.YtkijpphmiogbbaaGreatDoor

namespace Go.Proofs.YtkijpphmiogbbaaGreatDoor
open Go.RowKit
attribute [local go_sem ↓] Go.wp_at_zero Go.wp_at_succ

set_option maxHeartbeats 1000000 in
theorem rising_all (s : ByteArray) (w : World) (hs : s.size ≤ 1000) :
    Calls Tryz.prog 212 #[.string s] w fun e w' => ((e = .returned (.bool true) ∧ ∀ j, j + 1 < s.size → txH s j < txH s (j + 1)) ∨ (e = .returned (.bool false) ∧ ∃ j, j + 1 < s.size ∧ ¬ txH s j < txH s (j + 1))) ∧ w.grownBy w' none := by
  have HX : Hid (∀ (x : Nat) W, x < s.size → (Instr.index 9 (.string s) (.int .i64 (x : Int))).run Tryz.prog W = .ok (.int .u8 ((txH s x : Nat) : Int)) W) := fun x W h => run_ixH s x h W
  go_enter Tryz.func212, Tryz.ntmps212
  go_wp2
  go_loopw [3, 7] (fun _ i wr => ∃ j : Nat, (j ≤ s.size - 1) ∧ i = .int .i64 j ∧ w.grownBy wr none ∧ Hid (∀ m, m < j → txH s m < txH s (m + 1))) (fun _ i _ => s.size - (intOf i).toNat)
  case atStart => exact ⟨0, by omega, rfl, World.grownBy.refl _ _, fun m hm => absurd hm (by omega)⟩
  case round =>
    obtain ⟨j, hj, rfl, hg, HU⟩ := hrel
    by_cases hlt : j + 1 < s.size
    · have b0 : (0 : Int) ≤ (j : Int) := by omega
      have b1 : (j : Int) < (s.size : Int) - 1 := by omega
      have x1 := fun W => HX.out j W (by omega)
      have x2 : ∀ W, (Instr.index 9 (.string s) (.int .i64 ((j : Int) + 1))).run Tryz.prog W = .ok (.int .u8 ((txH s (j + 1) : Nat) : Int)) W := fun W => HX.out (j + 1) W (by omega)
      obtain ⟨a, ha⟩ : ∃ a : Int, a = ((txH s j : Nat) : Int) := ⟨_, rfl⟩
      obtain ⟨b, hb⟩ : ∃ b : Int, b = ((txH s (j + 1) : Nat) : Int) := ⟨_, rfl⟩
      rw [← ha] at x1
      rw [← hb] at x2
      by_cases hab : a < b
      · have d1 : decide (b ≤ a) = false := by simp; omega
        have HU9 : Hid (∀ m, m < j + 1 → txH s m < txH s (m + 1)) := fun m hm => by
          by_cases em : m = j
          · rw [em]; omega
          · exact HU.out m (by omega)
        clear ha hb hab HU
        go_wp2_with fail
        go_quiet (fail)
        go_wp2
        go_roundw
        case rel => exact ⟨j + 1, by omega, by go_num, ⟨hg.os, hg.tape, hg.output, hg.size, hg.block⟩, HU9.out⟩
        case measure => simp [intOf]; omega
      · have d1 : decide (b ≤ a) = true := by simp; omega
        have HF : Hid (¬ txH s j < txH s (j + 1)) := fun h => by omega
        clear ha hb hab HU
        go_wp2_with fail
        go_quiet (fail)
        go_wp2
        go_ret
        exact ⟨Or.inr ⟨rfl, j, hlt, HF.out⟩, ⟨hg.os, hg.tape, hg.output, hg.size, hg.block⟩⟩
    · have b1 : ¬ (j : Int) < (s.size : Int) - 1 := by omega
      have b2 : decide ((j : Int) < (s.size : Int) - 1) = false := by simp; omega
      go_wp2
      go_ret
      exact ⟨Or.inl ⟨rfl, fun m hm => HU.out m (by omega)⟩, hg⟩
set_option maxHeartbeats 1000000 in
theorem trimR_some (s : ByteArray) (w : World) (hs : s.size ≤ 1000) (hz : ∃ j, j < s.size ∧ txH s j ≠ 0) :
    Calls Tryz.prog 297 #[.string s, .int .u8 0] w fun e w' => ∃ t : ByteArray, e = .returned (.string t) ∧ t.size ≤ 1000 ∧ (∃ j, j < t.size ∧ txH t j ≠ 0) ∧ w.grownBy w' none := by
  have HZ : Hid (∃ j, j < s.size ∧ txH s j ≠ 0) := hz
  clear hz
  go_enter Tryz.func297, Tryz.ntmps297
  go_wp2
  go_loopw [0] (fun v wr => ∃ t : ByteArray, v = .string t ∧ t.size ≤ 1000 ∧ Hid (∃ j, j < t.size ∧ txH t j ≠ 0) ∧ w.grownBy wr none) (fun v _ => match v with | .string t => t.size | _ => 0)
  case atStart => exact ⟨s, rfl, hs, HZ, World.grownBy.refl _ _⟩
  case round =>
    clear HZ
    obtain ⟨t, rfl, ht, HZ, hg⟩ := hrel
    have h0 : 0 < t.size := by obtain ⟨j, hj, _⟩ := HZ.out; omega
    have b0 : (0 : Int) < (t.size : Int) := by omega
    obtain ⟨y, hy⟩ : ∃ y : Nat, y = txH t (t.size - 1) := ⟨_, rfl⟩
    have x1 : ∀ W, (Instr.index 9 (.string t) (.int .i64 ((t.size : Int) - 1))).run Tryz.prog W = .ok (.int .u8 (y : Int)) W := fun W => by
      have h := run_ixH t (t.size - 1) (by omega) W
      rw [← hy, Int.ofNat_sub (by omega)] at h
      exact h
    by_cases hy0 : y = 0
    · have HZ9 : Hid (∃ j, j < t.size - 1 ∧ txH t j ≠ 0) := by
        obtain ⟨j, hj, hn⟩ := HZ.out
        refine ⟨j, ?_, hn⟩
        by_cases ej : j = t.size - 1
        · rw [ej, ← hy] at hn; exact absurd hy0 hn
        · omega
      subst hy0
      clear hy HZ
      go_wp2
      go_roundw
      case rel =>
        refine ⟨t.extract 0 (t.size - 1), ?_, by simp; omega, ?_, hg⟩
        · congr 2 <;> omega
        · obtain ⟨j, hj, hn⟩ := HZ9.out
          refine ⟨j, by simpa using hj, ?_⟩
          rw [txH_ext t 0 (t.size - 1) j (by omega) (by omega), Nat.zero_add]
          exact hn
      case measure => simp; omega
    · have d1 : ((y : Int) == 0) = false := by simp; omega
      clear hy hy0
      go_wp2
      go_ret
      exact ⟨t, rfl, ht, HZ.out, hg⟩
set_option maxHeartbeats 1000000 in
theorem trimL_some (s : ByteArray) (w : World) (hs : s.size ≤ 1000) (hz : ∃ j, j < s.size ∧ txH s j ≠ 0) :
    Calls Tryz.prog 296 #[.string s, .int .u8 0] w fun e w' => ∃ t : ByteArray, e = .returned (.string t) ∧ 0 < t.size ∧ w.grownBy w' none := by
  have HZ : Hid (∃ j, j < s.size ∧ txH s j ≠ 0) := hz
  clear hz
  go_enter Tryz.func296, Tryz.ntmps296
  go_wp2
  go_loopw [0] (fun v wr => ∃ t : ByteArray, v = .string t ∧ t.size ≤ 1000 ∧ Hid (∃ j, j < t.size ∧ txH t j ≠ 0) ∧ w.grownBy wr none) (fun v _ => match v with | .string t => t.size | _ => 0)
  case atStart => exact ⟨s, rfl, hs, HZ, World.grownBy.refl _ _⟩
  case round =>
    clear HZ
    obtain ⟨t, rfl, ht, HZ, hg⟩ := hrel
    have h0 : 0 < t.size := by obtain ⟨j, hj, _⟩ := HZ.out; omega
    have b0 : (0 : Int) < (t.size : Int) := by omega
    obtain ⟨y, hy⟩ : ∃ y : Nat, y = txH t 0 := ⟨_, rfl⟩
    have x1 : ∀ W, (Instr.index 9 (.string t) (.int .i64 0)).run Tryz.prog W = .ok (.int .u8 (y : Int)) W := fun W => by
      have h := run_ixH t 0 h0 W
      rw [← hy] at h
      exact h
    by_cases hy0 : y = 0
    · have HZ9 : Hid (∃ j, j + 1 < t.size ∧ txH t (j + 1) ≠ 0) := by
        obtain ⟨j, hj, hn⟩ := HZ.out
        by_cases ej : j = 0
        · rw [ej, ← hy] at hn; exact absurd hy0 hn
        · exact ⟨j - 1, by omega, by rw [show j - 1 + 1 = j by omega]; exact hn⟩
      subst hy0
      clear hy HZ
      go_wp2
      go_roundw
      case rel =>
        refine ⟨t.extract 1 t.size, rfl, by simp; omega, ?_, hg⟩
        obtain ⟨j, hj, hn⟩ := HZ9.out
        refine ⟨j, by simp; omega, ?_⟩
        rw [txH_ext t 1 t.size j (by omega) (by omega), Nat.add_comm]
        exact hn
      case measure => simp; omega
    · have d1 : ((y : Int) == 0) = false := by simp; omega
      clear hy hy0
      go_wp2
      go_ret
      exact ⟨t, rfl, h0, hg⟩
theorem ne_isEmpty (s : ByteArray) (h0 : 0 < s.size) : s.toList.isEmpty = false := by
  rw [ByteArray.toList_eq]
  cases h : s.data.toList with
  | nil =>
    exfalso
    have h2 := congrArg List.length h
    rw [Array.length_toList] at h2
    have h3 : s.size = 0 := h2
    omega
  | cons a l => rfl
set_option maxHeartbeats 1000000 in
set_option maxRecDepth 20000 in
theorem trim_some (s : ByteArray) (w : World) (hs : s.size ≤ 1000) (hz : ∃ j, j < s.size ∧ txH s j ≠ 0) :
    Calls Tryz.prog 213 #[.string s, .string (ByteArray.mk #[0])] w fun e w' => ∃ t : ByteArray, e = .returned (.string t) ∧ 0 < t.size ∧ w.grownBy w' none := by
  have HT : Hid (∀ W, Calls Tryz.prog 297 #[.string s, .int .u8 0] W fun e w' => ∃ t : ByteArray, e = .returned (.string t) ∧ t.size ≤ 1000 ∧ (∃ j, j < t.size ∧ txH t j ≠ 0) ∧ W.grownBy w' none) := fun W => trimR_some s W hs hz
  have HL : Hid (∀ W t, t.size ≤ 1000 → (∃ j, j < t.size ∧ txH t j ≠ 0) → Calls Tryz.prog 296 #[.string t, .int .u8 0] W fun e w' => ∃ u : ByteArray, e = .returned (.string u) ∧ 0 < u.size ∧ W.grownBy w' none) := fun W t h1 h2 => trimL_some t W h1 h2
  have d0 : s.toList.isEmpty = false := ne_isEmpty s (by obtain ⟨j, hj, _⟩ := hz; omega)
  clear hz
  go_enter Tryz.func213, Tryz.ntmps213
  go_wp2_with fail
  go_region_with (first | (go_at_call 297; refine (HT.out _).mono ?_; rintro e w5 ⟨t, rfl, ht, hz, g5⟩) | (go_at_call 296; refine (HL.out _ t ht hz).mono ?_; rintro e w6 ⟨u, rfl, hu, g6⟩))
  all_goals (
    go_wp2
    go_ret
    exact ⟨u, rfl, hu, grownBy_trans (grown_drew (World.grownBy.refl w none)) (grownBy_trans g5 g6)⟩)
end Go.Proofs.YtkijpphmiogbbaaGreatDoor

namespace Go.Proofs.YtkijpphmiogbbaaGreatDoor
open Go.RowKit
attribute [local go_sem ↓] Go.wp_at_zero Go.wp_at_succ

set_option maxHeartbeats 2000000 in
set_option maxRecDepth 20000 in
theorem sUnpack_all (k o : Nat) (g : Int) (t : ByteArray) (w : World) (hk : k ≤ 8) (ho : o ≤ 80) (ht : t.size = o + k) :
    Calls Tryz.prog 140 #[.agg #[.int .i64 g, .int .i64 (k : Int), .int .i64 (o : Int)], .string t] w fun e w' => ((rgood (txH t) k o ∧ ∃ N, e = .returned (.tuple #[.slice (some ⟨N, 0, none⟩) k k, .bool true]) ∧ ∀ s, s < k → PRow .u32 w' N (256 * s) (rdL (txH t) o s)) ∨ (¬ rgood (txH t) k o ∧ e = .returned (.tuple #[.slice none 0 0, .bool false]))) ∧ w.grownBy w' none := by
  obtain ⟨P, hP⟩ : ∃ P, P = t.extract 0 o := ⟨_, rfl⟩
  obtain ⟨E, hE⟩ : ∃ E, E = t.extract o (o + k) := ⟨_, rfl⟩
  have Psz : P.size = o := by rw [hP]; simp; omega
  have Esz : E.size = k := by rw [hE]; simp; omega
  have HPx : Hid (∀ p, p < o → txH P p = txH t p) := fun p hp => by rw [hP, txH_ext t 0 o p (by omega) (by omega), Nat.zero_add]
  have HEx : Hid (∀ s, s < k → txH E s = txH t (o + s)) := fun s hs => by rw [hE, txH_ext t o (o + k) s (by omega) (by omega)]
  have HTL : Hid (∀ n, txH t n < 256) := fun n => txH_lt t n
  have hP' := hP.symm
  have hE' := hE.symm
  clear hP hE
  have l1 : (o : Int) ≤ (t.size : Int) := by omega
  have l2 : o ≤ t.size := by omega
  have hsz : t.size = o + k := ht
  have s1 := setAt_new w g k o 176
  have g1 := World.grownBy_alloc w (.cells #[.int .i64 g, .int .i64 (k : Int), .int .i64 (o : Int)] 176) none
  have e1 := World.size_alloc w (.cells #[.int .i64 g, .int .i64 (k : Int), .int .i64 (o : Int)] 176)
  have co := s1.o
  have ck := s1.k
  clear ht
  go_enter Tryz.func140, Tryz.ntmps140
  go_wp2_with fail
  go_quiet (fail)
  have g2 : w.grownBy ((w.alloc (.cells #[.int .i64 g, .int .i64 (k : Int), .int .i64 (o : Int)] 176)).drewN nq) none := ⟨g1.os, g1.tape, g1.output, g1.size, g1.block⟩
  have s2 : SetAt ((w.alloc (.cells #[.int .i64 g, .int .i64 (k : Int), .int .i64 (o : Int)] 176)).drewN nq) w.heap.size g k o := ⟨s1.g, s1.k, s1.o⟩
  have e2 : ((w.alloc (.cells #[.int .i64 g, .int .i64 (k : Int), .int .i64 (o : Int)] 176)).drewN nq).heap.size = w.heap.size + 1 := e1
  generalize (w.alloc (.cells #[.int .i64 g, .int .i64 (k : Int), .int .i64 (o : Int)] 176)).drewN nq = w2 at *
  clear s1 g1 e1 co ck hP' hE' l1 l2
  have ck := s2.k
  have hmk := fun W => mk32 k hk W
  have z3 := made_rows .u32 w2 k 166
  have g3 := World.grownBy_alloc w2 (.cells (madeCells (polyA .u32 (fun _ => 0)) (k * 256)) 166) none
  have s3 := s2.new g3
  have ck3 := s3.k
  go_wp2
  generalize w2.alloc (.cells (madeCells (polyA .u32 (fun _ => 0)) (k * 256)) 166) = w3 at *
  have hg := grownBy_trans g2 g3
  obtain ⟨D, hD⟩ : ∃ D, D = w.heap.size := ⟨_, rfl⟩
  rw [e2] at z3
  rw [← hD] at s3 z3 ⊢
  have hN : Nar .u32 w3 (D + 1) k 0 (rdL (txH t) o) := ⟨fun s hs => absurd hs (by omega), fun s _ hs => z3 s hs⟩
  have hD' : w.heap.size ≤ D := by omega
  clear hD g2 s2 e2 ck hmk z3 g3 ck3
  go_loopw [9, 10, 11, 12, 26] (fun rd _ _ _ i wr => ∃ q : Nat, q ≤ k ∧ i = .int .i64 q ∧ rd = .int .i64 (rst (txH t) o q : Nat) ∧ w.grownBy wr none ∧ SetAt wr D g k o ∧ Hid (Nar .u32 wr (D + 1) k q (rdL (txH t) o) ∧ ∀ j, j < q → rokA (txH t) o j) ∧ rst (txH t) o q ≤ o) (fun _ _ _ _ i _ => k - (intOf i).toNat)
  case atStart => exact ⟨0, by omega, rfl, rfl, hg, s3, ⟨hN, fun j hj => absurd hj (by omega)⟩, Nat.zero_le _⟩
  case round =>
    clear hg s3 hN
    obtain ⟨q, hq, rfl, rfl, hg, hS, HN, hro⟩ := hrel
    by_cases hlt : q < k
    · have a0 : (0 : Int) ≤ (q : Int) := by omega
      have a1 : (q : Int) < (k : Int) := by omega
      have xE := fun W => run_ixH E q (by omega) W
      rw [HEx.out q hlt] at xE
      have tl := HTL.out (o + q)
      have HE : Hid (rst (txH t) o (q + 1) = txH t (o + q)) := rfl
      have co := hS.o
      obtain ⟨e, he⟩ : ∃ e, e = txH t (o + q) := ⟨_, rfl⟩
      obtain ⟨a, ha⟩ : ∃ a, a = rst (txH t) o q := ⟨_, rfl⟩
      rw [← he] at xE tl HE
      rw [← ha] at hro ⊢
      have cw : IntKind.i64.wrap (e : Int) = (e : Int) := by rw [IntKind.wrap_i64] <;> omega
      have HA : Hid (a = rst (txH t) o q) := ha
      clear he ha
      by_cases h1 : e < a
      · have d1 : decide ((e : Int) < (a : Int)) = true := by simp; omega
        have HF : Hid (¬ rgood (txH t) k o) := fun h => by
          have h2 := (h.1 q hlt).1
          rw [HE.out, ← HA.out] at h2
          omega
        clear HN hS
        go_wp2
        go_ret2
        exact ⟨Or.inr ⟨HF.out, rfl⟩, hg⟩
      · by_cases h2 : o < e
        · have d1 : decide ((e : Int) < (a : Int)) = false := by simp; omega
          have d2 : decide ((o : Int) < (e : Int)) = true := by simp; omega
          have HF : Hid (¬ rgood (txH t) k o) := fun h => by
            have h3 := (h.1 q hlt).2.1
            rw [HE.out] at h3
            omega
          clear HN hS
          go_wp2
          go_ret2
          exact ⟨Or.inr ⟨HF.out, rfl⟩, hg⟩
        · have d1 : decide ((e : Int) < (a : Int)) = false := by simp; omega
          have d1' : decide (e < a) = false := by simp; omega
          have d2 : decide ((o : Int) < (e : Int)) = false := by simp; omega
          have d2' : decide (o < e) = false := by simp; omega
          have hle : a ≤ e := by omega
          have heo : e ≤ o := by omega
          have l3 : (a : Int) ≤ (e : Int) := by omega
          have l4 : (e : Int) ≤ (o : Int) := by omega
          have HRs : Hid (∀ W, Calls Tryz.prog 212 #[.string (P.extract a e)] W fun x w' => ((x = .returned (.bool true) ∧ ∀ n, a < n → n < e → txH t (n - 1) < txH t n) ∨ (x = .returned (.bool false) ∧ ¬ ∀ n, a < n → n < e → txH t (n - 1) < txH t n)) ∧ W.grownBy w' none) := fun W => by
            have hsz2 : (P.extract a e).size = e - a := by simp; omega
            have hx : ∀ j, j < e - a → txH (P.extract a e) j = txH t (a + j) := fun j hj => by rw [txH_ext P a e j (by omega) (by omega)]; exact HPx.out (a + j) (by omega)
            refine (rising_all (P.extract a e) W (by omega)).mono ?_
            rintro x w' ⟨⟨rfl, h⟩ | ⟨rfl, j, hj, h⟩, hg⟩
            · refine ⟨Or.inl ⟨rfl, fun n n1 n2 => ?_⟩, hg⟩
              have h5 := h (n - 1 - a) (by omega)
              rw [hx _ (by omega), hx _ (by omega)] at h5
              rw [show a + (n - 1 - a) = n - 1 by omega, show a + (n - 1 - a + 1) = n by omega] at h5
              exact h5
            · refine ⟨Or.inr ⟨rfl, fun h9 => h ?_⟩, hg⟩
              rw [hsz2] at hj
              have h5 := h9 (a + j + 1) (by omega) (by omega)
              rw [hx _ (by omega), hx _ (by omega)]
              rw [Nat.add_sub_cancel] at h5
              exact h5
          have HK : Hid (SetAt wr D g k o ∧ Nar .u32 wr (D + 1) k q (rdL (txH t) o) ∧ ∀ j, j < q → rokA (txH t) o j) := ⟨hS, HN.out.1, HN.out.2⟩
          clear hS HN h1 h2
          go_wp2_with fail
          refine (HRs.out _).mono ?_
          rintro x w5 ⟨hres, g5⟩
          have hg5 := grownBy_trans hg g5
          rcases hres with ⟨rfl, hri⟩ | ⟨rfl, hri⟩
          · have hS5 := HK.out.1.new g5
            have hR5 : Rdn .u32 w5 (D + 1) k q 0 o (txH t) := Rdn.begin (HK.out.2.1.new g5) hlt
            have HOK : Hid (∀ j, j < q + 1 → rokA (txH t) o j) := fun j hj => by
              by_cases ej : j = q
              · subst ej
                exact ⟨by rw [HE.out, ← HA.out]; exact hle, by rw [HE.out]; exact heo, fun n h3 h4 => hri n (by rw [HA.out]; exact h3) (by rw [HE.out] at h4; exact h4)⟩
              · exact HK.out.2.2 j (by omega)
            obtain ⟨m, hm⟩ : ∃ m, m = e - a := ⟨_, rfl⟩
            have hsub : (e : Int) - (a : Int) = (m : Int) := by omega
            have HM : Hid (m = e - a ∧ e = a + m) := ⟨hm, by omega⟩
            have hmo : a + m ≤ o := by omega
            clear HRs HK hg g5 co d1 d1' d2 d2' l3 l4 xE cw hri hm
            go_wp2
            go_loopw [12, 53] (fun _ i wr => ∃ j : Nat, j ≤ m ∧ i = .int .i64 j ∧ w.grownBy wr none ∧ SetAt wr D g k o ∧ Rdn .u32 wr (D + 1) k q j o (txH t)) (fun _ i _ => m - (intOf i).toNat)
            case atStart => exact ⟨0, by omega, rfl, hg5, hS5, hR5⟩
            case round =>
              clear hg5 hS5 hR5
              obtain ⟨j, hj, rfl, hg, hS, hR⟩ := hrel
              by_cases hl2 : j < m
              · have b0 : (0 : Int) ≤ (j : Int) := by omega
                have b1 : (j : Int) < (m : Int) := by omega
                have xP := fun W => run_ixH P (a + j) (by omega) W
                rw [HPx.out (a + j) (by omega), Int.natCast_add] at xP
                have p1 := HTL.out (a + j)
                have HY : Hid (∀ y, y = txH t (a + j) → Rdn .u32 (wr.drew.setCell ⟨D + 1, 256 * q + y, none⟩ (.int .u32 1)) (D + 1) k q (j + 1) o (txH t)) := fun y hy => by
                  have h4 := hR.drew.step (by rw [← HA.out]; exact p1)
                  rw [← HA.out, ← hy] at h4
                  exact h4
                obtain ⟨p, hp⟩ : ∃ p, p = txH t (a + j) := ⟨_, rfl⟩
                rw [← hp] at xP p1
                have q0 : (0 : Int) ≤ (p : Int) := by omega
                have q1 : (p : Int) < 256 := by omega
                have ix := fun W => ixPolys32 (D + 1) k q hlt W
                have hc := hR.now p p1
                have cc : wr.drew.cell? ⟨D + 1, 256 * q + p, none⟩ = _ := hc.1
                have ff : wr.drew.frozen? ⟨D + 1, 256 * q + p, none⟩ = _ := hc.2
                have HK : Hid (w.grownBy wr none ∧ SetAt wr D g k o ∧ p = txH t (a + j)) := ⟨hg, hS, hp⟩
                clear hg hS hR hc hp
                go_wp2_with fail
                go_region
                go_wp2
                go_roundw
                case rel =>
                  obtain ⟨hg, hS, hp⟩ := HK.out
                  exact ⟨j + 1, by omega, by go_num, grown_setNew (grown_drew hg) (by simp; omega) _, ⟨(hS.set_other (by simp) _).g, (hS.set_other (by simp) _).k, (hS.set_other (by simp) _).o⟩, HY.out p hp⟩
                case measure => simp [intOf]; omega
              · have hk6 : j = m := by omega
                subst hk6
                have HN' : Hid (Nar .u32 wr (D + 1) k (q + 1) (rdL (txH t) o)) := Rdn.end (by rw [HE.out, ← HA.out, ← HM.out.1]; exact hR)
                clear hR
                go_wp2
                go_roundw
                case rel => exact ⟨q + 1, by omega, by go_num, by rw [HE.out], hg, hS, ⟨HN'.out, HOK.out⟩, by rw [HE.out]; exact heo⟩
                case measure => simp [intOf]; omega
          · have HF : Hid (¬ rgood (txH t) k o) := fun h => hri (fun n h3 h4 => (h.1 q hlt).2.2 n (by rw [← HA.out]; exact h3) (by rw [HE.out]; exact h4))
            clear HRs HK hg g5 co d1 d1' d2 d2' l3 l4 xE cw hri
            go_wp2
            go_ret2
            exact ⟨Or.inr ⟨HF.out, rfl⟩, hg5⟩
    · have hqk : q = k := by omega
      subst hqk
      obtain ⟨a, ha⟩ : ∃ a, a = rst (txH t) o q := ⟨_, rfl⟩
      rw [← ha] at hro ⊢
      have HA : Hid (a = rst (txH t) o q) := ha
      have hsz2 : (P.extract a o).size = o - a := by simp; omega
      have hx : ∀ j, j < o - a → txH (P.extract a o) j = txH t (a + j) := fun j hj => by rw [txH_ext P a o j (by omega) (by omega)]; exact HPx.out (a + j) (by omega)
      have l3 : (a : Int) ≤ (o : Int) := by omega
      clear ha hlt hq
      by_cases hz : ∀ n, a ≤ n → n < o → txH t n = 0
      · have HTr : Hid (∀ W, Calls Tryz.prog 213 #[.string (P.extract a o), .string (ByteArray.mk #[0])] W fun e w' => e = .returned (.string (ByteArray.mk #[])) ∧ W.grownBy w' none) := fun W => by
          refine trim_any _ W (by omega) (fun j hj => ?_)
          rw [hx j (by omega)]
          exact hz (a + j) (by omega) (by omega)
        have HF : Hid (rgood (txH t) q o ∧ ∀ u, u < q → PRow .u32 wr (D + 1) (256 * u) (rdL (txH t) o u)) := ⟨⟨HN.out.2, fun n h3 h4 => hz n (by rw [HA.out]; exact h3) h4⟩, fun u hu => HN.out.1.done u hu⟩
        clear HN hz hx hsz2
        go_wp2_with (first | (go_at_call 213; refine (HTr.out _).mono ?_; rintro e w7 ⟨rfl, g7⟩))
        go_ret2
        exact ⟨Or.inl ⟨HF.out.1, D + 1, rfl, fun u hu => (HF.out.2 u hu).new g7⟩, grownBy_trans hg g7⟩
      · have HTr : Hid (∀ W, Calls Tryz.prog 213 #[.string (P.extract a o), .string (ByteArray.mk #[0])] W fun e w' => ∃ u : ByteArray, e = .returned (.string u) ∧ 0 < u.size ∧ W.grownBy w' none) := fun W => by
          refine trim_some _ W (by omega) ?_
          by_cases hex : ∃ j, j < o - a ∧ txH t (a + j) ≠ 0
          · obtain ⟨j, hj, hn⟩ := hex
            exact ⟨j, by omega, by rw [hx j hj]; exact hn⟩
          · exfalso
            apply hz
            intro n h3 h4
            by_cases h5 : txH t n = 0
            · exact h5
            · exact absurd ⟨n - a, by omega, by rw [show a + (n - a) = n by omega]; exact h5⟩ hex
        have HF : Hid (¬ rgood (txH t) q o) := fun h => hz (fun n h3 h4 => h.2 n (by rw [← HA.out]; exact h3) h4)
        clear HN hz hx hsz2
        go_wp2_with fail
        refine (HTr.out _).mono ?_
        rintro e w7 ⟨u, rfl, hu, g7⟩
        have d0 := ne_isEmpty u hu
        go_wp2
        go_ret2
        exact ⟨Or.inr ⟨HF.out, rfl⟩, grownBy_trans hg g7⟩
end Go.Proofs.YtkijpphmiogbbaaGreatDoor
