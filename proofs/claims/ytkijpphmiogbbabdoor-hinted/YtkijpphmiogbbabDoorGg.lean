import Derived.Test.YtkijpphmiogbbabDoorGf
import Derived.BigQuiet
namespace Go.Proofs.YtkijpphmiogbbabDoor
open Go.RowKit
attribute [local go_sem ↓] Go.wp_at_zero Go.wp_at_succ
attribute [local go_sem] Tryd.zv24 Tryd.zv51

set_option maxHeartbeats 2000000 in
set_option maxRecDepth 20000 in
theorem PackHint_any (Ls : Nat → Nat → Int) (k o : Nat) (n g : Int) (b cp : Nat) (w : World) (hs : IsSet n g k o) (h01 : ∀ s, s < k → ∀ i, i < 256 → 0 ≤ Ls s i ∧ Ls s i < 2) (htot : tot Ls k ≤ o) (hr : ∀ s, s < k → PRow .i64 w b (256 * s) (Ls s)) :
    Calls Tryd.prog 11 #[.int .i64 n, .slice (some ⟨b, 0, none⟩) k cp] w fun e w' => ∃ B : Nat → Int, Pck Ls k o B ∧ (∀ p, 0 ≤ B p ∧ B p < 256) ∧ e = .returned (.tuple #[.string (strH B (o + k)), .nilIface]) ∧ w.grownBy w' none := by
  have hko : k ≤ 8 ∧ o ≤ 80 := by unfold IsSet at hs; omega
  have HN : Hid (∀ W, Calls Tryd.prog 13 #[.int .i64 n] W fun e w' => e = .returned (.tuple #[.agg #[.int .i64 g, .int .i64 (k : Int), .int .i64 (o : Int)], .nilIface]) ∧ W.grownBy w' none) := fun W => New_any n g k o W hs
  have HW : Hid (∀ W, w.grownBy W none → Calls Tryd.prog 14 #[.int .i64 2, .slice (some ⟨b, 0, none⟩) k cp] W fun e w' => e = .returned (.tuple #[.slice (some ⟨W.heap.size, 0, none⟩) k k, .nilIface]) ∧ W.grownBy w' none ∧ ∀ s, s < k → PRow .u32 w' W.heap.size (256 * s) (Ls s)) := fun W hg => narrowed32_ok Ls 2 b k cp W hko.1 (by omega) h01 (fun s hs => (hr s hs).new hg)
  have HP : Hid (∀ W c, (∀ s, s < k → PRow .u32 W c (256 * s) (Ls s)) → Calls Tryd.prog 23 #[.agg #[.int .i64 g, .int .i64 (k : Int), .int .i64 (o : Int)], .slice (some ⟨c, 0, none⟩) k k] W fun e w' => ∃ B : Nat → Int, Pck Ls k o B ∧ (∀ p, 0 ≤ B p ∧ B p < 256) ∧ e = .returned (.tuple #[.string (strH B (o + k)), .bool true]) ∧ W.grownBy w' none) := fun W c h => sPack_any Ls k o g c W hko.1 hko.2 h01 htot h
  have k8 := hko.1
  have o80 := hko.2
  clear hs h01 htot hr hko
  go_enter Tryd.func11, Tryd.ntmps11
  go_wp2_with fail
  refine (HN.out _).mono ?_
  rintro e w2 ⟨rfl, g2⟩
  have g3 := World.grownBy_alloc w2 (.cells #[.int .i64 g, .int .i64 (k : Int), .int .i64 (o : Int)] 43) none
  have S3 := setAt_new w2 g k o 43
  have q3 := grownBy_trans g2 g3
  have c1 := S3.k
  clear g2 g3
  go_wp2_with fail
  generalize w2.alloc (.cells #[.int .i64 g, .int .i64 (k : Int), .int .i64 (o : Int)] 43) = w3 at *
  refine (HW.out w3 q3).mono ?_
  rintro e w5 ⟨rfl, g5, r5⟩
  have S5 := S3.new g5
  have q5 := grownBy_trans q3 g5
  have d0 := S5.g
  have d1 := S5.k
  have d2 := S5.o
  have HR5 : Hid (∀ s, s < k → PRow .u32 w5 w3.heap.size (256 * s) (Ls s)) := r5
  clear c1 S3 q3 g5 S5 r5
  go_wp2_with fail
  refine (HP.out w5 w3.heap.size HR5.out).mono ?_
  rintro e w6 ⟨B, hB, hBB, rfl, g6⟩
  have HB : Hid (Pck Ls k o B ∧ ∀ p, 0 ≤ B p ∧ B p < 256) := ⟨hB, hBB⟩
  clear hB hBB d0 d1 d2 HR5
  go_wp2
  go_ret2
  exact ⟨B, HB.out.1, HB.out.2, rfl, grownBy_trans q5 g6⟩
/-- A byte of a text. -/
def txH (s : ByteArray) (j : Nat) : Nat := (s.data.toList.getD j 0).toNat
theorem run_ixH (s : ByteArray) (x : Nat) (h : x < s.size) (W : World) : (Instr.index 9 (.string s) (.int .i64 (x : Int))).run Tryd.prog W = .ok (.int .u8 ((txH s x : Nat) : Int)) W := by
  rw [run_index_string W 9 s .i64 x (by kernel_rfl), dif_pos ⟨by omega, by omega⟩]
  congr 2
  unfold txH
  have h' : x < s.data.toList.length := by simpa using h
  rw [List.getD_eq_getElem?_getD, List.getElem?_eq_getElem h']
  simp [ByteArray.getElem_eq_getElem_data]
theorem txH_ext (s : ByteArray) (a b j : Nat) (_hb : b ≤ s.size) (hj : a + j < b) : txH (s.extract a b) j = txH s (a + j) := by
  unfold txH
  have h1 : (s.extract a b).data.toList = (s.data.toList.take b).drop a := by
    rw [ByteArray.data_extract]
    simp [Array.toList_extract, List.extract_eq_take_drop, List.drop_take]
  rw [h1, List.getD_eq_getElem?_getD, List.getD_eq_getElem?_getD, List.getElem?_drop, List.getElem?_take, if_pos hj]
theorem txH_str (f : Nat → Int) (n j : Nat) (hj : j < n) (h0 : 0 ≤ f j) (h1 : f j < 256) : ((txH (strH f n) j : Nat) : Int) = f j := by
  unfold txH
  rw [strH_list, List.getD_eq_getElem?_getD, List.getElem?_map, List.getElem?_range hj]
  show (((UInt8.ofNat (f j).toNat).toNat : Nat) : Int) = f j
  rw [UInt8.toNat_ofNat']
  omega
set_option maxHeartbeats 1000000 in
theorem rising_any (s : ByteArray) (w : World) (hs : s.size ≤ 1000) (hr : ∀ j, j + 1 < s.size → txH s j < txH s (j + 1)) :
    Calls Tryd.prog 29 #[.string s] w fun e w' => e = .returned (.bool true) ∧ w.grownBy w' none := by
  have HR : Hid (∀ j, j + 1 < s.size → txH s j < txH s (j + 1)) := hr
  have HX : Hid (∀ (x : Nat) W, x < s.size → (Instr.index 9 (.string s) (.int .i64 (x : Int))).run Tryd.prog W = .ok (.int .u8 ((txH s x : Nat) : Int)) W) := fun x W h => run_ixH s x h W
  clear hr
  go_enter Tryd.func29, Tryd.ntmps29
  go_wp2
  go_loopw [3, 7] (fun _ i wr => ∃ j : Nat, (j ≤ s.size - 1) ∧ i = .int .i64 j ∧ w.grownBy wr none) (fun _ i _ => s.size - (intOf i).toNat)
  case atStart => exact ⟨0, by omega, rfl, World.grownBy.refl _ _⟩
  case round =>
    obtain ⟨j, hj, rfl, hg⟩ := hrel
    by_cases hlt : j + 1 < s.size
    · have b0 : (0 : Int) ≤ (j : Int) := by omega
      have b1 : (j : Int) < (s.size : Int) - 1 := by omega
      have x1 := fun W => HX.out j W (by omega)
      have x2 : ∀ W, (Instr.index 9 (.string s) (.int .i64 ((j : Int) + 1))).run Tryd.prog W = .ok (.int .u8 ((txH s (j + 1) : Nat) : Int)) W := fun W => HX.out (j + 1) W (by omega)
      obtain ⟨a, ha⟩ : ∃ a : Int, a = ((txH s j : Nat) : Int) := ⟨_, rfl⟩
      obtain ⟨b, hb⟩ : ∃ b : Int, b = ((txH s (j + 1) : Nat) : Int) := ⟨_, rfl⟩
      have d1 : decide (b ≤ a) = false := by have := HR.out j hlt; simp; omega
      rw [← ha] at x1
      rw [← hb] at x2
      clear ha hb
      go_wp2_with fail
      go_quiet (fail)
      go_wp2
      go_roundw
      case rel => exact ⟨j + 1, by omega, by go_num, ⟨hg.os, hg.tape, hg.output, hg.size, hg.block⟩⟩
      case measure => simp [intOf]; omega
    · have b1 : ¬ (j : Int) < (s.size : Int) - 1 := by omega
      have b2 : decide ((j : Int) < (s.size : Int) - 1) = false := by simp; omega
      go_wp2
      go_ret
      exact ⟨rfl, hg⟩
end Go.Proofs.YtkijpphmiogbbabDoor
