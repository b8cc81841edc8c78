import Derived.Test.YtkijpphmiogbbaaGreatDoorH25
import Derived.Test.YtkijpphmiogbbaaGreatDoorH26
namespace Go.Proofs.YtkijpphmiogbbaaGreatDoor
open Go.RowKit
attribute [local go_sem ↓] Go.wp_at_zero Go.wp_at_succ

theorem sqTo_add (s : Spg) (a : Nat) : ∀ b, sqTo s (a + b) = sqTo (sqTo s a) b
  | 0 => rfl
  | b + 1 => by show sqNext (sqTo s (a + b)) = _; rw [sqTo_add s a b]; rfl
theorem outI_add (s : Spg) (a k : Nat) : outI (sqTo s a) k = outI s (a + k) := by unfold outI; rw [sqTo_add]
def outL (s : Spg) (n : Nat) : List UInt8 := (List.range n).map (fun k => UInt8.ofNat (outI s k).toNat)
theorem foldl_pushes (l : List Int) : ∀ r : ByteArray, (l.foldl (fun r k => r.push (UInt8.ofNat k.toNat)) r).data.toList = r.data.toList ++ l.map (fun k => UInt8.ofNat k.toNat) := by
  induction l with
  | nil => intro r; simp
  | cons x l ih => intro r; rw [List.foldl_cons, ih]; simp [ByteArray.push]
theorem outStr_list (s : Spg) (n : Nat) : (outStr s n).data.toList = outL s n := by
  unfold outStr outL; rw [foldl_pushes, List.map_map]; rfl
theorem outStr_size (s : Spg) (n : Nat) : (outStr s n).size = n := by
  show (outStr s n).data.size = n
  rw [← Array.length_toList, outStr_list]; simp [outL]
theorem bytes_ext {a b : ByteArray} (h : a.data.toList = b.data.toList) : a = b := by
  cases a; cases b; simp at h; simpa using h
theorem outL_add (s : Spg) (a b : Nat) : outL s (a + b) = outL s a ++ outL (sqTo s a) b := by
  unfold outL
  rw [List.range_add, List.map_append, List.map_map]
  congr 1
  apply List.map_congr_left
  intro k _
  show UInt8.ofNat (outI s (a + k)).toNat = _
  rw [outI_add]
theorem outStr_add (s : Spg) (a b : Nat) : outStr s a ++ outStr (sqTo s a) b = outStr s (a + b) := by
  apply bytes_ext
  rw [outStr_list, outL_add, ← outStr_list, ← outStr_list]
  simp
theorem outL_take (s : Spg) (m n : Nat) (h : m ≤ n) : (outL s n).take m = outL s m := by
  obtain ⟨k, rfl⟩ : ∃ k, n = m + k := ⟨n - m, by omega⟩
  rw [outL_add, List.take_append_of_le_length (by simp [outL]), List.take_of_length_le (by simp [outL])]
theorem extract_list (t : ByteArray) (a b : Nat) : (t.extract a b).data.toList = (t.data.toList.take b).drop a := by
  rw [ByteArray.data_extract]
  simp [Array.toList_extract, List.extract_eq_take_drop, List.drop_take]
theorem outStr_prefix (s : Spg) (m n : Nat) (h : m ≤ n) : (outStr s n).extract 0 m = outStr s m := by
  apply bytes_ext
  rw [extract_list, outStr_list, outStr_list, List.drop_zero, outL_take s m n h]
theorem cut_list (t : ByteArray) (k : Nat) : (t.extract 0 k).data.toList ++ (t.extract k t.size).data.toList = t.data.toList := by
  rw [extract_list, extract_list, List.drop_zero, List.take_of_length_le (i := t.size) (by show t.data.toList.length ≤ t.data.size; simp)]
  exact List.take_append_drop k _

def Ready (s : Spg) : Prop := (Takes s ∧ s.spent = false) ∨ Gives s
theorem ended_gives {s : Spg} (h : Ready s) : Gives (ended s) := by
  unfold ended
  rcases h with ⟨h1, h2⟩ | h
  · rw [h2]; exact finish_gives h1
  · rw [if_pos h.sp]; exact h
theorem ended_of_gives {s : Spg} (h : Gives s) : ended s = s := by unfold ended; rw [if_pos h.sp]
theorem ended_fresh {s : Spg} (h : s.spent = false) : ended s = finishS s := by unfold ended; rw [h]; rfl
theorem squeeze_any (b : Nat) (hb4 : 4 ≤ b) (n : Nat) (hn : n ≤ 10000) (s : Spg) (hs : Ready s) (w : World) (hS : Sp w b s) (hG : Globs w) :
    Calls Tryz.prog 47 #[.pointer (some ⟨b, 0, none⟩), .int .i64 n] w fun e w' => e = .returned (.tuple #[.string (outStr (ended s) n), .nilIface]) ∧ w.grownBy w' (some b) ∧ Sp w' b (sqTo (ended s) n) := by
  rcases hs with ⟨h1, h2⟩ | h
  · rw [ended_fresh h2]; exact squeeze_fresh b hb4 n hn s h1 h2 w hS hG
  · rw [ended_of_gives h]; exact squeeze_spent b hb4 n hn s h w hS hG

set_option maxHeartbeats 1000000 in
theorem told_6 (w : World) (hG : Globs w) :
    Calls Tryz.prog 95 #[.iface 138 (.int .i64 6)] w fun e w' => e = .returned (.int .i64 6) ∧ w.grownBy w' none := by
  have hlt : 0 < w.heap.size := by have := cell_lt hG.et; simpa using this
  have hg : (w.alloc (.cells #[.int .i64 0] 138)).cell? ⟨0, 0, none⟩ = some (.iface 370 (.agg #[.pointer (some ⟨7, 73, none⟩)])) := by
    rw [World.cell?_alloc_lt _ _ ⟨0, 0, none⟩ hlt]; exact hG.et
  go_enter Tryz.func95, Tryz.ntmps95
  go_wp2_with fail
  refine (as_hit 6 ⟨w.heap.size, 0, none⟩ (.int .i64 0) _ hg (by simp) (World.frozen?_alloc_at _ _ _ _ rfl)).mono ?_
  rintro e w1 ⟨rfl, hw1⟩
  have g1 : w.grownBy w1 none := by
    rw [hw1]
    refine grown_new (h := w.heap.size) ?_ (grown_set _ _ _ _) (Nat.le_refl _)
    exact grownBy_trans (grownBy_trans (grownBy_trans (grownBy_trans (World.grownBy_alloc _ _ _) (World.grownBy_alloc _ _ _)) (World.grownBy_alloc _ _ _)) (World.grownBy_alloc _ _ _)) (World.grownBy_alloc _ _ _)
  have c1 : w1.cell? ⟨w.heap.size, 0, none⟩ = some (.int .i64 6) := by
    rw [hw1]
    refine cell_same (u := .int .i64 0) ?_
    rw [World.cell?_alloc_lt _ _ ⟨w.heap.size, 0, none⟩ (by simp; omega), World.cell?_alloc_lt _ _ ⟨w.heap.size, 0, none⟩ (by simp; omega), World.cell?_alloc_lt _ _ ⟨w.heap.size, 0, none⟩ (by simp; omega), World.cell?_alloc_lt _ _ ⟨w.heap.size, 0, none⟩ (by simp)]
    simp
  clear hw1 hg
  go_wp2
  go_ret
  exact ⟨rfl, g1⟩
end Go.Proofs.YtkijpphmiogbbaaGreatDoor
