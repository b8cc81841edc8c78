import Derived.Test.YtkijpphmiogbbaaGreatDoorH24
namespace Go.Proofs.YtkijpphmiogbbaaGreatDoor
open Go.RowKit
attribute [local go_sem ↓] Go.wp_at_zero Go.wp_at_succ

set_option maxHeartbeats 400000 in
theorem started_any (b : Nat) (s : Spg) (w : World) (hS : Sp w b s) (hr : 0 < s.rate) :
    Calls Tryz.prog 184 #[.pointer (some ⟨b, 0, none⟩)] w fun e w' => e = .returned (.bool true) ∧ w' = w := by
  have c25 := hS.c25
  have h0 : (((s.rate : Nat) : Int) != 0) = true := by simp; omega
  go_enter Tryz.func184, Tryz.ntmps184
  go_wp2
  go_ret
  exact ⟨rfl, rfl⟩
set_option maxHeartbeats 400000 in
theorem spentM_any (b : Nat) (s : Spg) (w : World) (hS : Sp w b s) :
    Calls Tryz.prog 100 #[.pointer (some ⟨b, 0, none⟩)] w fun e w' => e = .returned (.bool s.spent) ∧ w' = w := by
  have c28 := hS.c28
  go_enter Tryz.func100, Tryz.ntmps100
  go_wp2
  go_ret
  exact ⟨rfl, rfl⟩
set_option maxHeartbeats 400000 in
theorem made_any (b : Nat) (s : Spg) (w : World) (hS : Sp w b s) (hr : 0 < s.rate) :
    Calls Tryz.prog 98 #[.pointer (some ⟨b, 0, none⟩)] w fun e w' => e = .returned (.bool true) ∧ w' = w := by
  go_enter Tryz.func98, Tryz.ntmps98
  go_wp2_with (first | (go_at_call 184; refine (started_any b s _ hS hr).mono ?_; rintro e w' ⟨rfl, rfl⟩))
  go_ret
  exact ⟨rfl, rfl⟩
set_option maxHeartbeats 400000 in
theorem absorb_ok (b : Nat) (hb4 : 4 ≤ b) (t : ByteArray) (ht : t.size ≤ maxLen) (s : Spg) (hs : Takes s) (hsp : s.spent = false) (w : World) (hS : Sp w b s) (hG : Globs w) :
    Calls Tryz.prog 49 #[.pointer (some ⟨b, 0, none⟩), .string t] w fun e w' => e = .returned .nilIface ∧ w.grownBy w' (some b) ∧ Sp w' b (absorbS s t.data.toList) := by
  go_enter Tryz.func49, Tryz.ntmps49
  go_wp2_with fail
  refine (made_any b s _ hS hs.r0).mono ?_
  rintro e w' ⟨rfl, rfl⟩
  go_wp2_with fail
  refine (spentM_any b s _ hS).mono ?_
  rw [hsp]
  rintro e w' ⟨rfl, rfl⟩
  go_wp2_with fail
  refine (spAbsorb_any b hb4 t ht s hs _ hS hG).mono ?_
  rintro e w1 ⟨rfl, hg1, hS1⟩
  go_wp2
  go_ret
  exact ⟨rfl, hg1, hS1⟩
set_option maxHeartbeats 400000 in
theorem absorb_spent (b : Nat) (t : ByteArray) (s : Spg) (hr : 0 < s.rate) (hsp : s.spent = true) (w : World) (hS : Sp w b s) :
    Calls Tryz.prog 49 #[.pointer (some ⟨b, 0, none⟩), .string t] w fun e w' => e = .returned (.iface 138 (.int .i64 6)) ∧ w' = w := by
  go_enter Tryz.func49, Tryz.ntmps49
  go_wp2_with fail
  refine (made_any b s _ hS hr).mono ?_
  rintro e w' ⟨rfl, rfl⟩
  go_wp2_with fail
  refine (spentM_any b s _ hS).mono ?_
  rw [hsp]
  rintro e w' ⟨rfl, rfl⟩
  go_wp2
  go_ret
  exact ⟨rfl, rfl⟩

/-- The first n bytes that come out. -/
def outStr (s : Spg) (n : Nat) : ByteArray := ((List.range n).map (outI s)).foldl (fun r k => r.push (UInt8.ofNat k.toNat)) ByteArray.empty
theorem Tryz.under5 : Tryz.prog.underlying 5 = some (.int .u8) := by kernel_rfl
theorem Tryz.under9 : Tryz.prog.underlying 9 = some .string := by kernel_rfl
theorem run_str (H n : Nat) (s : Spg) (w : World) (hO : RowB w H n (outI s)) :
    (convert 41 9 (.slice (some ⟨H, 0, none⟩) n n)).run Tryz.prog w = .ok (.string (outStr s n)) w := by
  rw [run_convert_bytes_string w 41 9 5 _ n n Tryz.under46 Tryz.under5 Tryz.under9]
  refine run_bytesToString w _ n n ((List.range n).map (outI s)) ?_
  have hl := run_loadCells_list (P := Tryz.prog) w ⟨H, 0, none⟩ (((List.range n).map (outI s)).map (Value.int .u8)) (fun j v hv => by
    have hadd : (⟨H, 0, none⟩ : Addr).add j = ⟨H, j, none⟩ := by unfold Addr.add; split <;> simp_all
    rw [hadd]
    simp only [List.getElem?_map] at hv
    rcases Nat.lt_or_ge j n with h1 | h1
    · rw [List.getElem?_range h1] at hv
      rw [(hO j h1).1]; simpa using hv
    · rw [List.getElem?_eq_none (by simpa using h1)] at hv; cases hv)
  simpa using hl
set_option maxHeartbeats 400000 in
theorem squeeze_spent (b : Nat) (hb4 : 4 ≤ b) (n : Nat) (hn : n ≤ 10000) (s : Spg) (hs : Gives s) (w : World) (hS : Sp w b s) (hG : Globs w) :
    Calls Tryz.prog 47 #[.pointer (some ⟨b, 0, none⟩), .int .i64 n] w fun e w' => e = .returned (.tuple #[.string (outStr s n), .nilIface]) ∧ w.grownBy w' (some b) ∧ Sp w' b (sqTo s n) := by
  have b0 : (0 : Int) ≤ (n : Int) := by omega
  have b1 : (n : Int) ≤ 10000 := by omega
  go_enter Tryz.func47, Tryz.ntmps47
  go_wp2_with fail
  refine (made_any b s _ hS hs.r0).mono ?_
  rintro e w' ⟨rfl, rfl⟩
  go_wp2_with fail
  refine (spSqueeze_spent b hb4 n hn s hs _ hS hG).mono ?_
  rintro e w1 ⟨H, hH, rfl, hg1, hS1, hO⟩
  have hcv := run_str H n s w1 hO
  go_wp2
  go_ret2
  exact ⟨rfl, hg1, hS1⟩
set_option maxHeartbeats 400000 in
theorem squeeze_fresh (b : Nat) (hb4 : 4 ≤ b) (n : Nat) (hn : n ≤ 10000) (s : Spg) (hs : Takes s) (hsp : s.spent = false) (w : World) (hS : Sp w b s) (hG : Globs w) :
    Calls Tryz.prog 47 #[.pointer (some ⟨b, 0, none⟩), .int .i64 n] w fun e w' => e = .returned (.tuple #[.string (outStr (finishS s) n), .nilIface]) ∧ w.grownBy w' (some b) ∧ Sp w' b (sqTo (finishS s) n) := by
  have b0 : (0 : Int) ≤ (n : Int) := by omega
  have b1 : (n : Int) ≤ 10000 := by omega
  go_enter Tryz.func47, Tryz.ntmps47
  go_wp2_with fail
  refine (made_any b s _ hS hs.r0).mono ?_
  rintro e w' ⟨rfl, rfl⟩
  go_wp2_with fail
  refine (spSqueeze_fresh b hb4 n hn s hs hsp _ hS hG).mono ?_
  rintro e w1 ⟨H, hH, rfl, hg1, hS1, hO⟩
  have hcv := run_str H n (finishS s) w1 hO
  go_wp2
  go_ret2
  exact ⟨rfl, hg1, hS1⟩
end Go.Proofs.YtkijpphmiogbbaaGreatDoor
