import Derived.Test.YtkijpphmiogbbaaGreatDoorH43
import Derived.Test.YtkijpphmiogbbaaGreatDoorH44
namespace Go.Proofs.YtkijpphmiogbbaaGreatDoor
open Go.RowKit
attribute [local go_sem ↓] Go.wp_at_zero Go.wp_at_succ

theorem hid_of {p : Prop} (h : p) : Hid p := h
set_option maxHeartbeats 1000000 in
theorem rsum_256 (t : ByteArray) (ht : t.size ≤ 549755813888) (w : World) :
    Calls Tryz.prog 44 #[.int .i64 256, .string t] w fun e w' => e = .returned (.tuple #[.string (outStr (finishS (absorbS (startS 136 6) t.data.toList)) 32), .int .i64 0]) ∧ w.grownBy w' none := by
  have HS := hid_of (fun W => sponge_any 136 32 6 (Or.inl rfl) t W (by omega) (by omega) (by omega) ht (by omega))
  go_enter Tryz.func44, Tryz.ntmps44
  go_wp2_with fail
  refine (HS.out _).mono ?_
  rintro e w1 ⟨rfl, hg1⟩
  go_wp2
  go_ret2
  exact ⟨rfl, hg1⟩
set_option maxHeartbeats 1000000 in
theorem rsum_512 (t : ByteArray) (ht : t.size ≤ 549755813888) (w : World) :
    Calls Tryz.prog 44 #[.int .i64 512, .string t] w fun e w' => e = .returned (.tuple #[.string (outStr (finishS (absorbS (startS 72 6) t.data.toList)) 64), .int .i64 0]) ∧ w.grownBy w' none := by
  have HS := hid_of (fun W => sponge_any 72 64 6 (Or.inl rfl) t W (by omega) (by omega) (by omega) ht (by omega))
  go_enter Tryz.func44, Tryz.ntmps44
  go_wp2_with fail
  refine (HS.out _).mono ?_
  rintro e w1 ⟨rfl, hg1⟩
  go_wp2
  go_ret2
  exact ⟨rfl, hg1⟩
set_option maxHeartbeats 1000000 in
theorem rsum_none (bits : Int) (t : ByteArray) (w : World) (h1 : (bits == 256) = false) (h2 : (bits == 512) = false) :
    Calls Tryz.prog 44 #[.int .i64 bits, .string t] w fun e w' => e = .returned (.tuple #[.string ByteArray.empty, .int .i64 1]) ∧ w' = w := by
  go_enter Tryz.func44, Tryz.ntmps44
  go_wp2
  go_ret2
  exact ⟨rfl, rfl⟩
set_option maxHeartbeats 1000000 in
theorem shake_128 (t : ByteArray) (ht : t.size ≤ 549755813888) (n : Nat) (hn : n ≤ 1099511627776) (w : World) :
    Calls Tryz.prog 48 #[.int .i64 128, .string t, .int .i64 n] w fun e w' => e = .returned (.string (outStr (finishS (absorbS (startS 168 31) t.data.toList)) n)) ∧ w.grownBy w' none := by
  have HS := hid_of (fun W => sponge_any 168 n 31 (Or.inr rfl) t W (by omega) (by omega) (by omega) ht hn)
  go_enter Tryz.func48, Tryz.ntmps48
  go_wp2_with fail
  refine (HS.out _).mono ?_
  rintro e w1 ⟨rfl, hg1⟩
  go_wp2
  go_ret
  exact ⟨rfl, hg1⟩
set_option maxHeartbeats 1000000 in
theorem shake_256 (t : ByteArray) (ht : t.size ≤ 549755813888) (n : Nat) (hn : n ≤ 1099511627776) (w : World) :
    Calls Tryz.prog 48 #[.int .i64 256, .string t, .int .i64 n] w fun e w' => e = .returned (.string (outStr (finishS (absorbS (startS 136 31) t.data.toList)) n)) ∧ w.grownBy w' none := by
  have HS := hid_of (fun W => sponge_any 136 n 31 (Or.inr rfl) t W (by omega) (by omega) (by omega) ht hn)
  go_enter Tryz.func48, Tryz.ntmps48
  go_wp2_with fail
  refine (HS.out _).mono ?_
  rintro e w1 ⟨rfl, hg1⟩
  go_wp2
  go_ret
  exact ⟨rfl, hg1⟩
set_option maxHeartbeats 2000000 in
theorem summed_any (bits : Int) (t : ByteArray) (ht : t.size ≤ 20000) (w : World) (hG : Globs w) (h4 : 4 ≤ w.heap.size) :
    Calls Tryz.prog 24 #[.int .i64 bits, .string t] w fun e w' => e = .returned (.bool true) ∧ w.grownBy w' none := by
  have htm : t.size ≤ maxLen := by unfold maxLen; omega
  by_cases b1 : bits = 256
  · subst b1
    go_enter Tryz.func24, Tryz.ntmps24
    go_wp2_with fail
    refine (sum_256 t htm _ hG h4).mono ?_
    rintro e w1 ⟨rfl, hg1⟩
    go_wp2_with fail
    refine (rsum_256 t (by omega) _).mono ?_
    rintro e w2 ⟨rfl, hg2⟩
    go_wp2_with fail
    refine (ltold_nil _).mono ?_
    rintro e w' ⟨rfl, hw⟩
    rw [hw]
    clear hw w'
    go_wp2
    go_ret
    exact ⟨by simp, grownBy_trans hg1 hg2⟩
  · by_cases b2 : bits = 512
    · subst b2
      go_enter Tryz.func24, Tryz.ntmps24
      go_wp2_with fail
      refine (sum_512 t htm _ hG h4).mono ?_
      rintro e w1 ⟨rfl, hg1⟩
      go_wp2_with fail
      refine (rsum_512 t (by omega) _).mono ?_
      rintro e w2 ⟨rfl, hg2⟩
      go_wp2_with fail
      refine (ltold_nil _).mono ?_
      rintro e w' ⟨rfl, hw⟩
      rw [hw]
      clear hw w'
      go_wp2
      go_ret
      exact ⟨by simp, grownBy_trans hg1 hg2⟩
    · have n1 : (bits != 256) = true := by simpa using b1
      have n2 : (bits != 512) = true := by simpa using b2
      have n3 : (bits == 256) = false := by simpa using b1
      have n4 : (bits == 512) = false := by simpa using b2
      go_enter Tryz.func24, Tryz.ntmps24
      go_wp2_with fail
      refine (sum_none bits t _ n1 n2).mono ?_
      rintro e w' ⟨rfl, hw⟩
      rw [hw]
      clear hw w'
      go_wp2_with fail
      refine (rsum_none bits t _ n3 n4).mono ?_
      rintro e w' ⟨rfl, hw⟩
      rw [hw]
      clear hw w'
      go_wp2_with fail
      refine (ltold_err 1 _ hG (by decide)).mono ?_
      rintro e w1 ⟨rfl, hg1⟩
      go_wp2
      go_ret
      exact ⟨rfl, hg1⟩
end Go.Proofs.YtkijpphmiogbbaaGreatDoor
