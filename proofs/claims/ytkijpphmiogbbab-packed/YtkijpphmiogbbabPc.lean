import Derived.Test.YtkijpphmiogbbabPb
namespace Go.Proofs.Ytkijpphmiogbbab
open Go.RowKit
attribute [local go_sem ↓] Go.wp_at_zero Go.wp_at_succ
attribute [local go_sem] Try.zv24 Try.zv42

set_option maxHeartbeats 400000 in
theorem packedBytes_any (d : Nat) (w : World) (hd1 : d ≤ 23) :
    Calls Try.prog 16 #[.int .i64 d] w fun e w' => e = .returned (.int .i64 (32 * (d : Int))) ∧ w' = w := by
  go_enter Try.func16, Try.ntmps16
  go_wp2
  go_ret
  exact ⟨rfl, rfl⟩

theorem dig_lt (T d i : Nat) (hd : d ≤ 23) : 0 ≤ dig T d i ∧ dig T d i < 4294967296 := by
  have h0 := Nat.mod_lt (T / 2 ^ (d * i)) (Nat.two_pow_pos d)
  have h23 : (2 : Nat) ^ d ≤ 2 ^ 23 := Nat.pow_le_pow_right (by omega) hd
  unfold dig
  omega
set_option maxHeartbeats 1000000 in
set_option maxRecDepth 20000 in
theorem unpack_any (d : Nat) (s : ByteArray) (w : World) (hd0 : 1 ≤ d) (hd1 : d ≤ 23) (hs : s.size = 32 * d) :
    Calls Try.prog 8 #[.int .i64 d, .string s] w fun e w' => e = .returned (.tuple #[.agg (polyA .i64 (dig (numT s) d)), .nilIface]) ∧ w.grownBy w' none := by
  have n1 := new_alloc .i64 w (fun _ => 0) 24
  rw [← Try.z24] at n1
  have d0 : decide ((d : Int) < 1) = false := by simp; omega
  have d1 : decide ((23 : Int) < (d : Int)) = false := by simp; omega
  have hne : ((s.size : Int) != 32 * (d : Int)) = false := by simp; omega
  go_enter Try.func8, Try.ntmps8
  go_wp2_with (first | (go_at_call 16; refine (packedBytes_any d _ hd1).mono ?_; rintro e w' ⟨rfl, rfl⟩) | (go_at_call 18; refine (unpack32_any d s _ hd0 hd1 hs).mono ?_; rintro e w5 ⟨rfl, g5⟩) | (go_at_call 17; refine (wide32_any _ _ (fun i _ => dig_lt _ d i hd1)).mono ?_; rintro e w6 ⟨rfl, g6⟩) | (refine wpL_store rfl .i64 24 _ _ rfl w.heap.size 0 rfl _ rfl .i64 _ ((n1.r.new g5).new g6) Try.sP ?_; intro w7 p7))
  refine bodyPost_ret (res2 rfl .i64 _ w7 w.heap.size _ _ rfl rfl p7.r ⟨_, Try.uP⟩ Try.sP) rfl ⟨rfl, grown_new (grownBy_trans (grownBy_trans n1.g g5) g6) p7.g (Nat.le_refl _)⟩
end Go.Proofs.Ytkijpphmiogbbab
