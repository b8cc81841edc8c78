import Derived.Test.YtkijpphmiogbbaaGreatDoorK40
import Derived.Test.YtkijpphmiogbbaaGreatDoorK41
import Derived.Test.YtkijpphmiogbbaaGreatDoorK18
namespace Go.Proofs.YtkijpphmiogbbaaGreatDoor.Z
open Go.RowKit

theorem bit_in (X n r : Nat) (h : r < n) : X % 2 ^ n / 2 ^ r % 2 = X / 2 ^ r % 2 := by
  have e : 2 ^ n = 2 ^ r * 2 ^ (n - r) := by rw [← Nat.pow_add]; congr 1; omega
  rw [e, Nat.mod_mul_right_div_self]
  exact Nat.mod_mod_of_dvd _ (Nat.dvd_trans (by decide : 2 ∣ 2 ^ 1) (Nat.pow_dvd_pow 2 (by omega)))
/-- A text's bits are its number's. -/
theorem tbit_num (s : ByteArray) (k : Nat) (h : k < 8 * s.size) : tbit s k = numT s / 2 ^ k % 2 := by
  have e := numT_byte s (k / 8) (by omega)
  have e1 : tbit s k = txt s (k / 8) / 2 ^ (k % 8) % 2 := by
    unfold tbit txt
    rw [Array.getD_eq_getD_getElem?, List.getD_eq_getElem?_getD, Array.getElem?_toList]
  rw [e1, ← e, bit_in _ 8 _ (Nat.mod_lt _ (by omega)), Nat.div_div_eq_div_mul, ← Nat.pow_add, show 8 * (k / 8) + k % 8 = k by omega]
/-- The document's Unpack takes the text's number apart. -/
theorem unp_num (s : ByteArray) (d i : Nat) (hs : s.size = 32 * d) (hi : i < 256) : unp s d i d = numT s / 2 ^ (d * i) % 2 ^ d := by
  unfold unp
  rw [num_ext 2 _ (fun j => numT s / 2 ^ (d * i) / 2 ^ j % 2) d (fun j hj => by
    have : (i + 1) * d ≤ 256 * d := Nat.mul_le_mul_right d (by omega)
    rw [Nat.add_mul] at this
    rw [tbit_num s _ (by omega), Nat.div_div_eq_div_mul, ← Nat.pow_add, Nat.mul_comm i d])]
  exact num_of 2 _ d
/-- The document's Encode makes the coefficients one number. -/
theorem enc_num (a : Nat → Nat) (d : Nat) (hd : 0 < d) (ha : ∀ i, i < 256 → a i < 2 ^ d) : encN a d (256 * d) = num (2 ^ d) a 256 := by
  obtain ⟨S, hS⟩ : ∃ S, S = num (2 ^ d) a 256 := ⟨_, rfl⟩
  have hlt : S < 2 ^ (256 * d) := by
    rw [hS, Nat.mul_comm, Nat.pow_mul]; exact num_lt (2 ^ d) a 256 ha
  rw [← hS]
  unfold encN
  rw [num_ext 2 _ (fun K => S / 2 ^ K % 2) (256 * d) (fun K hK => by
    have hq : K / d < 256 := Nat.div_lt_of_lt_mul (by rw [Nat.mul_comm]; exact hK)
    have hg := num_digit (2 ^ d) a 256 (K / d) ha hq
    rw [← hS] at hg
    rw [← hg, bit_in _ d _ (Nat.mod_lt _ hd), ← Nat.pow_mul, Nat.div_div_eq_div_mul, ← Nat.pow_add, Nat.div_add_mod]), num_of]
  exact Nat.mod_eq_of_lt hlt
theorem encT_is (a : Nat → Nat) (d : Nat) (hd : 0 < d) (ha : ∀ i, i < 256 → a i < 2 ^ d) : encT a d = strOf (bytesL (num (2 ^ d) a 256) (32 * d)) := by
  rw [← enc_num a d hd ha]
  rfl
end Go.Proofs.YtkijpphmiogbbaaGreatDoor.Z

namespace Go.Proofs.YtkijpphmiogbbaaGreatDoor
open Go.RowKit
attribute [local go_sem ↓] Go.wp_at_zero Go.wp_at_succ

set_option maxHeartbeats 1000000 in
set_option maxRecDepth 20000 in
theorem pack_low (L : Nat → Int) (d : Int) (w : World) (hd : d < 1) :
    Calls Tryz.prog 60 #[.int .i64 d, .agg (polyA .i64 L)] w fun e w' => e = .returned (.tuple #[.string ByteArray.empty, .iface 138 (.int .i64 1)]) ∧ w.grownBy w' none := by
  have n1 := new_alloc .i64 w L 71
  have g1 := n1.g
  have d0 : decide (d < 1) = true := by simp; omega
  go_enter Tryz.func60, Tryz.ntmps60
  go_wp2
  go_ret2
  exact ⟨rfl, g1⟩
set_option maxHeartbeats 1000000 in
set_option maxRecDepth 20000 in
theorem unpack_low (s : ByteArray) (d : Int) (w : World) (hd : d < 1) :
    Calls Tryz.prog 62 #[.int .i64 d, .string s] w fun e w' => e = .returned (.tuple #[.agg (polyA .i64 (fun _ => 0)), .iface 138 (.int .i64 1)]) ∧ w.grownBy w' none := by
  have n1 := new_alloc .i64 w (fun _ => 0) 71
  rw [← Tryz.z24] at n1
  have g1 := n1.g
  have r1 := n1.r
  have d0 : decide (d < 1) = true := by simp; omega
  go_enter Tryz.func62, Tryz.ntmps62
  go_wp2_with (first | (refine wpL_store rfl .i64 71 _ _ rfl w.heap.size 0 rfl (fun _ => 0) (by rw [← Tryz.z24]; rfl) .i64 _ r1 Tryz.sP ?_; intro w6 p6))
  refine bodyPost_ret (res2 rfl .i64 _ w6 w.heap.size _ _ rfl rfl p6.r ⟨_, Tryz.uP⟩ Tryz.sP) rfl ⟨rfl, grown_new g1 p6.g (Nat.le_refl _)⟩
set_option maxHeartbeats 1000000 in
set_option maxRecDepth 20000 in
theorem pack_high (L : Nat → Int) (d : Int) (w : World) (hd : 23 < d) :
    Calls Tryz.prog 60 #[.int .i64 d, .agg (polyA .i64 L)] w fun e w' => e = .returned (.tuple #[.string ByteArray.empty, .iface 138 (.int .i64 1)]) ∧ w.grownBy w' none := by
  have n1 := new_alloc .i64 w L 71
  have g1 := n1.g
  have d0 : decide (d < 1) = false := by simp; omega
  have d1 : decide ((23 : Int) < d) = true := by simp; omega
  go_enter Tryz.func60, Tryz.ntmps60
  go_wp2
  go_ret2
  exact ⟨rfl, g1⟩
set_option maxHeartbeats 1000000 in
set_option maxRecDepth 20000 in
theorem unpack_high (s : ByteArray) (d : Int) (w : World) (hd : 23 < d) :
    Calls Tryz.prog 62 #[.int .i64 d, .string s] w fun e w' => e = .returned (.tuple #[.agg (polyA .i64 (fun _ => 0)), .iface 138 (.int .i64 1)]) ∧ w.grownBy w' none := by
  have n1 := new_alloc .i64 w (fun _ => 0) 71
  rw [← Tryz.z24] at n1
  have g1 := n1.g
  have r1 := n1.r
  have d0 : decide (d < 1) = false := by simp; omega
  have d1 : decide ((23 : Int) < d) = true := by simp; omega
  go_enter Tryz.func62, Tryz.ntmps62
  go_wp2_with (first | (refine wpL_store rfl .i64 71 _ _ rfl w.heap.size 0 rfl (fun _ => 0) (by rw [← Tryz.z24]; rfl) .i64 _ r1 Tryz.sP ?_; intro w6 p6))
  refine bodyPost_ret (res2 rfl .i64 _ w6 w.heap.size _ _ rfl rfl p6.r ⟨_, Tryz.uP⟩ Tryz.sP) rfl ⟨rfl, grown_new g1 p6.g (Nat.le_refl _)⟩
end Go.Proofs.YtkijpphmiogbbaaGreatDoor

namespace Go.Proofs.YtkijpphmiogbbaaGreatDoor
open Go.RowKit
attribute [local go_sem ↓] Go.wp_at_zero Go.wp_at_succ

set_option maxHeartbeats 400000 in
theorem packedBytes_any (d : Nat) (w : World) (hd1 : d ≤ 23) :
    Calls Tryz.prog 124 #[.int .i64 d] w fun e w' => e = .returned (.int .i64 (32 * (d : Int))) ∧ w' = w := by
  go_enter Tryz.func124, Tryz.ntmps124
  go_wp2
  go_ret
  exact ⟨rfl, rfl⟩

theorem dig_lt (T d i : Nat) (hd : d ≤ 23) : 0 ≤ dig T d i ∧ dig T d i < 4294967296 := by
  have h0 := Nat.mod_lt (T / 2 ^ (d * i)) (Nat.two_pow_pos d)
  have h23 : (2 : Nat) ^ d ≤ 2 ^ 23 := Nat.pow_le_pow_right (by omega) hd
  unfold dig
  omega
set_option maxHeartbeats 1000000 in
set_option maxRecDepth 20000 in
theorem unpack_any (d : Nat) (s : ByteArray) (w : World) (hd0 : 1 ≤ d) (hd1 : d ≤ 23) (hs : s.size = 32 * d) :
    Calls Tryz.prog 62 #[.int .i64 d, .string s] w fun e w' => e = .returned (.tuple #[.agg (polyA .i64 (dig (numT s) d)), .nilIface]) ∧ w.grownBy w' none := by
  have n1 := new_alloc .i64 w (fun _ => 0) 71
  rw [← Tryz.z24] at n1
  have d0 : decide ((d : Int) < 1) = false := by simp; omega
  have d1 : decide ((23 : Int) < (d : Int)) = false := by simp; omega
  have hne : ((s.size : Int) != 32 * (d : Int)) = false := by simp; omega
  go_enter Tryz.func62, Tryz.ntmps62
  go_wp2_with (first | (go_at_call 124; refine (packedBytes_any d _ hd1).mono ?_; rintro e w' ⟨rfl, rfl⟩) | (go_at_call 126; refine (unpack32_any d s _ hd0 hd1 hs).mono ?_; rintro e w5 ⟨rfl, g5⟩) | (go_at_call 125; refine (wide32_any _ _ (fun i _ => dig_lt _ d i hd1)).mono ?_; rintro e w6 ⟨rfl, g6⟩) | (refine wpL_store rfl .i64 71 _ _ rfl w.heap.size 0 rfl _ rfl .i64 _ ((n1.r.new g5).new g6) Tryz.sP ?_; intro w7 p7))
  refine bodyPost_ret (res2 rfl .i64 _ w7 w.heap.size _ _ rfl rfl p7.r ⟨_, Tryz.uP⟩ Tryz.sP) rfl ⟨rfl, grown_new (grownBy_trans (grownBy_trans n1.g g5) g6) p7.g (Nat.le_refl _)⟩
end Go.Proofs.YtkijpphmiogbbaaGreatDoor

namespace Go.Proofs.YtkijpphmiogbbaaGreatDoor
open Go.RowKit
attribute [local go_sem ↓] Go.wp_at_zero Go.wp_at_succ

theorem PRow.there256P {k : IntKind} {w : World} {b o : Nat} {L : Nat → Int} (h : PRow k w b o L) : w.there b o 256 := fun i hi => ⟨by rw [(h i hi).1]; rfl, (h i hi).2⟩
theorem polyL_oneP (k : IntKind) (L : Nat → Int) : ∀ v ∈ polyL k L, v.oneCell' = true := by
  intro v hv
  unfold polyL at hv
  simp at hv
  obtain ⟨i, _, rfl⟩ := hv
  rfl
theorem range_newP {W W' : World} {b o : Nat} {cs : List Value} (h : W.rangeAt b o cs) (hg : W.grownBy W' none) : W'.rangeAt b o cs := fun j v hv => hg.cell (h j v hv) (by simp)
/-- A load, and a store, of a whole polynomial, kept from being laid open by the walk. -/
def hidLd (p : Value) : Sem Value := Instr.loadAt 71 p
def hidSt (p v : Value) := Instr.storeAt 166 p v
theorem ld_hide (p : Value) : Instr.loadAt 71 p = hidLd p := rfl
theorem st_hide (p v : Value) : Instr.storeAt 166 p v = hidSt p v := rfl
theorem run_hidLd (W : World) (b : Nat) (L : Nat → Int) (hr : PRow .i64 W b 0 L) : (hidLd (.pointer (some ⟨b, 0, none⟩))).run Tryz.prog W = .ok (.agg (polyA .i64 L)) W := by
  unfold hidLd
  simp only [Instr.loadAt, Instr.sureAddr, Sem.run_bind, Sem.run_pure, Result.andThen_ok, run_loadRow .i64 W 71 b 0 L hr ⟨_, Tryz.uP⟩ Tryz.sP]
theorem run_hidSt (W : World) (b : Nat) (L M : Nat → Int) (hr : PRow .u32 W b 0 M) : (hidSt (.pointer (some ⟨b, 0, none⟩)) (.agg (polyA .u32 L))).run Tryz.prog W = .ok () (W.setCells b 0 (polyA .u32 L).toList) :=
  run_storeAt_mid W b 0 166 (polyA .u32 L) (hr.there .u32 L) (by rw [polyA_size]; exact Tryz.sQ32) (polyA_one .u32 L)
attribute [local go_sem ↓] ld_hide st_hide
set_option maxHeartbeats 1000000 in
set_option maxRecDepth 20000 in
theorem pack_any (a : Nat → Nat) (d : Nat) (w : World) (hd0 : 1 ≤ d) (hd1 : d ≤ 23) (ha : ∀ i, i < 256 → a i < 2 ^ d) :
    Calls Tryz.prog 60 #[.int .i64 d, .agg (polyA .i64 (fun i => (a i : Int)))] w fun e w' => e = .returned (.tuple #[.string (strOf (bytesL (num (2 ^ d) a 256) (32 * d))), .nilIface]) ∧ w.grownBy w' none := by
  have n1 := new_alloc .i64 w (fun i => (a i : Int)) 71
  have d0 : decide ((d : Int) < 1) = false := by simp; omega
  have d1 : decide ((23 : Int) < (d : Int)) = false := by simp; omega
  have hX : IntKind.i64.wrap (2 ^ d) = ((2 ^ d : Nat) : Int) := by
    have hp : (2 : Nat) ^ d ≤ 2 ^ 23 := Nat.pow_le_pow_right (n := 2) (by omega) hd1
    have e : (2 : Int) ^ d = ((2 ^ d : Nat) : Int) := by simp
    rw [e]; generalize (2 : Nat) ^ d = q at *
    rw [IntKind.wrap_i64] <;> omega
  have hlo : ∀ i, i < 256 → (0 : Int) ≤ (a i : Int) ∧ (a i : Int) < IntKind.i64.wrap (2 ^ d) := fun i hi => ⟨Int.natCast_nonneg _, by rw [hX]; exact Int.ofNat_lt.2 (ha i hi)⟩
  have hle : IntKind.i64.wrap (2 ^ d) ≤ 4294967296 := by
    have hp : (2 : Nat) ^ d ≤ 2 ^ 23 := Nat.pow_le_pow_right (n := 2) (by omega) hd1
    rw [hX]; omega
  have HC := hid_mkP (fun W => narrow32_ok (fun i => (a i : Int)) (IntKind.i64.wrap (2 ^ d)) W hlo hle)
  have HP := hid_mkP (fun W => pack32_any a d W hd0 hd1 ha)
  clear hX hlo hle ha
  go_enter Tryz.func60, Tryz.ntmps60
  go_wp2_with fail
  generalize w.alloc (.cells (polyA .i64 (fun i => (a i : Int))) 71) = w1 at *
  have n2 := new_alloc .u32 w1 (fun _ => 0) 166
  rw [← Tryz.zQ32] at n2
  have s1 := n1.s
  have r2 := n2.r.drew
  rw [s1] at r2
  have L1 := run_hidLd w1.drew w.heap.size _ n1.r.drew
  have L2 := run_hidLd (w1.alloc (.cells Tryz.zeroCells166 166)).drew w.heap.size _ (n1.r.new n2.g).drew
  go_region_with (first | (go_at_call 122; refine (HC.out _).mono ?_; rintro e w5 ⟨rfl, g5⟩; have n5 := new_alloc .u32 w5 (fun _ => 0) 166; rw [← Tryz.zQ32] at n5; have stA := run_hidSt (w5.alloc (.cells Tryz.zeroCells166 166)) w5.heap.size (fun i => (a i : Int)) _ n5.r; try (have g5b : (w1.alloc (.cells Tryz.zeroCells166 166)).drew.grownBy w5 none := (by with_reducible assumption); have stB := run_hidSt w5 (w.heap.size + 1) (fun i => (a i : Int)) _ (r2.new g5b))))
  all_goals first
    | ( have e6 := stB
        have p6 := put_cells .u32 w5 (w.heap.size + 1) 0 (fun i => (a i : Int)) ((r2.new g5b).there .u32 _)
        have g6 := grown_new (grownBy_trans n1.g (grownBy_trans (grown_drew n2.g) g5b)) p6.g (Nat.le_succ _)
        generalize w5.setCells (w.heap.size + 1) 0 (polyA .u32 (fun i => (a i : Int))).toList = w6 at *
        clear e6 stB
        clear L1 L2 stA
        go_wp2_with (first | (refine wpL_load rfl .u32 166 _ rfl (w.heap.size + 1) 0 rfl _ p6.r Tryz.oQ32 Tryz.sQ32 ?_) | (go_at_call 123; refine (HP.out _).mono ?_; rintro e w7 ⟨v, rfl, hO, g7⟩; have hcv := conv_own w7 _ v (32 * d) (by omega) _ hO))
        go_ret2
        exact ⟨rfl, grownBy_trans g6 g7⟩)
    | ( have p6 := put_cells .u32 (w5.alloc (.cells Tryz.zeroCells166 166)) w5.heap.size 0 (fun i => (a i : Int)) (n5.r.there .u32 _)
        have g6 := grown_new (grownBy_trans n1.g (grownBy_trans (grown_drew (World.grownBy.refl _ _)) (grownBy_trans g5 n5.g))) p6.g (Nat.le_trans n1.g.size g5.size)
        generalize (w5.alloc (.cells Tryz.zeroCells166 166)).setCells w5.heap.size 0 (polyA .u32 (fun i => (a i : Int))).toList = w6 at *
        clear L1 L2 stA
        go_wp2_with (first | (refine wpL_load rfl .u32 166 _ rfl w5.heap.size 0 rfl _ p6.r Tryz.oQ32 Tryz.sQ32 ?_) | (go_at_call 123; refine (HP.out _).mono ?_; rintro e w7 ⟨v, rfl, hO, g7⟩; have hcv := conv_own w7 _ v (32 * d) (by omega) _ hO))
        go_ret2
        exact ⟨rfl, grownBy_trans g6 g7⟩)
end Go.Proofs.YtkijpphmiogbbaaGreatDoor
