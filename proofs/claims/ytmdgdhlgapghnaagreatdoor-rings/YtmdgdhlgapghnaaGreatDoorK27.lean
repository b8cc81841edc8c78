import Derived.Test.YtmdgdhlgapghnaaGreatDoorK23
import Derived.Test.YtmdgdhlgapghnaaGreatDoorK26
import Derived.Test.YtmdgdhlgapghnaaGreatDoorK25
namespace Go.Proofs.YtmdgdhlgapghnaaGreatDoor.Z
open Go.RowKit

theorem bit_in (X n r : Nat) (h : r < n) : X % 2 ^ n / 2 ^ r % 2 = X / 2 ^ r % 2 := by
  have e : 2 ^ n = 2 ^ r * 2 ^ (n - r) := by rw [← Nat.pow_add]; congr 1; omega
  rw [e, Nat.mod_mul_right_div_self]
  exact Nat.mod_mod_of_dvd _ (Nat.dvd_trans (by decide : 2 ∣ 2 ^ 1) (Nat.pow_dvd_pow 2 (by omega)))
/-- A text's bits are its number's. -/
theorem tbit_num (s : ByteArray) (k : Nat) (h : k < 8 * s.size) : tbit s k = numT s / 2 ^ k % 2 := by
  have e := numT_byte s (k / 8) (by omega)
  have e1 : tbit s k = txt s (k / 8) / 2 ^ (k % 8) % 2 := by
    unfold tbit txt
    rw [Array.getD_eq_getD_getElem?, List.getD_eq_getElem?_getD, Array.getElem?_toList]
  rw [e1, ← e, bit_in _ 8 _ (Nat.mod_lt _ (by omega)), Nat.div_div_eq_div_mul, ← Nat.pow_add, show 8 * (k / 8) + k % 8 = k by omega]
/-- The document's Unpack takes the text's number apart. -/
theorem unp_num (s : ByteArray) (d i : Nat) (hs : s.size = 32 * d) (hi : i < 256) : unp s d i d = numT s / 2 ^ (d * i) % 2 ^ d := by
  unfold unp
  rw [num_ext 2 _ (fun j => numT s / 2 ^ (d * i) / 2 ^ j % 2) d (fun j hj => by
    have : (i + 1) * d ≤ 256 * d := Nat.mul_le_mul_right d (by omega)
    rw [Nat.add_mul] at this
    rw [tbit_num s _ (by omega), Nat.div_div_eq_div_mul, ← Nat.pow_add, Nat.mul_comm i d])]
  exact num_of 2 _ d
/-- The document's Encode makes the coefficients one number. -/
theorem enc_num (a : Nat → Nat) (d : Nat) (hd : 0 < d) (ha : ∀ i, i < 256 → a i < 2 ^ d) : encN a d (256 * d) = num (2 ^ d) a 256 := by
  obtain ⟨S, hS⟩ : ∃ S, S = num (2 ^ d) a 256 := ⟨_, rfl⟩
  have hlt : S < 2 ^ (256 * d) := by
    rw [hS, Nat.mul_comm, Nat.pow_mul]; exact num_lt (2 ^ d) a 256 ha
  rw [← hS]
  unfold encN
  rw [num_ext 2 _ (fun K => S / 2 ^ K % 2) (256 * d) (fun K hK => by
    have hq : K / d < 256 := Nat.div_lt_of_lt_mul (by rw [Nat.mul_comm]; exact hK)
    have hg := num_digit (2 ^ d) a 256 (K / d) ha hq
    rw [← hS] at hg
    rw [← hg, bit_in _ d _ (Nat.mod_lt _ hd), ← Nat.pow_mul, Nat.div_div_eq_div_mul, ← Nat.pow_add, Nat.div_add_mod]), num_of]
  exact Nat.mod_eq_of_lt hlt
theorem encT_is (a : Nat → Nat) (d : Nat) (hd : 0 < d) (ha : ∀ i, i < 256 → a i < 2 ^ d) : encT a d = strOf (bytesL (num (2 ^ d) a 256) (32 * d)) := by
  rw [← enc_num a d hd ha]
  rfl
end Go.Proofs.YtmdgdhlgapghnaaGreatDoor.Z

namespace Go.Proofs.YtmdgdhlgapghnaaGreatDoor
open Go.RowKit
attribute [local go_sem ↓] Go.wp_at_zero Go.wp_at_succ

theorem Tryz.uQ16 : Tryz.prog.underlying 160 = some (.array 256 154) := by kernel_rfl
theorem Tryz.oQ16 : ∃ e, Tryz.prog.underlying 160 = some (.array 256 e) := ⟨_, Tryz.uQ16⟩
theorem Tryz.sQ16 : (Tryz.prog.info? 160).map (·.size) = some 256 := by kernel_rfl
theorem Tryz.zQ16 : Tryz.zeroCells160 = polyA .u16 (fun _ => 0) := by kernel_rfl
theorem ix16 (L : Nat → Int) (i : Nat) (hi : i < 256) (W : World) : (Instr.index 160 (.agg (polyA .u16 L)) (.int .i64 (i : Int))).run Tryz.prog W = .ok (.int .u16 (L i)) W :=
  run_index_poly (e := 154) .u16 L i hi W Tryz.uQ16 (by kernel_rfl) (by kernel_rfl)

set_option maxHeartbeats 1000000 in
set_option maxRecDepth 20000 in
theorem narrow16_ok (L : Nat → Int) (n : Int) (w : World) (hL : ∀ i, i < 256 → 0 ≤ L i ∧ L i < n) (hn' : n ≤ 65536) :
    Calls Tryz.prog 255 #[.agg (polyA .i64 L), .int .i64 n] w fun e w' => e = .returned (.tuple #[.agg (polyA .u16 L), .nilIface]) ∧ w.grownBy w' none := by
  have HL : Hid (∀ i, i < 256 → 0 ≤ L i ∧ L i < n) := hL
  clear hL
  go_enter Tryz.func255, Tryz.ntmps255
  have n1 := new_alloc .i64 w L 71
  go_wp2_with (first | (refine wpL_load rfl .i64 71 _ rfl w.heap.size 0 rfl L (((n1.r).new (World.grownBy_alloc _ _ none)).new (World.grownBy_alloc _ _ none)) ⟨_, Tryz.uP⟩ Tryz.sP ?_))
  have n2 := new_alloc .u16 (w.alloc (.cells (polyA .i64 L) 71)) (fun _ => 0) 160
  rw [← Tryz.zQ16] at n2
  have n3 := new_alloc .u16 ((w.alloc (.cells (polyA .i64 L) 71)).alloc (.cells Tryz.zeroCells160 160)) (fun _ => 0) 160
  rw [← Tryz.zQ16] at n3
  generalize ((w.alloc (.cells (polyA .i64 L) 71)).alloc (.cells Tryz.zeroCells160 160)).alloc (.cells Tryz.zeroCells160 160) = w3 at *
  generalize (w.alloc (.cells (polyA .i64 L) 71)).alloc (.cells Tryz.zeroCells160 160) = w2 at *
  have hA : PRow .u16 w3 (w.heap.size + 1) 0 (fun _ => 0) := by have := n2.r.new n3.g; rw [n1.s] at this; exact this
  have hR : PRow .u16 w3 (w.heap.size + 2) 0 (fun _ => 0) := by have := n3.r; rw [n2.s, n1.s] at this; exact this
  have hg : w.grownBy w3 none := grownBy_trans n1.g (grownBy_trans n2.g n3.g)
  clear n1 n2 n3
  obtain ⟨B, hB⟩ : ∃ B, B = w.heap.size := ⟨_, rfl⟩
  rw [← hB] at hA hR ⊢
  have hB' : w.heap.size ≤ B := by omega
  clear hB
  go_loopw [7, 8, 10] (fun _ _ i wr => ∃ k : Nat, k ≤ 256 ∧ i = .int .i64 k ∧ w.grownBy wr none ∧ PRow .u16 wr (B + 1) 0 (fun _ => 0) ∧ PRow .u16 wr (B + 2) 0 (fun j => if j < k then L j else 0)) (fun _ _ i _ => 256 - (intOf i).toNat)
  case atStart => exact ⟨0, by omega, rfl, hg, hA, hR.ext (fun j _ => by simp)⟩
  case round =>
    clear hA hR hg
    obtain ⟨k, hk, rfl, hg, hA, hR⟩ := hrel
    by_cases hlt : k < 256
    · have b0 : (0 : Int) ≤ (k : Int) := by omega
      have b1 : (k : Int) < 256 := by omega
      have l0 := (HL.out k hlt).1
      have l1 := (HL.out k hlt).2
      have l2 : decide (L k < 0) = false := by simp; omega
      have l3 : decide (n ≤ L k) = false := by simp; omega
      have ix := fun W => ixP L k hlt W
      have cv : IntKind.u16.wrap (L k) = L k := by rw [IntKind.wrap_u16]; omega
      have cc := (hR.at0 k hlt).1
      have ff := (hR.at0 k hlt).2
      go_wp2
      go_roundw
      case rel =>
        refine ⟨k + 1, by omega, by go_num, grown_setNew hg (by simp; omega) _, hA.set_other (by simp) _, (hR.set0 hlt _).ext (fun j _ => mix_step _ _ k j)⟩
      case measure => simp [intOf]; omega
    · have hk6 : k = 256 := by omega
      subst hk6
      have hR' : PRow .u16 wr (B + 2) 0 L := hR.ext (fun j hj => by simp [hj])
      clear hR
      go_wp2_with (first | (refine wpL_load rfl .u16 160 _ rfl (B + 2) 0 rfl L hR' Tryz.oQ16 Tryz.sQ16 ?_) | (refine wpL_store rfl .u16 160 _ _ rfl (B + 1) 0 rfl L rfl .u16 _ hA Tryz.sQ16 ?_; intro w4 p4))
      refine bodyPost_ret (res2 rfl .u16 _ w4 (B + 1) L _ rfl rfl p4.r Tryz.oQ16 Tryz.sQ16) rfl ⟨rfl, grown_new hg p4.g (by omega)⟩

set_option maxHeartbeats 1000000 in
set_option maxRecDepth 20000 in
theorem wide16_any (L : Nat → Int) (w : World) (hL : ∀ i, i < 256 → 0 ≤ L i ∧ L i < 65536) :
    Calls Tryz.prog 185 #[.agg (polyA .u16 L)] w fun e w' => e = .returned (.agg (polyA .i64 L)) ∧ w.grownBy w' none := by
  have HL : Hid (∀ i, i < 256 → 0 ≤ L i ∧ L i < 65536) := hL
  clear hL
  go_enter Tryz.func185, Tryz.ntmps185
  have n1 := new_alloc .u16 w L 160
  go_wp2_with (first | (refine wpL_load rfl .u16 160 _ rfl w.heap.size 0 rfl L (((n1.r).new (World.grownBy_alloc _ _ none)).new (World.grownBy_alloc _ _ none)) Tryz.oQ16 Tryz.sQ16 ?_))
  have n2 := new_alloc .i64 (w.alloc (.cells (polyA .u16 L) 160)) (fun _ => 0) 71
  rw [← Tryz.z24] at n2
  have n3 := new_alloc .i64 ((w.alloc (.cells (polyA .u16 L) 160)).alloc (.cells Tryz.zeroCells71 71)) (fun _ => 0) 71
  rw [← Tryz.z24] at n3
  generalize ((w.alloc (.cells (polyA .u16 L) 160)).alloc (.cells Tryz.zeroCells71 71)).alloc (.cells Tryz.zeroCells71 71) = w3 at *
  generalize (w.alloc (.cells (polyA .u16 L) 160)).alloc (.cells Tryz.zeroCells71 71) = w2 at *
  have hA : PRow .i64 w3 (w.heap.size + 1) 0 (fun _ => 0) := by have := n2.r.new n3.g; rw [n1.s] at this; exact this
  have hR : PRow .i64 w3 (w.heap.size + 2) 0 (fun _ => 0) := by have := n3.r; rw [n2.s, n1.s] at this; exact this
  have hg : w.grownBy w3 none := grownBy_trans n1.g (grownBy_trans n2.g n3.g)
  clear n1 n2 n3
  obtain ⟨B, hB⟩ : ∃ B, B = w.heap.size := ⟨_, rfl⟩
  rw [← hB] at hA hR ⊢
  have hB' : w.heap.size ≤ B := by omega
  clear hB
  go_loopw [4, 5, 7] (fun _ _ i wr => ∃ k : Nat, k ≤ 256 ∧ i = .int .i64 k ∧ w.grownBy wr none ∧ PRow .i64 wr (B + 1) 0 (fun _ => 0) ∧ PRow .i64 wr (B + 2) 0 (fun j => if j < k then L j else 0)) (fun _ _ i _ => 256 - (intOf i).toNat)
  case atStart => exact ⟨0, by omega, rfl, hg, hA, hR.ext (fun j _ => by simp)⟩
  case round =>
    clear hA hR hg
    obtain ⟨k, hk, rfl, hg, hA, hR⟩ := hrel
    by_cases hlt : k < 256
    · have b0 : (0 : Int) ≤ (k : Int) := by omega
      have b1 : (k : Int) < 256 := by omega
      have l0 := (HL.out k hlt).1
      have l1 := (HL.out k hlt).2
      have ix := fun W => ix16 L k hlt W
      have cv : IntKind.i64.wrap (L k) = L k := by rw [IntKind.wrap_i64] <;> omega
      have cc := (hR.at0 k hlt).1
      have ff := (hR.at0 k hlt).2
      go_wp2
      go_roundw
      case rel =>
        refine ⟨k + 1, by omega, by go_num, grown_setNew hg (by simp; omega) _, hA.set_other (by simp) _, (hR.set0 hlt _).ext (fun j _ => mix_step _ _ k j)⟩
      case measure => simp [intOf]; omega
    · have hk6 : k = 256 := by omega
      subst hk6
      have hR' : PRow .i64 wr (B + 2) 0 L := hR.ext (fun j hj => by simp [hj])
      clear hR
      go_wp2_with (first | (refine wpL_load rfl .i64 71 _ rfl (B + 2) 0 rfl L hR' ⟨_, Tryz.uP⟩ Tryz.sP ?_) | (refine wpL_store rfl .i64 71 _ _ rfl (B + 1) 0 rfl L rfl .i64 _ hA Tryz.sP ?_; intro w4 p4))
      refine bodyPost_ret (res1 rfl .i64 _ w4 (B + 1) L rfl p4.r ⟨_, Tryz.uP⟩ Tryz.sP) rfl ⟨rfl, grown_new hg p4.g (by omega)⟩
end Go.Proofs.YtmdgdhlgapghnaaGreatDoor
