import Derived.Test.YtkijpphmiogbbaaGreatDoorK15
import Derived.Test.YtkijpphmiogbbaaGreatDoorK11
import Derived.Laws.BitsAllLaws
namespace Go.Proofs.YtkijpphmiogbbaaGreatDoor
open Go.RowKit
attribute [local go_sem ↓] Go.wp_at_zero Go.wp_at_succ

set_option maxHeartbeats 1000000 in
set_option maxRecDepth 20000 in
theorem each_compress (L M : Nat → Int) (cap : Array Value) (w : World)
    (hM : ∀ i W, i < 256 → w.grownBy W none → Calls Tryz.prog 201 (#[.int .u16 (L i)] ++ cap) W fun e W' => e = .returned (.int .u16 (M i)) ∧ W.grownBy W' none) :
    Calls Tryz.prog 200 #[.agg (polyA .u16 L), .func (.func 201) #[] cap] w fun e w' => e = .returned (.agg (polyA .u16 M)) ∧ w.grownBy w' none := by
  have HM : Hid (∀ i W, i < 256 → w.grownBy W none → Calls Tryz.prog 201 (#[.int .u16 (L i)] ++ cap) W fun e W' => e = .returned (.int .u16 (M i)) ∧ W.grownBy W' none) := hM
  clear hM
  go_enter Tryz.func200, Tryz.ntmps200
  have n1 := new_alloc .u16 w L 160
  go_wp2_with (first | (refine wpL_load rfl .u16 160 _ rfl w.heap.size 0 rfl L ((n1.r).new (World.grownBy_alloc _ _ none)) Tryz.oQ16 Tryz.sQ16 ?_))
  have n2 := new_alloc .u16 (w.alloc (.cells (polyA .u16 L) 160)) (fun _ => 0) 160
  rw [← Tryz.zQ16] at n2
  generalize (w.alloc (.cells (polyA .u16 L) 160)).alloc (.cells Tryz.zeroCells160 160) = w2 at *
  have hR : PRow .u16 w2 w.heap.size 0 L := n1.r.new n2.g
  have hA : PRow .u16 w2 (w.heap.size + 1) 0 (fun _ => 0) := by have := n2.r; rw [n1.s] at this; exact this
  have hg : w.grownBy w2 none := grownBy_trans n1.g n2.g
  clear n1 n2
  obtain ⟨B, hB⟩ : ∃ B, B = w.heap.size := ⟨_, rfl⟩
  rw [← hB] at hA hR ⊢
  have hB' : w.heap.size ≤ B := by omega
  clear hB
  go_loopw [5, 6, 8] (fun _ _ i wr => ∃ k : Nat, k ≤ 256 ∧ i = .int .i64 k ∧ w.grownBy wr none ∧ PRow .u16 wr (B + 1) 0 (fun _ => 0) ∧ PRow .u16 wr B 0 (fun j => if j < k then M j else L j)) (fun _ _ i _ => 256 - (intOf i).toNat)
  case atStart => exact ⟨0, by omega, rfl, hg, hA, hR.ext (fun j _ => by simp)⟩
  case round =>
    clear hA hR hg
    obtain ⟨k, hk, rfl, hg, hA, hR⟩ := hrel
    by_cases hlt : k < 256
    · have b0 : (0 : Int) ≤ (k : Int) := by omega
      have b1 : (k : Int) < 256 := by omega
      have ix := fun W => ix16 L k hlt W
      go_wp2_with (first | (go_at_call 201; refine (HM.out k wr hlt hg).mono ?_; rintro e w5 ⟨rfl, g5⟩; have cc := ((hR.new g5).at0 k hlt).1; have ff := ((hR.new g5).at0 k hlt).2))
      go_roundw
      case rel =>
        refine ⟨k + 1, by omega, by go_num, grown_setNew (grownBy_trans hg (by assumption)) (by simp; omega) _, (hA.new (by assumption)).set_other (by simp) _, ((hR.new (by assumption)).set0 hlt _).ext (fun j _ => mix_step _ _ k j)⟩
      case measure => simp [intOf]; omega
    · have hk6 : k = 256 := by omega
      subst hk6
      have hR' : PRow .u16 wr B 0 M := hR.ext (fun j hj => by simp [hj])
      clear hR
      go_wp2_with (first | (refine wpL_load rfl .u16 160 _ rfl B 0 rfl M hR' Tryz.oQ16 Tryz.sQ16 ?_) | (refine wpL_store rfl .u16 160 _ _ rfl (B + 1) 0 rfl M rfl .u16 _ hA Tryz.sQ16 ?_; intro w4 p4))
      refine bodyPost_ret (res1 rfl .u16 _ w4 (B + 1) M rfl p4.r Tryz.oQ16 Tryz.sQ16) rfl ⟨rfl, grown_new hg p4.g (by omega)⟩

set_option maxHeartbeats 1000000 in
set_option maxRecDepth 20000 in
theorem each_decompress (L M : Nat → Int) (cap : Array Value) (w : World)
    (hM : ∀ i W, i < 256 → w.grownBy W none → Calls Tryz.prog 202 (#[.int .u16 (L i)] ++ cap) W fun e W' => e = .returned (.int .u16 (M i)) ∧ W.grownBy W' none) :
    Calls Tryz.prog 200 #[.agg (polyA .u16 L), .func (.func 202) #[] cap] w fun e w' => e = .returned (.agg (polyA .u16 M)) ∧ w.grownBy w' none := by
  have HM : Hid (∀ i W, i < 256 → w.grownBy W none → Calls Tryz.prog 202 (#[.int .u16 (L i)] ++ cap) W fun e W' => e = .returned (.int .u16 (M i)) ∧ W.grownBy W' none) := hM
  clear hM
  go_enter Tryz.func200, Tryz.ntmps200
  have n1 := new_alloc .u16 w L 160
  go_wp2_with (first | (refine wpL_load rfl .u16 160 _ rfl w.heap.size 0 rfl L ((n1.r).new (World.grownBy_alloc _ _ none)) Tryz.oQ16 Tryz.sQ16 ?_))
  have n2 := new_alloc .u16 (w.alloc (.cells (polyA .u16 L) 160)) (fun _ => 0) 160
  rw [← Tryz.zQ16] at n2
  generalize (w.alloc (.cells (polyA .u16 L) 160)).alloc (.cells Tryz.zeroCells160 160) = w2 at *
  have hR : PRow .u16 w2 w.heap.size 0 L := n1.r.new n2.g
  have hA : PRow .u16 w2 (w.heap.size + 1) 0 (fun _ => 0) := by have := n2.r; rw [n1.s] at this; exact this
  have hg : w.grownBy w2 none := grownBy_trans n1.g n2.g
  clear n1 n2
  obtain ⟨B, hB⟩ : ∃ B, B = w.heap.size := ⟨_, rfl⟩
  rw [← hB] at hA hR ⊢
  have hB' : w.heap.size ≤ B := by omega
  clear hB
  go_loopw [5, 6, 8] (fun _ _ i wr => ∃ k : Nat, k ≤ 256 ∧ i = .int .i64 k ∧ w.grownBy wr none ∧ PRow .u16 wr (B + 1) 0 (fun _ => 0) ∧ PRow .u16 wr B 0 (fun j => if j < k then M j else L j)) (fun _ _ i _ => 256 - (intOf i).toNat)
  case atStart => exact ⟨0, by omega, rfl, hg, hA, hR.ext (fun j _ => by simp)⟩
  case round =>
    clear hA hR hg
    obtain ⟨k, hk, rfl, hg, hA, hR⟩ := hrel
    by_cases hlt : k < 256
    · have b0 : (0 : Int) ≤ (k : Int) := by omega
      have b1 : (k : Int) < 256 := by omega
      have ix := fun W => ix16 L k hlt W
      go_wp2_with (first | (go_at_call 202; refine (HM.out k wr hlt hg).mono ?_; rintro e w5 ⟨rfl, g5⟩; have cc := ((hR.new g5).at0 k hlt).1; have ff := ((hR.new g5).at0 k hlt).2))
      go_roundw
      case rel =>
        refine ⟨k + 1, by omega, by go_num, grown_setNew (grownBy_trans hg (by assumption)) (by simp; omega) _, (hA.new (by assumption)).set_other (by simp) _, ((hR.new (by assumption)).set0 hlt _).ext (fun j _ => mix_step _ _ k j)⟩
      case measure => simp [intOf]; omega
    · have hk6 : k = 256 := by omega
      subst hk6
      have hR' : PRow .u16 wr B 0 M := hR.ext (fun j hj => by simp [hj])
      clear hR
      go_wp2_with (first | (refine wpL_load rfl .u16 160 _ rfl B 0 rfl M hR' Tryz.oQ16 Tryz.sQ16 ?_) | (refine wpL_store rfl .u16 160 _ _ rfl (B + 1) 0 rfl M rfl .u16 _ hA Tryz.sQ16 ?_; intro w4 p4))
      refine bodyPost_ret (res1 rfl .u16 _ w4 (B + 1) M rfl p4.r Tryz.oQ16 Tryz.sQ16) rfl ⟨rfl, grown_new hg p4.g (by omega)⟩
end Go.Proofs.YtkijpphmiogbbaaGreatDoor

namespace Go.Proofs.YtkijpphmiogbbaaGreatDoor
open Go.RowKit
attribute [local go_sem ↓] Go.wp_at_zero Go.wp_at_succ

theorem and_mask (x m : Nat) (hx : x < 4294967296) (hm : m ≤ 32) : bits BinOp.and IntKind.u32 (x : Int) ((2 : Int) ^ m - 1) = ((x % 2 ^ m : Nat) : Int) := by
  have h1 : (2 : Nat) ^ m ≤ 2 ^ 32 := Nat.pow_le_pow_right (by omega) hm
  have h0 := Nat.two_pow_pos m
  have e : (2 : Int) ^ m - 1 = ((2 ^ m - 1 : Nat) : Int) := by rw [Int.ofNat_sub h0]; simp
  rw [e, u32_and_nat x _ hx (by omega), Nat.and_two_pow_sub_one_eq_mod]
theorem comp_val (a d : Nat) (ha : a < 3329) (hd1 : d ≤ 11) : IntKind.u16.wrap (bits BinOp.and IntKind.u32 (((a : Int) * 2 ^ (d + 1) + 3329) % 4294967296 / 6658) ((2 ^ d - 1) % 4294967296)) = ((compI d a : Nat) : Int) := by
  have hp : (2 : Nat) ^ d ≤ 2048 := Nat.pow_le_pow_right (n := 2) (by omega) hd1
  have h0 := Nat.two_pow_pos d
  have e2 : (2 : Nat) ^ (d + 1) = 2 * 2 ^ d := by rw [Nat.pow_succ]; omega
  have hm : a * 2 ^ (d + 1) ≤ 3329 * 4096 := Nat.mul_le_mul (by omega) (by omega)
  have e1 : ((a : Int) * 2 ^ (d + 1) + 3329) % 4294967296 / 6658 = (((a * 2 ^ (d + 1) + 3329) / 6658 : Nat) : Int) := by
    have : (a : Int) * 2 ^ (d + 1) + 3329 = ((a * 2 ^ (d + 1) + 3329 : Nat) : Int) := by simp
    rw [this]; omega
  have e3 : ((2 : Int) ^ d - 1) % 4294967296 = 2 ^ d - 1 := by
    have : (2 : Int) ^ d = ((2 ^ d : Nat) : Int) := by simp
    rw [this]; omega
  rw [e1, e3, and_mask _ d (by omega) (by omega), IntKind.wrap_u16]
  unfold compI
  have := Nat.mod_lt ((a * 2 ^ (d + 1) + 3329) / 6658) h0
  omega
set_option maxHeartbeats 1000000 in
theorem compress1_any (a d b : Nat) (w : World) (ha : a < 3329) (hd0 : 1 ≤ d) (hd1 : d ≤ 11) (hd : w.cell? ⟨b, 0, none⟩ = some (.int .i64 d)) :
    Calls Tryz.prog 201 #[.int .u16 a, .pointer (some ⟨b, 0, none⟩)] w fun e w' => e = .returned (.int .u16 (compI d a)) ∧ w' = w := by
  go_enter Tryz.func201, Tryz.ntmps201
  have HV : Hid (IntKind.u16.wrap (bits BinOp.and IntKind.u32 (((a : Int) * 2 ^ (d + 1) + 3329) % 4294967296 / 6658) ((2 ^ d - 1) % 4294967296)) = ((compI d a : Nat) : Int)) := comp_val a d ha hd1
  go_wp2
  go_ret
  exact ⟨congrArg (fun x => Ending.returned (.int .u16 x)) HV.out, rfl⟩
theorem dec_val (a d : Nat) (ha : a < 2 ^ d) (hd0 : 1 ≤ d) (hd1 : d ≤ 11) : IntKind.u16.wrap (((a : Int) % 4294967296 * 3329 + 2 ^ (d - 1)) % 4294967296 / 2 ^ d) = ((decI d a : Nat) : Int) := by
  have hp : (2 : Nat) ^ d ≤ 2048 := Nat.pow_le_pow_right (n := 2) (by omega) hd1
  have h0 := Nat.two_pow_pos d
  have h1 : (2 : Nat) ^ (d - 1) ≤ 1024 := Nat.pow_le_pow_right (n := 2) (by omega) (show d - 1 ≤ 10 by omega)
  have e : (2 : Int) ^ (d - 1) = ((2 ^ (d - 1) : Nat) : Int) := by simp
  have e2 : (2 : Int) ^ d = ((2 ^ d : Nat) : Int) := by simp
  unfold decI
  rw [e, e2]
  generalize (2 : Nat) ^ (d - 1) = p at *
  generalize (2 : Nat) ^ d = r at *
  clear e e2
  have e1 : ((a : Int) % 4294967296 * 3329 + (p : Int)) % 4294967296 = ((a * 3329 + p : Nat) : Int) := by omega
  have hlt : (a * 3329 + p) / r < 65536 := by
    rw [Nat.div_lt_iff_lt_mul h0]; omega
  have e3 : ((a * 3329 + p : Nat) : Int) / (r : Int) = (((a * 3329 + p) / r : Nat) : Int) := (Int.natCast_ediv _ _).symm
  rw [e1, e3, IntKind.wrap_u16]
  generalize (a * 3329 + p) / r = x at *
  omega
set_option maxHeartbeats 1000000 in
theorem decompress1_any (a d b : Nat) (w : World) (ha : a < 2 ^ d) (hd0 : 1 ≤ d) (hd1 : d ≤ 11) (hd : w.cell? ⟨b, 0, none⟩ = some (.int .i64 d)) :
    Calls Tryz.prog 202 #[.int .u16 a, .pointer (some ⟨b, 0, none⟩)] w fun e w' => e = .returned (.int .u16 (decI d a)) ∧ w.grownBy w' none := by
  go_enter Tryz.func202, Tryz.ntmps202
  have HV : Hid (IntKind.u16.wrap (((a : Int) % 4294967296 * 3329 + 2 ^ (d - 1)) % 4294967296 / 2 ^ d) = ((decI d a : Nat) : Int)) := dec_val a d ha hd0 hd1
  go_wp2
  go_region
  go_wp2
  go_ret
  exact ⟨congrArg (fun x => Ending.returned (.int .u16 x)) HV.out, grown_drew (World.grownBy.refl _ _)⟩

/-- What was boxed. -/
theorem box_cell (w : World) (v : Value) (T : TypeId) : (w.alloc (.cells #[v] T)).cell? ⟨w.heap.size, 0, none⟩ = some v := by rw [World.cell?_alloc_new]; rfl
/-- One boxed number, a boxed polynomial, a polynomial of noughts. -/
structure Three (w w' : World) (v : Value) (j k : IntKind) (L : Nat → Int) : Prop where
  g : w.grownBy w' none
  c : w'.cell? ⟨w.heap.size, 0, none⟩ = some v
  r : PRow j w' (w.heap.size + 1) 0 L
  z : PRow k w' (w.heap.size + 1 + 1) 0 (fun _ => 0)
theorem three (w : World) (v : Value) (T U V : TypeId) (j k : IntKind) (L : Nat → Int) : Three w (((w.alloc (.cells #[v] T)).alloc (.cells (polyA j L) U)).alloc (.cells (polyA k (fun _ => 0)) V)) v j k L := by
  have n2 := new_alloc j (w.alloc (.cells #[v] T)) L U
  have n3 := new_alloc k ((w.alloc (.cells #[v] T)).alloc (.cells (polyA j L) U)) (fun _ => 0) V
  refine ⟨grownBy_trans (World.grownBy_alloc _ _ _) (grownBy_trans n2.g n3.g), n3.g.cell (n2.g.cell (box_cell w v T) (by simp)) (by simp), ?_, ?_⟩
  · have := n2.r.new n3.g; rw [World.size_alloc] at this; exact this
  · have := n3.r; rw [World.size_alloc, World.size_alloc] at this; exact this

set_option maxHeartbeats 1000000 in
set_option maxRecDepth 20000 in
theorem ringCompress_any (L : Nat → Nat) (d : Nat) (w : World) (hL : ∀ i, i < 256 → L i < 3329) (hd0 : 1 ≤ d) (hd1 : d ≤ 11) :
    Calls Tryz.prog 111 #[.int .i64 d, .agg (polyA .u16 (fun i => (L i : Int)))] w fun e w' => e = .returned (.agg (polyA .u16 (fun i => ((compI d (L i) : Nat) : Int)))) ∧ w.grownBy w' none := by
  have t1 := three w (.int .i64 (d : Int)) 3 160 160 .u16 .u16 (fun i => (L i : Int))
  rw [← Tryz.zQ16] at t1
  have HM : Hid (∀ i W, i < 256 → (((w.alloc (.cells #[.int .i64 (d : Int)] 3)).alloc (.cells (polyA .u16 (fun i => (L i : Int))) 160)).alloc (.cells Tryz.zeroCells160 160)).grownBy W none → Calls Tryz.prog 201 (#[.int .u16 (L i)] ++ #[.pointer (some ⟨w.heap.size, 0, none⟩)]) W fun e W' => e = .returned (.int .u16 ((compI d (L i) : Nat) : Int)) ∧ W.grownBy W' none) :=
    fun i W hi hg => (compress1_any (L i) d w.heap.size W (hL i hi) hd0 hd1 (hg.cell t1.c (by simp))).mono (by rintro e w' ⟨rfl, rfl⟩; exact ⟨rfl, World.grownBy.refl _ _⟩)
  go_enter Tryz.func111, Tryz.ntmps111
  go_wp2_with (first | (refine wpL_load rfl .u16 160 _ rfl (w.heap.size + 1) 0 rfl _ t1.r Tryz.oQ16 Tryz.sQ16 ?_) | (go_at_call 200; refine (each_compress _ _ _ _ HM.out).mono ?_; rintro e w5 ⟨rfl, g5⟩) | (refine wpL_store rfl .u16 160 _ _ rfl (w.heap.size + 1 + 1) 0 rfl _ rfl .u16 _ (t1.z.new g5) Tryz.sQ16 ?_; intro w6 p6))
  refine bodyPost_ret (res1 rfl .u16 _ w6 (w.heap.size + 1 + 1) _ rfl p6.r Tryz.oQ16 Tryz.sQ16) rfl ⟨rfl, grown_new (grownBy_trans t1.g g5) p6.g (by omega)⟩

set_option maxHeartbeats 1000000 in
set_option maxRecDepth 20000 in
theorem ringDecompress_any (L : Nat → Nat) (d : Nat) (w : World) (hL : ∀ i, i < 256 → L i < 2 ^ d) (hd0 : 1 ≤ d) (hd1 : d ≤ 11) :
    Calls Tryz.prog 113 #[.int .i64 d, .agg (polyA .u16 (fun i => (L i : Int)))] w fun e w' => e = .returned (.agg (polyA .u16 (fun i => ((decI d (L i) : Nat) : Int)))) ∧ w.grownBy w' none := by
  have t1 := three w (.int .i64 (d : Int)) 3 160 160 .u16 .u16 (fun i => (L i : Int))
  rw [← Tryz.zQ16] at t1
  have HM : Hid (∀ i W, i < 256 → (((w.alloc (.cells #[.int .i64 (d : Int)] 3)).alloc (.cells (polyA .u16 (fun i => (L i : Int))) 160)).alloc (.cells Tryz.zeroCells160 160)).grownBy W none → Calls Tryz.prog 202 (#[.int .u16 (L i)] ++ #[.pointer (some ⟨w.heap.size, 0, none⟩)]) W fun e W' => e = .returned (.int .u16 ((decI d (L i) : Nat) : Int)) ∧ W.grownBy W' none) :=
    fun i W hi hg => (decompress1_any (L i) d w.heap.size W (hL i hi) hd0 hd1 (hg.cell t1.c (by simp))).mono (by rintro e w' ⟨rfl, g⟩; exact ⟨rfl, g⟩)
  go_enter Tryz.func113, Tryz.ntmps113
  go_wp2_with (first | (refine wpL_load rfl .u16 160 _ rfl (w.heap.size + 1) 0 rfl _ t1.r Tryz.oQ16 Tryz.sQ16 ?_) | (go_at_call 200; refine (each_decompress _ _ _ _ HM.out).mono ?_; rintro e w5 ⟨rfl, g5⟩) | (refine wpL_store rfl .u16 160 _ _ rfl (w.heap.size + 1 + 1) 0 rfl _ rfl .u16 _ (t1.z.new g5) Tryz.sQ16 ?_; intro w6 p6))
  refine bodyPost_ret (res1 rfl .u16 _ w6 (w.heap.size + 1 + 1) _ rfl p6.r Tryz.oQ16 Tryz.sQ16) rfl ⟨rfl, grown_new (grownBy_trans t1.g g5) p6.g (by omega)⟩
end Go.Proofs.YtkijpphmiogbbaaGreatDoor
