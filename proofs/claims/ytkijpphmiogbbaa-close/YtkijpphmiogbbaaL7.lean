import Derived.Test.YtkijpphmiogbbaaL4
import Derived.Test.YtkijpphmiogbbaaN3
import Derived.Laws.BitsAllLaws
namespace Go.Proofs.Ytkijpphmiogbbaa
open Go.RowKit
attribute [local go_sem ↓] Go.wp_at_zero Go.wp_at_succ

theorem and_mask (x m : Nat) (hx : x < 4294967296) (hm : m ≤ 32) : bits BinOp.and IntKind.u32 (x : Int) ((2 : Int) ^ m - 1) = ((x % 2 ^ m : Nat) : Int) := by
  have h1 : (2 : Nat) ^ m ≤ 2 ^ 32 := Nat.pow_le_pow_right (by omega) hm
  have h0 := Nat.two_pow_pos m
  have e : (2 : Int) ^ m - 1 = ((2 ^ m - 1 : Nat) : Int) := by rw [Int.ofNat_sub h0]; simp
  rw [e, u32_and_nat x _ hx (by omega), Nat.and_two_pow_sub_one_eq_mod]
theorem comp_val (a d : Nat) (ha : a < 3329) (hd1 : d ≤ 11) : IntKind.u16.wrap (bits BinOp.and IntKind.u32 (((a : Int) * 2 ^ (d + 1) + 3329) % 4294967296 / 6658) ((2 ^ d - 1) % 4294967296)) = ((compI d a : Nat) : Int) := by
  have hp : (2 : Nat) ^ d ≤ 2048 := Nat.pow_le_pow_right (n := 2) (by omega) hd1
  have h0 := Nat.two_pow_pos d
  have e2 : (2 : Nat) ^ (d + 1) = 2 * 2 ^ d := by rw [Nat.pow_succ]; omega
  have hm : a * 2 ^ (d + 1) ≤ 3329 * 4096 := Nat.mul_le_mul (by omega) (by omega)
  have e1 : ((a : Int) * 2 ^ (d + 1) + 3329) % 4294967296 / 6658 = (((a * 2 ^ (d + 1) + 3329) / 6658 : Nat) : Int) := by
    have : (a : Int) * 2 ^ (d + 1) + 3329 = ((a * 2 ^ (d + 1) + 3329 : Nat) : Int) := by simp
    rw [this]; omega
  have e3 : ((2 : Int) ^ d - 1) % 4294967296 = 2 ^ d - 1 := by
    have : (2 : Int) ^ d = ((2 ^ d : Nat) : Int) := by simp
    rw [this]; omega
  rw [e1, e3, and_mask _ d (by omega) (by omega), IntKind.wrap_u16]
  unfold compI
  have := Nat.mod_lt ((a * 2 ^ (d + 1) + 3329) / 6658) h0
  omega
set_option maxHeartbeats 1000000 in
theorem compress1_any (a d b : Nat) (w : World) (ha : a < 3329) (hd0 : 1 ≤ d) (hd1 : d ≤ 11) (hd : w.cell? ⟨b, 0, none⟩ = some (.int .i64 d)) :
    Calls Try.prog 41 #[.int .u16 a, .pointer (some ⟨b, 0, none⟩)] w fun e w' => e = .returned (.int .u16 (compI d a)) ∧ w' = w := by
  go_enter Try.func41, Try.ntmps41
  have HV : Hid (IntKind.u16.wrap (bits BinOp.and IntKind.u32 (((a : Int) * 2 ^ (d + 1) + 3329) % 4294967296 / 6658) ((2 ^ d - 1) % 4294967296)) = ((compI d a : Nat) : Int)) := comp_val a d ha hd1
  go_wp2
  go_ret
  exact ⟨congrArg (fun x => Ending.returned (.int .u16 x)) HV.out, rfl⟩
theorem dec_val (a d : Nat) (ha : a < 2 ^ d) (hd0 : 1 ≤ d) (hd1 : d ≤ 11) : IntKind.u16.wrap (((a : Int) % 4294967296 * 3329 + 2 ^ (d - 1)) % 4294967296 / 2 ^ d) = ((decI d a : Nat) : Int) := by
  have hp : (2 : Nat) ^ d ≤ 2048 := Nat.pow_le_pow_right (n := 2) (by omega) hd1
  have h0 := Nat.two_pow_pos d
  have h1 : (2 : Nat) ^ (d - 1) ≤ 1024 := Nat.pow_le_pow_right (n := 2) (by omega) (show d - 1 ≤ 10 by omega)
  have e : (2 : Int) ^ (d - 1) = ((2 ^ (d - 1) : Nat) : Int) := by simp
  have e2 : (2 : Int) ^ d = ((2 ^ d : Nat) : Int) := by simp
  unfold decI
  rw [e, e2]
  generalize (2 : Nat) ^ (d - 1) = p at *
  generalize (2 : Nat) ^ d = r at *
  clear e e2
  have e1 : ((a : Int) % 4294967296 * 3329 + (p : Int)) % 4294967296 = ((a * 3329 + p : Nat) : Int) := by omega
  have hlt : (a * 3329 + p) / r < 65536 := by
    rw [Nat.div_lt_iff_lt_mul h0]; omega
  have e3 : ((a * 3329 + p : Nat) : Int) / (r : Int) = (((a * 3329 + p) / r : Nat) : Int) := (Int.natCast_ediv _ _).symm
  rw [e1, e3, IntKind.wrap_u16]
  generalize (a * 3329 + p) / r = x at *
  omega
set_option maxHeartbeats 1000000 in
theorem decompress1_any (a d b : Nat) (w : World) (ha : a < 2 ^ d) (hd0 : 1 ≤ d) (hd1 : d ≤ 11) (hd : w.cell? ⟨b, 0, none⟩ = some (.int .i64 d)) :
    Calls Try.prog 42 #[.int .u16 a, .pointer (some ⟨b, 0, none⟩)] w fun e w' => e = .returned (.int .u16 (decI d a)) ∧ w.grownBy w' none := by
  go_enter Try.func42, Try.ntmps42
  have HV : Hid (IntKind.u16.wrap (((a : Int) % 4294967296 * 3329 + 2 ^ (d - 1)) % 4294967296 / 2 ^ d) = ((decI d a : Nat) : Int)) := dec_val a d ha hd0 hd1
  go_wp2
  go_region
  go_wp2
  go_ret
  exact ⟨congrArg (fun x => Ending.returned (.int .u16 x)) HV.out, grown_drew (World.grownBy.refl _ _)⟩

/-- What was boxed. -/
theorem box_cell (w : World) (v : Value) (T : TypeId) : (w.alloc (.cells #[v] T)).cell? ⟨w.heap.size, 0, none⟩ = some v := by rw [World.cell?_alloc_new]; rfl
/-- One boxed number, a boxed polynomial, a polynomial of noughts. -/
structure Three (w w' : World) (v : Value) (j k : IntKind) (L : Nat → Int) : Prop where
  g : w.grownBy w' none
  c : w'.cell? ⟨w.heap.size, 0, none⟩ = some v
  r : PRow j w' (w.heap.size + 1) 0 L
  z : PRow k w' (w.heap.size + 1 + 1) 0 (fun _ => 0)
theorem three (w : World) (v : Value) (T U V : TypeId) (j k : IntKind) (L : Nat → Int) : Three w (((w.alloc (.cells #[v] T)).alloc (.cells (polyA j L) U)).alloc (.cells (polyA k (fun _ => 0)) V)) v j k L := by
  have n2 := new_alloc j (w.alloc (.cells #[v] T)) L U
  have n3 := new_alloc k ((w.alloc (.cells #[v] T)).alloc (.cells (polyA j L) U)) (fun _ => 0) V
  refine ⟨grownBy_trans (World.grownBy_alloc _ _ _) (grownBy_trans n2.g n3.g), n3.g.cell (n2.g.cell (box_cell w v T) (by simp)) (by simp), ?_, ?_⟩
  · have := n2.r.new n3.g; rw [World.size_alloc] at this; exact this
  · have := n3.r; rw [World.size_alloc, World.size_alloc] at this; exact this

set_option maxHeartbeats 1000000 in
set_option maxRecDepth 20000 in
theorem ringCompress_any (L : Nat → Nat) (d : Nat) (w : World) (hL : ∀ i, i < 256 → L i < 3329) (hd0 : 1 ≤ d) (hd1 : d ≤ 11) :
    Calls Try.prog 24 #[.int .i64 d, .agg (polyA .u16 (fun i => (L i : Int)))] w fun e w' => e = .returned (.agg (polyA .u16 (fun i => ((compI d (L i) : Nat) : Int)))) ∧ w.grownBy w' none := by
  have t1 := three w (.int .i64 (d : Int)) 3 44 44 .u16 .u16 (fun i => (L i : Int))
  rw [← Try.zQ16] at t1
  have HM : Hid (∀ i W, i < 256 → (((w.alloc (.cells #[.int .i64 (d : Int)] 3)).alloc (.cells (polyA .u16 (fun i => (L i : Int))) 44)).alloc (.cells Try.zeroCells44 44)).grownBy W none → Calls Try.prog 41 (#[.int .u16 (L i)] ++ #[.pointer (some ⟨w.heap.size, 0, none⟩)]) W fun e W' => e = .returned (.int .u16 ((compI d (L i) : Nat) : Int)) ∧ W.grownBy W' none) :=
    fun i W hi hg => (compress1_any (L i) d w.heap.size W (hL i hi) hd0 hd1 (hg.cell t1.c (by simp))).mono (by rintro e w' ⟨rfl, rfl⟩; exact ⟨rfl, World.grownBy.refl _ _⟩)
  go_enter Try.func24, Try.ntmps24
  go_wp2_with (first | (refine wpL_load rfl .u16 44 _ rfl (w.heap.size + 1) 0 rfl _ t1.r Try.oQ16 Try.sQ16 ?_) | (go_at_call 40; refine (each_compress _ _ _ _ HM.out).mono ?_; rintro e w5 ⟨rfl, g5⟩) | (refine wpL_store rfl .u16 44 _ _ rfl (w.heap.size + 1 + 1) 0 rfl _ rfl .u16 _ (t1.z.new g5) Try.sQ16 ?_; intro w6 p6))
  refine bodyPost_ret (res1 rfl .u16 _ w6 (w.heap.size + 1 + 1) _ rfl p6.r Try.oQ16 Try.sQ16) rfl ⟨rfl, grown_new (grownBy_trans t1.g g5) p6.g (by omega)⟩

set_option maxHeartbeats 1000000 in
set_option maxRecDepth 20000 in
theorem ringDecompress_any (L : Nat → Nat) (d : Nat) (w : World) (hL : ∀ i, i < 256 → L i < 2 ^ d) (hd0 : 1 ≤ d) (hd1 : d ≤ 11) :
    Calls Try.prog 26 #[.int .i64 d, .agg (polyA .u16 (fun i => (L i : Int)))] w fun e w' => e = .returned (.agg (polyA .u16 (fun i => ((decI d (L i) : Nat) : Int)))) ∧ w.grownBy w' none := by
  have t1 := three w (.int .i64 (d : Int)) 3 44 44 .u16 .u16 (fun i => (L i : Int))
  rw [← Try.zQ16] at t1
  have HM : Hid (∀ i W, i < 256 → (((w.alloc (.cells #[.int .i64 (d : Int)] 3)).alloc (.cells (polyA .u16 (fun i => (L i : Int))) 44)).alloc (.cells Try.zeroCells44 44)).grownBy W none → Calls Try.prog 42 (#[.int .u16 (L i)] ++ #[.pointer (some ⟨w.heap.size, 0, none⟩)]) W fun e W' => e = .returned (.int .u16 ((decI d (L i) : Nat) : Int)) ∧ W.grownBy W' none) :=
    fun i W hi hg => (decompress1_any (L i) d w.heap.size W (hL i hi) hd0 hd1 (hg.cell t1.c (by simp))).mono (by rintro e w' ⟨rfl, g⟩; exact ⟨rfl, g⟩)
  go_enter Try.func26, Try.ntmps26
  go_wp2_with (first | (refine wpL_load rfl .u16 44 _ rfl (w.heap.size + 1) 0 rfl _ t1.r Try.oQ16 Try.sQ16 ?_) | (go_at_call 40; refine (each_decompress _ _ _ _ HM.out).mono ?_; rintro e w5 ⟨rfl, g5⟩) | (refine wpL_store rfl .u16 44 _ _ rfl (w.heap.size + 1 + 1) 0 rfl _ rfl .u16 _ (t1.z.new g5) Try.sQ16 ?_; intro w6 p6))
  refine bodyPost_ret (res1 rfl .u16 _ w6 (w.heap.size + 1 + 1) _ rfl p6.r Try.oQ16 Try.sQ16) rfl ⟨rfl, grown_new (grownBy_trans t1.g g5) p6.g (by omega)⟩
end Go.Proofs.Ytkijpphmiogbbaa
