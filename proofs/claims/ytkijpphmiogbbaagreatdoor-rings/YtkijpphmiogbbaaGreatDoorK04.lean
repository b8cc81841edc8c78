import Derived.Test.YtkijpphmiogbbaaGreatDoorK03
namespace Go.Proofs.YtkijpphmiogbbaaGreatDoor.Z
open Go.RowKit
attribute [local go_sem ↓] Go.wp_at_zero Go.wp_at_succ
attribute [local go_sem ↓] ld_hide st_hide bs_hide ldA_hide stA_hide

def InB (L : Nat → Int) (n : Int) : Prop := ∀ j, j < 256 → 0 ≤ L j ∧ L j < n
set_option maxHeartbeats 2000000 in
set_option maxRecDepth 20000 in
theorem bound_any (L : Nat → Int) (n : Int) (w : World) :
    Calls Tryz.prog 52 #[.agg (polyA .i64 L), .int .i64 n] w fun e w' => ∃ b, e = .returned (.bool b) ∧ (b = true ↔ InB L n) ∧ w.grownBy w' none := by
  have n1 := new_alloc .i64 w L 43
  have g3 := n1.g
  have r1 := n1.r
  go_enter Tryz.func52, Tryz.ntmps52
  go_wp2
  generalize w.alloc (.cells (polyA .i64 L) 43) = W3 at *
  clear n1
  go_loopw [5] (fun i wr => ∃ k : Nat, k ≤ 256 ∧ i = .int .i64 k ∧ wr = W3 ∧ Hid (∀ j, j < k → 0 ≤ L j ∧ L j < n)) (fun i _ => 256 - (intOf i).toNat)
  case atStart => exact ⟨0, by omega, rfl, rfl, fun j hj => absurd hj (by omega)⟩
  case round =>
    obtain ⟨k, hk, rfl, rfl, HJ⟩ := hrel
    by_cases hlt : k < 256
    · have k0 : (0 : Int) ≤ (k : Int) := Int.natCast_nonneg k
      have k1 : (k : Int) < 256 := by omega
      have c1 := (r1.at0 k hlt).1
      by_cases q0 : L k < 0
      · go_wp2
        go_ret
        exact ⟨false, rfl, ⟨fun h => (by cases h), fun h => absurd (h k hlt).1 (by omega)⟩, g3⟩
      · by_cases q1 : n ≤ L k
        · have hno : ¬ InB L n := fun h => absurd (h k hlt).2 (by omega)
          go_wp2
          go_ret
          exact ⟨rfl, g3⟩
        · go_wp2
          refine ⟨⟨k + 1, by omega, by go_num, trivial, fun j hj => ?_⟩, by simp [intOf]; omega⟩
          rcases Nat.lt_or_ge j k with h1 | h1
          · exact HJ.out j h1
          · obtain rfl : j = k := by omega
            omega
    · have hk6 : k = 256 := by omega
      subst hk6
      go_wp2
      go_ret
      exact ⟨true, rfl, ⟨fun _ => HJ.out, fun _ => rfl⟩, g3⟩
/-- What the document's Compress makes of a coefficient, and its Decompress. -/
def rComp (d : Nat) (a : Int) : Int := (a * 2 ^ (d + 1) + 3329) / 6658 % 2 ^ d
def rDeco (d : Nat) (a : Int) : Int := (a * 3329 * 2 + 2 ^ d) / 2 ^ (d + 1)
theorem comp_facts (d : Nat) (hd : 1 ≤ d) (hd1 : d ≤ 11) (a : Int) (h0 : 0 ≤ a) (h1 : a < 3329) :
    ∃ t : Int, (2 : Int) ^ (d + 1) = 2 * t ∧ (2 : Int) ^ d = t ∧ 0 < t ∧ t ≤ 2048 ∧ 0 ≤ a * (2 * t) ∧ a * (2 * t) ≤ 13635584 := by
  have hd2 : d = 1 ∨ d = 2 ∨ d = 3 ∨ d = 4 ∨ d = 5 ∨ d = 6 ∨ d = 7 ∨ d = 8 ∨ d = 9 ∨ d = 10 ∨ d = 11 := by omega
  rcases hd2 with rfl | rfl | rfl | rfl | rfl | rfl | rfl | rfl | rfl | rfl | rfl
  · exact ⟨2, by decide, by decide, by decide, by decide, by omega, by omega⟩
  · exact ⟨4, by decide, by decide, by decide, by decide, by omega, by omega⟩
  · exact ⟨8, by decide, by decide, by decide, by decide, by omega, by omega⟩
  · exact ⟨16, by decide, by decide, by decide, by decide, by omega, by omega⟩
  · exact ⟨32, by decide, by decide, by decide, by decide, by omega, by omega⟩
  · exact ⟨64, by decide, by decide, by decide, by decide, by omega, by omega⟩
  · exact ⟨128, by decide, by decide, by decide, by decide, by omega, by omega⟩
  · exact ⟨256, by decide, by decide, by decide, by decide, by omega, by omega⟩
  · exact ⟨512, by decide, by decide, by decide, by decide, by omega, by omega⟩
  · exact ⟨1024, by decide, by decide, by decide, by decide, by omega, by omega⟩
  · exact ⟨2048, by decide, by decide, by decide, by decide, by omega, by omega⟩
theorem hidz {p : Prop} (h : p) : Hid p := h
theorem wrap_id (z : Int) (h0 : -9223372036854775808 ≤ z) (h1 : z ≤ 9223372036854775807) : wrap64 z = z := by unfold wrap64; omega
theorem comp_val (d : Nat) (y t : Int) (t1 : (2 : Int) ^ (d + 1) = 2 * t) (t2 : (2 : Int) ^ d = t) (_t3 : 0 < t) (_t4 : t ≤ 2048) (t5 : 0 ≤ y * (2 * t)) (t6 : y * (2 * t) ≤ 13635584) :
    (wrap64 ((wrap64 (wrap64 (y * (2 * t)) + 3329)).tdiv 6658)).tmod t = rComp d y := by
  unfold rComp
  rw [t1, t2]
  generalize y * (2 * t) = z at *
  rw [wrap_id z (by omega) (by omega), wrap_id (z + 3329) (by omega) (by omega), Int.tdiv_eq_ediv_of_nonneg (by omega), wrap_id _ (by omega) (by omega), Int.tmod_eq_emod_of_nonneg (by omega)]
set_option maxHeartbeats 2000000 in
set_option maxRecDepth 20000 in
theorem rcomp_any (d : Nat) (hd : 1 ≤ d) (hd1 : d ≤ 11) (L : Nat → Int) (hL : InB L 3329) (w : World) :
    Calls Tryz.prog 120 #[.int .i64 d, .agg (polyA .i64 L)] w fun e w' => e = .returned (.agg (polyA .i64 (fun j => rComp d (L j)))) ∧ w.grownBy w' none := by
  have n1 := new_alloc .i64 w L 43
  generalize hw1 : w.alloc (.cells (polyA .i64 L) 43) = w1 at n1
  have n2 := new_alloc .i64 w1 (fun _ => 0) 43
  rw [← Tryz.zY] at n2
  have s1 := n1.s
  have g3 : w.grownBy (w1.alloc (.cells Tryz.zeroCells43 43)) none := grownBy_trans n1.g n2.g
  have r1 := n1.r.new n2.g
  have r2 := n2.r
  rw [s1] at r2
  have HL : Hid (InB L 3329) := hL
  have d0 : (0 : Int) ≤ (d : Int) := Int.natCast_nonneg d
  have d1 : (d : Int) ≤ 11 := by omega
  clear hL
  go_enter Tryz.func120, Tryz.ntmps120
  go_wp2
  generalize (w.alloc (.cells (polyA .i64 L) 43)) = w9 at *
  subst hw1
  generalize w9.alloc (.cells Tryz.zeroCells43 43) = W3 at *
  clear n1 n2 s1
  go_loopw [5] (fun i wr => ∃ k : Nat, k ≤ 256 ∧ i = .int .i64 k ∧ w.grownBy wr none ∧ PRow .i64 wr w.heap.size 0 (fun j => if j < k then rComp d (L j) else L j) ∧ PRow .i64 wr (w.heap.size + 1) 0 (fun _ => 0)) (fun i _ => 256 - (intOf i).toNat)
  case atStart => exact ⟨0, by omega, rfl, g3, r1.ext (fun j _ => by simp), r2⟩
  case round =>
    clear g3 r1 r2
    obtain ⟨k, hk, rfl, hg, h1, h2⟩ := hrel
    by_cases hlt : k < 256
    · have k0 : (0 : Int) ≤ (k : Int) := Int.natCast_nonneg k
      have k1 : (k : Int) < 256 := by omega
      have c1 := (h1.at0 k hlt).1
      have c2 := (h1.at0 k hlt).2
      rw [if_neg (Nat.lt_irrefl k)] at c1
      obtain ⟨a0, a1⟩ := HL.out k hlt
      obtain ⟨t, t1, t2, t3, t4, t5, t6⟩ := comp_facts d hd hd1 (L k) a0 a1
      have HR : Hid (rComp d (L k) = (L k * (2 * t) + 3329) / 6658 % t) := by show rComp d (L k) = _; unfold rComp; rw [t1, t2]
      obtain ⟨y, hy⟩ : ∃ y, y = L k := ⟨_, rfl⟩
      rw [← hy] at c1 HR t5 t6
      have HY : Hid (y = L k) := hy
      have e1 : ((d : Int) + 1).toNat = d + 1 := by omega
      have HV := hidz (comp_val d y t t1 t2 t3 t4 t5 t6)
      clear hy a0 a1
      go_wp2
      go_region
      have r4 := (h1.set0 hlt (rComp d y)).drew
      have g4 := grown_drew (grown_setNew hg (p := ⟨w.heap.size, k, none⟩) (Nat.le_refl _) (.int .i64 (rComp d y)))
      have o4 := (h2.set_other (p := ⟨w.heap.size, k, none⟩) (by show w.heap.size ≠ w.heap.size + 1; omega) (.int .i64 (rComp d y))).drew
      first
        | rw [← HR.out]
        | rw [HV.out]
      generalize (wr.setCell ⟨w.heap.size, k, none⟩ (.int .i64 (rComp d y))).drew = W4 at *
      rw [HY.out] at r4
      clear c1 c2 t1 t2 HV HR
      go_wp2
      exact ⟨⟨k + 1, by omega, by go_num, g4, r4.ext (fun j _ => mix_step (fun j => rComp d (L j)) L k j), o4⟩, by simp [intOf]; omega⟩
    · have hk6 : k = 256 := by omega
      subst hk6
      have r3 : PRow .i64 wr w.heap.size 0 (fun j => rComp d (L j)) := h1.ext (fun j hj => by rw [if_pos hj])
      have ld := run_hidLd wr w.heap.size 0 _ r3
      have st := run_hidSt wr (w.heap.size + 1) (fun j => rComp d (L j)) _ h2
      have p6 := put_cells .i64 wr (w.heap.size + 1) 0 (fun j => rComp d (L j)) (h2.there .i64 _)
      clear h1 h2
      go_wp2
      refine bodyPost_ret (v := .agg (polyA .i64 (fun j => rComp d (L j)))) ?_ rfl ⟨rfl, grown_new hg p6.g (Nat.le_succ _)⟩
      exact res1 Tryz.results120 .i64 _ _ (w.heap.size + 1) _ rfl p6.r ⟨_, Tryz.uY⟩ Tryz.sY
end Go.Proofs.YtkijpphmiogbbaaGreatDoor.Z

namespace Go.Proofs.YtkijpphmiogbbaaGreatDoor.Z
open Go.RowKit
attribute [local go_sem ↓] Go.wp_at_zero Go.wp_at_succ
attribute [local go_sem ↓] ld_hide st_hide bs_hide ldA_hide stA_hide

theorem deco_facts (d : Nat) (hd : 1 ≤ d) (hd1 : d ≤ 11) (a : Int) (h0 : 0 ≤ a) (h1 : a < 2 ^ d) :
    ∃ t : Int, (2 : Int) ^ (d + 1) = 2 * t ∧ (2 : Int) ^ d = t ∧ 0 < t ∧ t ≤ 2048 ∧ 0 ≤ a ∧ a < 2048 := by
  have hd2 : d = 1 ∨ d = 2 ∨ d = 3 ∨ d = 4 ∨ d = 5 ∨ d = 6 ∨ d = 7 ∨ d = 8 ∨ d = 9 ∨ d = 10 ∨ d = 11 := by omega
  rcases hd2 with rfl | rfl | rfl | rfl | rfl | rfl | rfl | rfl | rfl | rfl | rfl
  · exact ⟨2, by decide, by decide, by decide, by decide, h0, by have e : (2 : Int) ^ 1 = 2 := (by decide); omega⟩
  · exact ⟨4, by decide, by decide, by decide, by decide, h0, by have e : (2 : Int) ^ 2 = 4 := (by decide); omega⟩
  · exact ⟨8, by decide, by decide, by decide, by decide, h0, by have e : (2 : Int) ^ 3 = 8 := (by decide); omega⟩
  · exact ⟨16, by decide, by decide, by decide, by decide, h0, by have e : (2 : Int) ^ 4 = 16 := (by decide); omega⟩
  · exact ⟨32, by decide, by decide, by decide, by decide, h0, by have e : (2 : Int) ^ 5 = 32 := (by decide); omega⟩
  · exact ⟨64, by decide, by decide, by decide, by decide, h0, by have e : (2 : Int) ^ 6 = 64 := (by decide); omega⟩
  · exact ⟨128, by decide, by decide, by decide, by decide, h0, by have e : (2 : Int) ^ 7 = 128 := (by decide); omega⟩
  · exact ⟨256, by decide, by decide, by decide, by decide, h0, by have e : (2 : Int) ^ 8 = 256 := (by decide); omega⟩
  · exact ⟨512, by decide, by decide, by decide, by decide, h0, by have e : (2 : Int) ^ 9 = 512 := (by decide); omega⟩
  · exact ⟨1024, by decide, by decide, by decide, by decide, h0, by have e : (2 : Int) ^ 10 = 1024 := (by decide); omega⟩
  · exact ⟨2048, by decide, by decide, by decide, by decide, h0, by have e : (2 : Int) ^ 11 = 2048 := (by decide); omega⟩
set_option maxHeartbeats 2000000 in
set_option maxRecDepth 20000 in
theorem rdeco_any (d : Nat) (hd : 1 ≤ d) (hd1 : d ≤ 11) (L : Nat → Int) (hL : InB L (2 ^ d)) (w : World) :
    Calls Tryz.prog 121 #[.int .i64 d, .agg (polyA .i64 L)] w fun e w' => e = .returned (.agg (polyA .i64 (fun j => rDeco d (L j)))) ∧ w.grownBy w' none := by
  have n1 := new_alloc .i64 w L 43
  generalize hw1 : w.alloc (.cells (polyA .i64 L) 43) = w1 at n1
  have n2 := new_alloc .i64 w1 (fun _ => 0) 43
  rw [← Tryz.zY] at n2
  have s1 := n1.s
  have g3 : w.grownBy (w1.alloc (.cells Tryz.zeroCells43 43)) none := grownBy_trans n1.g n2.g
  have r1 := n1.r.new n2.g
  have r2 := n2.r
  rw [s1] at r2
  have HL : Hid (InB L (2 ^ d)) := hL
  have d0 : (0 : Int) ≤ (d : Int) := Int.natCast_nonneg d
  have d1 : (d : Int) ≤ 11 := by omega
  clear hL
  go_enter Tryz.func121, Tryz.ntmps121
  go_wp2
  generalize (w.alloc (.cells (polyA .i64 L) 43)) = w9 at *
  subst hw1
  generalize w9.alloc (.cells Tryz.zeroCells43 43) = W3 at *
  clear n1 n2 s1
  go_loopw [5] (fun i wr => ∃ k : Nat, k ≤ 256 ∧ i = .int .i64 k ∧ w.grownBy wr none ∧ PRow .i64 wr w.heap.size 0 (fun j => if j < k then rDeco d (L j) else L j) ∧ PRow .i64 wr (w.heap.size + 1) 0 (fun _ => 0)) (fun i _ => 256 - (intOf i).toNat)
  case atStart => exact ⟨0, by omega, rfl, g3, r1.ext (fun j _ => by simp), r2⟩
  case round =>
    clear g3 r1 r2
    obtain ⟨k, hk, rfl, hg, h1, h2⟩ := hrel
    by_cases hlt : k < 256
    · have k0 : (0 : Int) ≤ (k : Int) := Int.natCast_nonneg k
      have k1 : (k : Int) < 256 := by omega
      have c1 := (h1.at0 k hlt).1
      have c2 := (h1.at0 k hlt).2
      rw [if_neg (Nat.lt_irrefl k)] at c1
      obtain ⟨a0, a1⟩ := HL.out k hlt
      obtain ⟨t, t1, t2, t3, t4, t5, t6⟩ := deco_facts d hd hd1 (L k) a0 a1
      have HR : Hid (rDeco d (L k) = (L k * 3329 * 2 + t) / (2 * t)) := by show rDeco d (L k) = _; unfold rDeco; rw [t1, t2]
      obtain ⟨y, hy⟩ : ∃ y, y = L k := ⟨_, rfl⟩
      rw [← hy] at c1 HR t5 t6
      have HY : Hid (y = L k) := hy
      have e1 : ((d : Int) + 1).toNat = d + 1 := by omega
      clear hy a0 a1
      go_wp2
      go_region
      have r4 := (h1.set0 hlt (rDeco d y)).drew
      have g4 := grown_drew (grown_setNew hg (p := ⟨w.heap.size, k, none⟩) (Nat.le_refl _) (.int .i64 (rDeco d y)))
      have o4 := (h2.set_other (p := ⟨w.heap.size, k, none⟩) (by show w.heap.size ≠ w.heap.size + 1; omega) (.int .i64 (rDeco d y))).drew
      rw [← HR.out]
      generalize (wr.setCell ⟨w.heap.size, k, none⟩ (.int .i64 (rDeco d y))).drew = W4 at *
      rw [HY.out] at r4
      clear c1 c2 t1 t2 HR
      go_wp2
      exact ⟨⟨k + 1, by omega, by go_num, g4, r4.ext (fun j _ => mix_step (fun j => rDeco d (L j)) L k j), o4⟩, by simp [intOf]; omega⟩
    · have hk6 : k = 256 := by omega
      subst hk6
      have r3 : PRow .i64 wr w.heap.size 0 (fun j => rDeco d (L j)) := h1.ext (fun j hj => by rw [if_pos hj])
      have ld := run_hidLd wr w.heap.size 0 _ r3
      have st := run_hidSt wr (w.heap.size + 1) (fun j => rDeco d (L j)) _ h2
      have p6 := put_cells .i64 wr (w.heap.size + 1) 0 (fun j => rDeco d (L j)) (h2.there .i64 _)
      clear h1 h2
      go_wp2
      refine bodyPost_ret (v := .agg (polyA .i64 (fun j => rDeco d (L j)))) ?_ rfl ⟨rfl, grown_new hg p6.g (Nat.le_succ _)⟩
      exact res1 Tryz.results121 .i64 _ _ (w.heap.size + 1) _ rfl p6.r ⟨_, Tryz.uY⟩ Tryz.sY
end Go.Proofs.YtkijpphmiogbbaaGreatDoor.Z
