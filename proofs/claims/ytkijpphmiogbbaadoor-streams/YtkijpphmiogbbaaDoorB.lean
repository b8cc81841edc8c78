import Derived.Test.YtkijpphmiogbbaaDoorA
namespace Go.Proofs.YtkijpphmiogbbaaDoor
open Go.RowKit
attribute [local go_sem ↓] Go.wp_at_zero Go.wp_at_succ

def colSum (L : Nat → Int) (x : Nat) : Int := bits BinOp.xor IntKind.u64 (bits BinOp.xor IntKind.u64 (bits BinOp.xor IntKind.u64 (bits BinOp.xor IntKind.u64 (L x) (L (x + 5))) (L (x + 10))) (L (x + 15))) (L (x + 20))

def colMix (L : Nat → Int) (x : Nat) : Int := bits BinOp.xor IntKind.u64 (colSum L ((x + 4) % 5)) (rotI (colSum L ((x + 1) % 5)) 1)
def sumsTo (L : Nat → Int) (k : Nat) : Nat → Int := fun j => if j < k then colSum L j else 0
theorem sumsTo_step (L : Nat → Int) (k j : Nat) : upd (sumsTo L k) k (colSum L k) j = sumsTo L (k + 1) j := by
  unfold upd sumsTo
  by_cases e : j = k
  · subst e; rw [if_pos rfl, if_pos (by omega)]
  · rw [if_neg e]
    by_cases h : j < k
    · rw [if_pos h, if_pos (by omega)]
    · rw [if_neg h, if_neg (by omega)]
/-- Step 1, the first k columns done, of the next one m lanes. -/
def colsTo (L : Nat → Int) (k m : Nat) : Nat → Int := fun j => if j % 5 < k ∨ (j % 5 = k ∧ j / 5 < m) then bits BinOp.xor IntKind.u64 (L j) (colMix L (j % 5)) else L j
def mixColumnsF (L : Nat → Int) : Nat → Int := fun j => bits BinOp.xor IntKind.u64 (L j) (colMix L (j % 5))
theorem colsTo_zero (L : Nat → Int) (j : Nat) : colsTo L 0 0 j = L j := by
  unfold colsTo; rw [if_neg (by omega)]
theorem colsTo_five (L : Nat → Int) (k j : Nat) (hj : j < 25) : colsTo L k 5 j = colsTo L (k + 1) 0 j := by
  unfold colsTo
  by_cases h : j % 5 < k + 1
  · rw [if_pos (by omega), if_pos (by omega)]
  · rw [if_neg (by omega), if_neg (by omega)]
theorem colsTo_all (L : Nat → Int) (j : Nat) : colsTo L 5 0 j = mixColumnsF L j := by
  unfold colsTo mixColumnsF; rw [if_pos (by omega)]
theorem colsTo_at (L : Nat → Int) (k m : Nat) (hk : k < 5) : colsTo L k m (k + 5 * m) = L (k + 5 * m) := by
  unfold colsTo; rw [if_neg (by omega)]
theorem colsTo_step (L : Nat → Int) (k m j : Nat) (hk : k < 5) : upd (colsTo L k m) (k + 5 * m) (bits BinOp.xor IntKind.u64 (L (k + 5 * m)) (colMix L k)) j = colsTo L k (m + 1) j := by
  unfold upd
  by_cases e : j = k + 5 * m
  · subst e
    have h1 : (k + 5 * m) % 5 = k := by omega
    unfold colsTo; rw [if_pos rfl, if_pos (by omega), h1]
  · rw [if_neg e]
    unfold colsTo
    by_cases h : j % 5 < k ∨ (j % 5 = k ∧ j / 5 < m)
    · rw [if_pos h, if_pos (by omega)]
    · rw [if_neg h, if_neg (by omega)]

set_option maxHeartbeats 1000000 in
theorem mixColumns_any (b : Nat) (L : Nat → Int) (w : World) (hL : Row w b 25 L) :
    Calls Tryd.prog 31 #[.pointer (some ⟨b, 0, none⟩)] w fun e w' => e = .returned (.tuple #[]) ∧ Keep b w w' ∧ Row w' b 25 (mixColumnsF L) := by
  have hb := hL.lt (by omega)
  go_enter Tryd.func31, Tryd.ntmps31
  go_wp2
  go_loopw [7] (fun i wr => ∃ k : Nat, k ≤ 5 ∧ i = .int .i64 k ∧ Keep b w wr ∧ Row wr b 25 L ∧ Row wr w.heap.size 5 (sumsTo L k)) (fun i _ => 5 - (intOf i).toNat)
  case atStart =>
    refine ⟨0, by omega, rfl, (Keep.refl b w).alloc hb _, hL.alloc _, ?_⟩
    intro j hj
    refine ⟨?_, World.frozen?_alloc_at _ _ _ _ rfl⟩
    rw [World.cell?_alloc_new]
    match j, hj with
    | 0, _ => rfl
    | 1, _ => rfl
    | 2, _ => rfl
    | 3, _ => rfl
    | 4, _ => rfl
  case round =>
    obtain ⟨k, hk, rfl, hK, hR, hS⟩ := hrel
    by_cases hlt : k < 5
    · have c0 := (hR k (by omega)).1
      have c1 := (hR (k + 5) (by omega)).1
      have c2 := (hR (k + 10) (by omega)).1
      have c3 := (hR (k + 15) (by omega)).1
      have c4 := (hR (k + 20) (by omega)).1
      have s0 := (hS k (by omega)).1
      have f0 := (hS k (by omega)).2
      have b0 : (0 : Int) ≤ (k : Int) := by omega
      have b1 : (k : Int) < 5 := by omega
      have b2 : (k : Int) < 25 := by omega
      have b3 : (k : Int) + 5 < 25 := by omega
      have b4 : (k : Int) + 10 < 25 := by omega
      have b5 : (k : Int) + 15 < 25 := by omega
      have b6 : (k : Int) + 20 < 25 := by omega
      have b7 : (0 : Int) ≤ (k : Int) + 5 := by omega
      have b8 : (0 : Int) ≤ (k : Int) + 10 := by omega
      have b9 : (0 : Int) ≤ (k : Int) + 15 := by omega
      have b10 : (0 : Int) ≤ (k : Int) + 20 := by omega
      have w1 : IntKind.i64.wrap ((k : Int) + 5) = (k : Int) + 5 := by rw [IntKind.wrap_i64] <;> omega
      have w2 : IntKind.i64.wrap ((k : Int) + 10) = (k : Int) + 10 := by rw [IntKind.wrap_i64] <;> omega
      have w3 : IntKind.i64.wrap ((k : Int) + 15) = (k : Int) + 15 := by rw [IntKind.wrap_i64] <;> omega
      have w4 : IntKind.i64.wrap ((k : Int) + 20) = (k : Int) + 20 := by rw [IntKind.wrap_i64] <;> omega
      have t1 : ((k : Int) + 5).toNat = k + 5 := by omega
      have t2 : ((k : Int) + 10).toNat = k + 10 := by omega
      have t3 : ((k : Int) + 15).toNat = k + 15 := by omega
      have t4 : ((k : Int) + 20).toNat = k + 20 := by omega
      have hne : ¬ w.heap.size = b := by omega
      have hne' : ¬ b = w.heap.size := by omega
      go_wp2
      go_region_held3 (fun w' => w'.cell? ⟨b, k, none⟩ = some (.int .u64 (L k)) ∧ w'.cell? ⟨b, k + 5, none⟩ = some (.int .u64 (L (k + 5))) ∧ w'.cell? ⟨b, k + 10, none⟩ = some (.int .u64 (L (k + 10))) ∧ w'.cell? ⟨b, k + 15, none⟩ = some (.int .u64 (L (k + 15))) ∧ w'.cell? ⟨b, k + 20, none⟩ = some (.int .u64 (L (k + 20)))) (go_keep) (fail)
      go_wp2
      go_roundw
      case rel =>
        refine ⟨k + 1, by omega, by go_num, (hK.set_new (Nat.le_refl _) hb _).drew, (hR.set_other hne _).drew, ?_⟩
        exact ((hS.set (i := k) (by omega) _).drew).ext (fun j _ => sumsTo_step L k j)
      case measure => simp [intOf]; omega
    · have hk5 : k = 5 := by omega
      subst hk5
      have hS' : Row wr w.heap.size 5 (colSum L) := hS.ext (fun j hj => if_pos hj)
      have hT : Row wr b 25 (colsTo L 0 0) := hR.ext (fun j _ => (colsTo_zero L j).symm)
      clear hS hR
      go_wp2
      go_loopw [46] (fun i wq => ∃ k : Nat, k ≤ 5 ∧ i = .int .i64 k ∧ Keep b w wq ∧ Row wq b 25 (colsTo L k 0) ∧ Row wq w.heap.size 5 (colSum L)) (fun i _ => 5 - (intOf i).toNat)
      case atStart => exact ⟨0, by omega, rfl, hK, hT, hS'⟩
      case round =>
        clear hK hT hS'
        obtain ⟨k, hk, rfl, hK, hR, hS⟩ := hrel
        by_cases hlt : k < 5
        · obtain ⟨p, hp⟩ : ∃ p, p = (k + 4) % 5 := ⟨_, rfl⟩
          obtain ⟨q, hq⟩ : ∃ q, q = (k + 1) % 5 := ⟨_, rfl⟩
          have s0 := (hS p (by omega)).1
          have s1 := (hS q (by omega)).1
          have b0 : (0 : Int) ≤ (k : Int) := by omega
          have b1 : (k : Int) < 5 := by omega
          have b2 : (0 : Int) ≤ (p : Int) := by omega
          have b3 : (p : Int) < 5 := by omega
          have b4 : (0 : Int) ≤ (q : Int) := by omega
          have b5 : (q : Int) < 5 := by omega
          have w1 : IntKind.i64.wrap ((k : Int) + 4) = (k : Int) + 4 := by rw [IntKind.wrap_i64] <;> omega
          have w2 : IntKind.i64.wrap ((k : Int) + 1) = (k : Int) + 1 := by rw [IntKind.wrap_i64] <;> omega
          have m1 : ((k : Int) + 4).tmod 5 = (p : Int) := by rw [Int.tmod_eq_emod_of_nonneg (by omega)]; omega
          have m2 : ((k : Int) + 1).tmod 5 = (q : Int) := by rw [Int.tmod_eq_emod_of_nonneg (by omega)]; omega
          have m3 : ((k : Int) + 4) % 5 = (p : Int) := by omega
          have m4 : ((k : Int) + 1) % 5 = (q : Int) := by omega
          have w3 : IntKind.i64.wrap (p : Int) = (p : Int) := by rw [IntKind.wrap_i64] <;> omega
          have w4 : IntKind.i64.wrap (q : Int) = (q : Int) := by rw [IntKind.wrap_i64] <;> omega
          have HP : Hid (p = (k + 4) % 5) := hp
          have HQ : Hid (q = (k + 1) % 5) := hq
          clear hp hq
          go_wp2
          go_region_held3 (fun w' => w'.cell? ⟨w.heap.size, p, none⟩ = some (.int .u64 (colSum L p)) ∧ w'.cell? ⟨w.heap.size, q, none⟩ = some (.int .u64 (colSum L q))) (go_keep) (first | (go_at_call 34; refine (rot_any _ _ _ (by omega) (by omega)).mono ?_; rintro e w' ⟨rfl, rfl⟩))
          have hcm : bits BinOp.xor IntKind.u64 (colSum L p) (rotI (colSum L q) 1) = colMix L k := by rw [HP.out, HQ.out]; rfl
          rw [hcm]
          clear hcm s0 s1 b2 b3 b4 b5 w1 w2 m1 m2 m3 m4 w3 w4 HP HQ
          go_wp2
          go_loopw [6] (fun i wv => ∃ m y : Nat, m ≤ 5 ∧ y = 5 * m ∧ i = .int .i64 y ∧ Keep b w wv ∧ Row wv b 25 (colsTo L k m) ∧ Row wv w.heap.size 5 (colSum L)) (fun i _ => 25 - (intOf i).toNat)
          case atStart => exact ⟨0, 0, by omega, rfl, rfl, hK.drew, hR.drew, hS.drew⟩
          case round =>
            clear hK hR hS
            obtain ⟨m, y, hm, hy, rfl, hK, hR, hS⟩ := hrel
            by_cases hltm : y < 25
            · have c0 := (hR (k + y) (by omega)).1
              have f0 := (hR (k + y) (by omega)).2
              rw [hy, colsTo_at L k m hlt, ← hy] at c0
              have d0 : (0 : Int) ≤ (y : Int) := by omega
              have d1 : (y : Int) < 25 := by omega
              have d2 : (0 : Int) ≤ (k : Int) + (y : Int) := by omega
              have d3 : (k : Int) + (y : Int) < 25 := by omega
              have w1 : IntKind.i64.wrap ((k : Int) + (y : Int)) = (k : Int) + (y : Int) := by rw [IntKind.wrap_i64] <;> omega
              have t1 : ((k : Int) + (y : Int)).toNat = k + y := by omega
              have HY : Hid (y = 5 * m) := hy
              clear hy
              go_wp2
              go_region
              go_wp2
              go_roundw
              case rel => exact ⟨m + 1, y + 5, by have := HY.out; omega, by have := HY.out; omega, by go_num, (hK.set (by have := HY.out; omega) _).drew, ((hR.set (i := k + y) (by have := HY.out; omega) _).drew).ext (fun j _ => by rw [HY.out]; exact colsTo_step L k m j hlt), (hS.set_other (by simp; omega) _).drew⟩
              case measure => simp [intOf]; omega
            · have hm5 : m = 5 := by omega
              subst hm5
              have hy5 : y = 25 := by omega
              subst hy5
              go_wp2
              go_roundw
              case rel =>
                exact ⟨_, _, _, .int .i64 ((k : Int) + 1), ⟨k + 1, by omega, by go_num, hR.ext (fun j hj => colsTo_five L k j hj)⟩, rfl, rfl, rfl, rfl⟩
              case measure => simp [intOf]; omega
        · have hk5 : k = 5 := by omega
          subst hk5
          go_wp2
          go_end0
          exact ⟨rfl, hK, hR.ext (fun j _ => colsTo_all L j)⟩
end Go.Proofs.YtkijpphmiogbbaaDoor
