import Derived.Test.YtkijpphmiogbbaaGreatDoorH29
import Derived.Laws.Rows
import Derived.Laws.ResultCell
import Derived.Deep.MidRow
namespace Go.Proofs.YtkijpphmiogbbaaGreatDoor
open Go.RowKit
attribute [local go_sem ↓] Go.wp_at_zero Go.wp_at_succ

set_option maxHeartbeats 400000 in
theorem turned_any (x : Int) (n : Nat) (w : World) (h0 : 0 < n) (h1 : n < 64) :
    Calls Tryz.prog 268 #[.int .u64 x, .int .i64 n] w fun e w' => e = .returned (.int .u64 (rotI x n)) ∧ w' = w.drew := by
  have hz : ((n : Int) == 0) = false := by simp; omega
  have b0 : (0 : Int) ≤ (n : Int) := by omega
  have b1 : (n : Int) < 64 := by omega
  have b2 : (0 : Int) ≤ 64 - (n : Int) := by omega
  have HR : Hid (rotI x n = bits BinOp.or IntKind.u64 (IntKind.u64.wrap (x * 2 ^ n)) (x / 2 ^ (64 - n))) := show _ = _ by
    unfold rotI; rw [Int.toNat_natCast, show (64 - (n : Int)).toNat = 64 - n by omega]
  go_enter Tryz.func268, Tryz.ntmps268
  go_wp2
  go_region
  go_wp2
  go_ret
  rw [HR.out]
  exact ⟨rfl, rfl⟩

/-- 25 lanes as a value. -/
def lanesA (L : Nat → Int) : Array Value := ((List.range 25).map (fun i => Value.int .u64 (L i))).toArray
theorem lanesA_at (L : Nat → Int) (i : Nat) (h : i < 25) : (lanesA L)[i]? = some (.int .u64 (L i)) := by
  unfold lanesA; rw [List.getElem?_toArray, List.getElem?_map, List.getElem?_range h]; rfl
theorem lanesA_size (L : Nat → Int) : (lanesA L).size = 25 := by simp [lanesA]
theorem lanes_row (L : Nat → Int) (W : World) (T : TypeId) : Row (W.alloc (.cells (lanesA L) T)) W.heap.size 25 L := fun i hi =>
  ⟨by rw [World.cell?_alloc_new]; exact lanesA_at L i hi, World.frozen?_alloc_at _ _ _ _ rfl⟩
theorem lanesA_cells {W : World} {b : Nat} {L : Nat → Int} (h : Row W b 25 L) : ∀ j v, (lanesA L).toList[j]? = some v → W.cell? ⟨b, j, none⟩ = some v := by
  intro j v hv
  rw [Array.getElem?_toList] at hv
  rcases Nat.lt_or_ge j 25 with hj | hj
  · rw [lanesA_at L j hj] at hv; rw [(h j hj).1]; exact hv
  · rw [Array.getElem?_eq_none (by rw [lanesA_size]; exact hj)] at hv; cases hv
theorem lanesA_ext {L M : Nat → Int} (h : Same L M) : lanesA L = lanesA M := by
  unfold lanesA
  congr 1
  apply List.map_congr_left
  intro i hi
  rw [h i (by simpa using hi)]

/-- Step 1, the first k columns done, of the next one m lanes. -/
def thTo (L : Nat → Int) (k m : Nat) : Nat → Int := fun j => if j % 5 < k ∨ (j % 5 = k ∧ j / 5 < m) then thetaR L j else L j
theorem thTo_zero (L : Nat → Int) (j : Nat) : thTo L 0 0 j = L j := by
  unfold thTo; rw [if_neg (by omega)]
theorem thTo_five (L : Nat → Int) (k j : Nat) (hj : j < 25) : thTo L k 5 j = thTo L (k + 1) 0 j := by
  unfold thTo
  by_cases h : j % 5 < k + 1
  · rw [if_pos (by omega), if_pos (by omega)]
  · rw [if_neg (by omega), if_neg (by omega)]
theorem thTo_all (L : Nat → Int) (j : Nat) : thTo L 5 0 j = thetaR L j := by
  unfold thTo; rw [if_pos (by omega)]
theorem thTo_at (L : Nat → Int) (k m : Nat) (hk : k < 5) : thTo L k m (k + 5 * m) = L (k + 5 * m) := by
  unfold thTo; rw [if_neg (by omega)]
theorem thTo_step (L : Nat → Int) (k m j : Nat) (hk : k < 5) : upd (thTo L k m) (k + 5 * m) (bits BinOp.xor IntKind.u64 (bits BinOp.xor IntKind.u64 (L (k + 5 * m)) (colSum L ((k + 4) % 5))) (rotI (colSum L ((k + 1) % 5)) 1)) j = thTo L k (m + 1) j := by
  unfold upd
  by_cases e : j = k + 5 * m
  · subst e
    have h1 : (k + 5 * m) % 5 = k := by omega
    unfold thTo; rw [if_pos rfl, if_pos (by omega)]; unfold thetaR; rw [h1]
  · rw [if_neg e]
    unfold thTo
    by_cases h : j % 5 < k ∨ (j % 5 = k ∧ j / 5 < m)
    · rw [if_pos h, if_pos (by omega)]
    · rw [if_neg h, if_neg (by omega)]
/-- Step 3, the first k rows done, of the next one m lanes. -/
def chTo (N B : Nat → Int) (k m : Nat) : Nat → Int := fun j => if j / 5 < k ∨ (j / 5 = k ∧ j % 5 < m) then chiR B j else N j
theorem chTo_zero (N B : Nat → Int) (j : Nat) : chTo N B 0 0 j = N j := by
  unfold chTo; rw [if_neg (by omega)]
theorem chTo_five (N B : Nat → Int) (k j : Nat) : chTo N B k 5 j = chTo N B (k + 1) 0 j := by
  unfold chTo
  by_cases h : j / 5 < k + 1
  · rw [if_pos (by omega), if_pos (by omega)]
  · rw [if_neg (by omega), if_neg (by omega)]
theorem chTo_all (N B : Nat → Int) (j : Nat) (hj : j < 25) : chTo N B 5 0 j = chiR B j := by
  unfold chTo; rw [if_pos (by omega)]
theorem chTo_step (N B : Nat → Int) (k m j : Nat) (hm : m < 5) : upd (chTo N B k m) (m + 5 * k) (chiI (B (m + 5 * k)) (B ((m + 1) % 5 + 5 * k)) (B ((m + 2) % 5 + 5 * k))) j = chTo N B k (m + 1) j := by
  unfold upd
  by_cases e : j = m + 5 * k
  · subst e
    have h1 : (m + 5 * k) % 5 = m := by omega
    have h2 : (m + 5 * k) / 5 = k := by omega
    unfold chTo; rw [if_pos rfl, if_pos (by omega)]; unfold chiR; rw [h1, h2]
  · rw [if_neg e]
    unfold chTo
    by_cases h : j / 5 < k ∨ (j / 5 = k ∧ j % 5 < m)
    · rw [if_pos h, if_pos (by omega)]
    · rw [if_neg h, if_neg (by omega)]
theorem grown_setNew {w w1 : World} (g : w.grownBy w1 none) {p : Addr} (hp : w.heap.size ≤ p.block) (v : Value) : w.grownBy (w1.setCell p v) none :=
  ⟨g.os, g.tape, g.output, by simpa using g.size, fun k hk hr => (Below.heap_setCell _ _ _ _ (by omega)).trans (g.block k hk hr)⟩
theorem row_zero5 (W : World) (T : TypeId) : Row (W.alloc (.cells #[.int .u64 0, .int .u64 0, .int .u64 0, .int .u64 0, .int .u64 0] T)) W.heap.size 5 (fun _ => 0) := by
  intro j hj
  refine ⟨?_, World.frozen?_alloc_at _ _ _ _ rfl⟩
  rw [World.cell?_alloc_new]
  match j, hj with
  | 0, _ => rfl
  | 1, _ => rfl
  | 2, _ => rfl
  | 3, _ => rfl
  | 4, _ => rfl
def zero25 : Array Value := #[.int .u64 0, .int .u64 0, .int .u64 0, .int .u64 0, .int .u64 0, .int .u64 0, .int .u64 0, .int .u64 0, .int .u64 0, .int .u64 0, .int .u64 0, .int .u64 0, .int .u64 0, .int .u64 0, .int .u64 0, .int .u64 0, .int .u64 0, .int .u64 0, .int .u64 0, .int .u64 0, .int .u64 0, .int .u64 0, .int .u64 0, .int .u64 0, .int .u64 0]
theorem row_zero25 (W : World) (T : TypeId) : Row (W.alloc (.cells zero25 T)) W.heap.size 25 (fun _ => 0) := by
  intro i hi
  refine ⟨?_, World.frozen?_alloc_at _ _ _ _ rfl⟩
  rw [World.cell?_alloc_new]
  have h : i = 0 ∨ i = 1 ∨ i = 2 ∨ i = 3 ∨ i = 4 ∨ i = 5 ∨ i = 6 ∨ i = 7 ∨ i = 8 ∨ i = 9 ∨ i = 10 ∨ i = 11 ∨ i = 12 ∨ i = 13 ∨ i = 14 ∨ i = 15 ∨ i = 16 ∨ i = 17 ∨ i = 18 ∨ i = 19 ∨ i = 20 ∨ i = 21 ∨ i = 22 ∨ i = 23 ∨ i = 24 := by omega
  rcases h with rfl | rfl | rfl | rfl | rfl | rfl | rfl | rfl | rfl | rfl | rfl | rfl | rfl | rfl | rfl | rfl | rfl | rfl | rfl | rfl | rfl | rfl | rfl | rfl | rfl <;> rfl
theorem row_first25 (W : World) (T : TypeId) (v : Int) : Row (W.alloc (.cells #[.int .u64 v, .int .u64 0, .int .u64 0, .int .u64 0, .int .u64 0, .int .u64 0, .int .u64 0, .int .u64 0, .int .u64 0, .int .u64 0, .int .u64 0, .int .u64 0, .int .u64 0, .int .u64 0, .int .u64 0, .int .u64 0, .int .u64 0, .int .u64 0, .int .u64 0, .int .u64 0, .int .u64 0, .int .u64 0, .int .u64 0, .int .u64 0, .int .u64 0] T)) W.heap.size 25 (upd (fun _ => 0) 0 v) := by
  intro i hi
  refine ⟨?_, World.frozen?_alloc_at _ _ _ _ rfl⟩
  rw [World.cell?_alloc_new]
  have h : i = 0 ∨ i = 1 ∨ i = 2 ∨ i = 3 ∨ i = 4 ∨ i = 5 ∨ i = 6 ∨ i = 7 ∨ i = 8 ∨ i = 9 ∨ i = 10 ∨ i = 11 ∨ i = 12 ∨ i = 13 ∨ i = 14 ∨ i = 15 ∨ i = 16 ∨ i = 17 ∨ i = 18 ∨ i = 19 ∨ i = 20 ∨ i = 21 ∨ i = 22 ∨ i = 23 ∨ i = 24 := by omega
  rcases h with rfl | rfl | rfl | rfl | rfl | rfl | rfl | rfl | rfl | rfl | rfl | rfl | rfl | rfl | rfl | rfl | rfl | rfl | rfl | rfl | rfl | rfl | rfl | rfl | rfl <;> rfl
end Go.Proofs.YtkijpphmiogbbaaGreatDoor
