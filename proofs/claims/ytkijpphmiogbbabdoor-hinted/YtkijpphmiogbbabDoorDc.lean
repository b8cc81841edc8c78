import Derived.Test.YtkijpphmiogbbabDoorDb
namespace Go.Proofs.YtkijpphmiogbbabDoor
open Go.RowKit
attribute [local go_sem ↓] Go.wp_at_zero Go.wp_at_succ
attribute [local go_sem] Tryd.zv24 Tryd.zv51

/-- A boxed polynomial, two polynomials of noughts. -/
structure Thr (w w' : World) (k : IntKind) (L : Nat → Int) : Prop where
  g : w.grownBy w' none
  s : w'.heap.size = w.heap.size + 3
  r : PRow k w' w.heap.size 0 L
  z : PRow k w' (w.heap.size + 1) 0 (fun _ => 0)
  z' : PRow k w' (w.heap.size + 1 + 1) 0 (fun _ => 0)
theorem thr_mk (w : World) (T : TypeId) (k : IntKind) (L : Nat → Int) : Thr w (((w.alloc (.cells (polyA k L) T)).alloc (.cells (polyA k (fun _ => 0)) T)).alloc (.cells (polyA k (fun _ => 0)) T)) k L := by
  have n1 := new_alloc k w L T
  have n2 := new_alloc k (w.alloc (.cells (polyA k L) T)) (fun _ => 0) T
  have n3 := new_alloc k ((w.alloc (.cells (polyA k L) T)).alloc (.cells (polyA k (fun _ => 0)) T)) (fun _ => 0) T
  refine ⟨grownBy_trans n1.g (grownBy_trans n2.g n3.g), by rw [n3.s, n2.s, n1.s], (n1.r.new n2.g).new n3.g, ?_, ?_⟩
  · have := n2.r.new n3.g; rw [n1.s] at this; exact this
  · have := n3.r; rw [n2.s, n1.s] at this; exact this
theorem mod_bounds {q x : Int} (hq : 0 < q) : 0 ≤ x % q ∧ x % q < q := ⟨Int.emod_nonneg _ (by omega), Int.emod_lt_of_pos _ hq⟩
theorem dec_bounds (g a : Int) (hg : g = 95232 ∨ g = 261888) (ha : 0 ≤ a) (ha' : a < 8380417) : 0 ≤ decH g a ∧ decH g a < 8380416 / (2 * g) ∧ -g ≤ decL g a ∧ decL g a ≤ g ∧ (decH g a * (2 * g) + decL g a - a = 0 ∨ decH g a * (2 * g) + decL g a - a = -8380417) := by
  unfold decH decL cenI
  rcases hg with rfl | rfl
  · simp only [show (2 : Int) * 95232 = 190464 from rfl, show (8380416 : Int) / 190464 = 44 from rfl, show (190464 : Int) / 2 = 95232 from rfl]
    by_cases h : 95232 < a % 190464
    · rw [if_pos h]
      split <;> omega
    · rw [if_neg h]
      split <;> omega
  · simp only [show (2 : Int) * 261888 = 523776 from rfl, show (8380416 : Int) / 523776 = 16 from rfl, show (523776 : Int) / 2 = 261888 from rfl]
    by_cases h : 261888 < a % 523776
    · rw [if_pos h]
      split <;> omega
    · rw [if_neg h]
      split <;> omega
theorem cen_back (d : Int) (h0 : -261888 ≤ d) (h1 : d ≤ 261888) : cenI (d % 8380417) 8380417 = d := by
  unfold cenI
  split <;> omega
theorem set_load {W : World} {b : Nat} {g k o : Int} (h0 : W.cell? ⟨b, 0, none⟩ = some (.int .i64 g)) (h1 : W.cell? ⟨b, 1, none⟩ = some (.int .i64 k)) (h2 : W.cell? ⟨b, 2, none⟩ = some (.int .i64 o)) : W.rangeAt b 0 [.int .i64 g, .int .i64 k, .int .i64 o] := by
  intro j v hv
  match j with
  | 0 => simp at hv; subst hv; exact h0
  | 1 => simp at hv; subst hv; exact h1
  | 2 => simp at hv; subst hv; exact h2
  | n + 3 => simp at hv

set_option maxHeartbeats 1000000 in
set_option maxRecDepth 20000 in
theorem pDecompose_any (L : Nat → Int) (g kk o : Int) (w : World) (hg : g = 95232 ∨ g = 261888) (hL : ∀ i, i < 256 → 0 ≤ L i ∧ L i < 8380417) :
    Calls Tryd.prog 22 #[.agg #[.int .i64 g, .int .i64 kk, .int .i64 o], .agg (polyA .u32 L)] w fun e w' => e = .returned (.tuple #[.agg (polyA .u32 (fun i => decH g (L i))), .agg (polyA .u32 (fun i => decL g (L i) % 8380417))]) ∧ w.grownBy w' none := by
  have HC : Hid (∀ W, Calls Tryd.prog 28 #[.agg (polyA .u32 L), .func (.func 26) #[.agg #[.int .i64 g, .int .i64 kk, .int .i64 o]] #[]] W fun e w' => e = .returned (.tuple #[.agg (polyA .u32 (fun i => decH g (L i))), .agg (polyA .u32 (fun i => decL g (L i) % 8380417))]) ∧ W.grownBy w' none) := fun W =>
    parted_set L (fun i => decH g (L i)) (fun i => decL g (L i)) _ g kk o W (fun i hi => ⟨(hL i hi).1, by have := (hL i hi).2; omega⟩) (fun i hi => by have := dec_bounds g (L i) hg (hL i hi).1 (hL i hi).2; refine ⟨this.1, ?_⟩; rcases hg with rfl | rfl <;> omega) (fun i hi => by have := dec_bounds g (L i) hg (hL i hi).1 (hL i hi).2; omega) (fun _ _ => Int.add_emod_right ..)
      (fun i W' hi _ => part_any g kk o (L i) W' (hL i hi).1 (by have := (hL i hi).2; omega) (by omega) (by omega))
  clear hL hg
  have n0 := World.grownBy_alloc w (.cells #[.int .i64 g, .int .i64 kk, .int .i64 o] 43) none
  have t1 := thr_mk (w.alloc (.cells #[.int .i64 g, .int .i64 kk, .int .i64 o] 43)) 51 .u32 L
  rw [← Tryd.zQ32] at t1
  have c0 : (w.alloc (.cells #[.int .i64 g, .int .i64 kk, .int .i64 o] 43)).cell? ⟨w.heap.size, 0, none⟩ = some (.int .i64 g) := by rw [World.cell?_alloc_new]; rfl
  have c1 : (w.alloc (.cells #[.int .i64 g, .int .i64 kk, .int .i64 o] 43)).cell? ⟨w.heap.size, 1, none⟩ = some (.int .i64 kk) := by rw [World.cell?_alloc_new]; rfl
  have c2 : (w.alloc (.cells #[.int .i64 g, .int .i64 kk, .int .i64 o] 43)).cell? ⟨w.heap.size, 2, none⟩ = some (.int .i64 o) := by rw [World.cell?_alloc_new]; rfl
  replace c0 := t1.g.cell c0 (by simp)
  replace c1 := t1.g.cell c1 (by simp)
  replace c2 := t1.g.cell c2 (by simp)
  have tr := t1.r
  have tz := t1.z
  have tz' := t1.z'
  have tg := grownBy_trans n0 t1.g
  rw [World.size_alloc] at tr tz tz'
  clear t1 n0
  go_enter Tryd.func22, Tryd.ntmps22
  go_wp2_with (first | (refine wpL_load rfl .u32 51 _ rfl (w.heap.size + 1) 0 rfl L tr Tryd.oQ32 Tryd.sQ32 ?_) | (go_at_call 28; refine (HC.out _).mono ?_; rintro e w5 ⟨rfl, g5⟩) | (refine wpL_store rfl .u32 51 _ _ rfl (w.heap.size + 1 + 1) 0 rfl _ rfl .u32 _ (tz.new g5) Tryd.sQ32 ?_; intro w6 p6) | (refine wpL_store rfl .u32 51 _ _ rfl (w.heap.size + 1 + 1 + 1) 0 rfl _ rfl .u32 _ ((tz'.new g5).far p6.g (by simp)) Tryd.sQ32 ?_; intro w7 p7))
  refine bodyPost_ret (res22 rfl .u32 _ w7 (w.heap.size + 1 + 1) (w.heap.size + 1 + 1 + 1) _ _ rfl rfl (p6.r.far p7.g (by simp)) p7.r Tryd.oQ32 Tryd.sQ32) rfl ⟨rfl, grown_new (grown_new (grownBy_trans tg g5) p6.g (by omega)) p7.g (by omega)⟩
end Go.Proofs.YtkijpphmiogbbabDoor
