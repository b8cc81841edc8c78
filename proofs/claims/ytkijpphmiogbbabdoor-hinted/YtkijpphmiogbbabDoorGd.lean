import Derived.Test.YtkijpphmiogbbabDoorGc
import Derived.Test.YtkijpphmiogbbabDoorLk
import Derived.Test.YtkijpphmiogbbabDoorLd
namespace Go.Proofs.YtkijpphmiogbbabDoor
open Go.RowKit
attribute [local go_sem ↓] Go.wp_at_zero Go.wp_at_succ
attribute [local go_sem] Tryd.zv24 Tryd.zv51

section
attribute [local go_sem ↓] d32Ld_hide d32St_hide
set_option maxHeartbeats 2000000 in
set_option maxRecDepth 20000 in
theorem useC_any (Hh R : Nat → Int) (g kk o : Int) (b c d : Nat) (w : World) (hg0 : g = 95232 ∨ g = 261888) (hH : ∀ i, i < 256 → 0 ≤ Hh i ∧ Hh i < 4294967296) (hR : ∀ i, i < 256 → 0 ≤ R i ∧ R i < 8380417)
    (hS : SetAt w b g kk o) (hh : PRow .u32 w c 0 Hh) (hr : PRow .u32 w d 0 R) :
    Calls Tryd.prog 19 #[.slice (some ⟨d, 0, none⟩) 1 1, .pointer (some ⟨b, 0, none⟩), .pointer (some ⟨c, 0, none⟩)] w fun e w' => e = .returned (.agg (polyA .u32 (fun i => useI g (Hh i) (R i)))) ∧ w.grownBy w' none := by
  have HU : Hid (∀ W, Calls Tryd.prog 20 #[.agg #[.int .i64 g, .int .i64 kk, .int .i64 o], .agg (polyA .u32 Hh), .agg (polyA .u32 R)] W fun e w' => e = .returned (.agg (polyA .u32 (fun i => useI g (Hh i) (R i)))) ∧ W.grownBy w' none) := fun W => sUse_any Hh R g kk o W hg0 hH hR
  clear hg0 hH hR
  have n1 := new_alloc .u32 w (fun _ => 0) 51
  rw [← Tryd.zQ32] at n1
  go_enter Tryd.func19, Tryd.ntmps19
  go_wp2_with fail
  generalize w.alloc (.cells Tryd.zeroCells51 51) = w1 at *
  have hS1 := hS.new n1.g
  have c0 : w1.drew.cell? ⟨b, 0, none⟩ = some (.int .i64 g) := hS1.g
  have c1 : w1.drew.cell? ⟨b, 1, none⟩ = some (.int .i64 kk) := hS1.k
  have c2 : w1.drew.cell? ⟨b, 2, none⟩ = some (.int .i64 o) := hS1.o
  have ld1 := run_d32Ld w1.drew c Hh (hh.new n1.g).drew
  have ld2 := run_d32Ld w1.drew d R (hr.new n1.g).drew
  have z1 := n1.r.drew
  have g1 := grown_drew n1.g
  clear n1 hS1 hS hh hr
  go_region_with (first | (go_at_call 20; refine (HU.out _).mono ?_; rintro e w5 ⟨rfl, g5⟩; have st1 := run_d32St w5 w.heap.size (fun i => useI g (Hh i) (R i)) _ (z1.new g5)))
  all_goals (
    have p6 := put_cells .u32 w5 w.heap.size 0 (fun i => useI g (Hh i) (R i)) ((z1.new g5).there .u32 _)
    clear st1 ld1 ld2
    generalize w5.setCells w.heap.size 0 (polyA .u32 (fun i => useI g (Hh i) (R i))).toList = w6 at *
    go_wp2
    refine bodyPost_ret (res1 rfl .u32 _ w6 w.heap.size _ rfl p6.r Tryd.oQ32 Tryd.sQ32) rfl ⟨rfl, grown_new (grownBy_trans g1 g5) p6.g (by omega)⟩)
end
theorem one_row {k : IntKind} {W : World} {p : Nat} {R : Nat → Int} (h : PRow k W p 0 R) : ∀ s, s < 1 → PRow k W p (256 * s) R := fun s hs => by
  obtain rfl : s = 0 := by omega
  exact h
/-- Two boxed polynomials, a polynomial of noughts. -/
structure Bbz (w w' : World) (L M : Nat → Int) : Prop where
  g : w.grownBy w' none
  r : PRow .i64 w' w.heap.size 0 L
  r' : PRow .i64 w' (w.heap.size + 1) 0 M
  z : PRow .i64 w' (w.heap.size + 1 + 1) 0 (fun _ => 0)
theorem bbz_mk (w : World) (T : TypeId) (L M : Nat → Int) : Bbz w (((w.alloc (.cells (polyA .i64 L) T)).alloc (.cells (polyA .i64 M) T)).alloc (.cells (polyA .i64 (fun _ => 0)) T)) L M := by
  have n1 := new_alloc .i64 w L T
  have n2 := new_alloc .i64 (w.alloc (.cells (polyA .i64 L) T)) M T
  have n3 := new_alloc .i64 ((w.alloc (.cells (polyA .i64 L) T)).alloc (.cells (polyA .i64 M) T)) (fun _ => 0) T
  refine ⟨grownBy_trans n1.g (grownBy_trans n2.g n3.g), (n1.r.new n2.g).new n3.g, ?_, ?_⟩
  · have := n2.r.new n3.g; rw [n1.s] at this; exact this
  · have := n3.r; rw [n2.s, n1.s] at this; exact this
set_option maxHeartbeats 2000000 in
set_option maxRecDepth 20000 in
theorem UseHint_any (Hh R : Nat → Int) (n g kk o : Int) (w : World) (hs : IsSet n g kk o) (hH : ∀ i, i < 256 → 0 ≤ Hh i ∧ Hh i < 2) (hR : ∀ i, i < 256 → 0 ≤ R i ∧ R i < 8380417) :
    Calls Tryd.prog 8 #[.int .i64 n, .agg (polyA .i64 Hh), .agg (polyA .i64 R)] w fun e w' => e = .returned (.tuple #[.agg (polyA .i64 (fun i => useI g (Hh i) (R i))), .nilIface]) ∧ w.grownBy w' none := by
  have HN : Hid (∀ W, Calls Tryd.prog 13 #[.int .i64 n] W fun e w' => e = .returned (.tuple #[.agg #[.int .i64 g, .int .i64 kk, .int .i64 o], .nilIface]) ∧ W.grownBy w' none) := fun W => New_any n g kk o W hs
  have HW : Hid (∀ W, Calls Tryd.prog 17 #[.agg (polyA .i64 Hh), .int .i64 2] W fun e w' => e = .returned (.tuple #[.agg (polyA .u32 Hh), .nilIface]) ∧ W.grownBy w' none) := fun W => narrow32_ok Hh 2 W hH (by omega)
  have HC : Hid (∀ W b c, SetAt W b g kk o → PRow .u32 W c 0 Hh → ∀ p, PRow .i64 W p 0 R → Calls Tryd.prog 18 #[.int .i64 8380417, .func (.func 19) #[] #[.pointer (some ⟨b, 0, none⟩), .pointer (some ⟨c, 0, none⟩)], .slice (some ⟨p, 0, none⟩) 1 1] W fun e w' => e = .returned (.tuple #[.agg (polyA .i64 (fun i => useI g (Hh i) (R i))), .nilIface]) ∧ W.grownBy w' none) := fun W b c h1 h2 p h3 =>
    calc_use (fun _ => R) _ 8380417 p 1 _ W (by omega) (by omega) (by omega) (fun s _ i hi => hR i hi) (one_row h3) (fun i hi => by have := use_bounds g (Hh i) (R i) hs.gam (hR i hi).1 (hR i hi).2; omega)
      (fun W' d hg hr => useC_any Hh R g kk o b c d W' hs.gam (fun i hi => by have := hH i hi; omega) hR (h1.new hg) (h2.new hg) (hr 0 (by omega)))
  clear hs hH hR
  have t1 := bbz_mk w 24 Hh R
  rw [← Tryd.z24] at t1
  go_enter Tryd.func8, Tryd.ntmps8
  go_wp2_with fail
  refine (HN.out _).mono ?_
  rintro e w2 ⟨rfl, g2⟩
  have g3 := World.grownBy_alloc w2 (.cells #[.int .i64 g, .int .i64 kk, .int .i64 o] 43) none
  have S3 := setAt_new w2 g kk o 43
  have h3 := (t1.r.new g2).new g3
  have r3 := (t1.r'.new g2).new g3
  have z3 := (t1.z.new g2).new g3
  have q3 := grownBy_trans (grownBy_trans t1.g g2) g3
  have l2 := (grownBy_trans t1.g g2).size
  have lz := (t1.z.new g2).lt
  clear t1 g2 g3
  go_wp2_with (first | (refine wpL_load rfl .i64 24 _ rfl w.heap.size 0 rfl Hh h3 ⟨_, Tryd.uP⟩ Tryd.sP ?_))
  refine (HW.out _).mono ?_
  rintro e w4 ⟨rfl, g4⟩
  have S4 := S3.new g4
  have r4 := r3.new g4
  have z4 := z3.new g4
  have q4 := grownBy_trans q3 g4
  have l4 := g4.size
  rw [World.size_alloc] at l4
  clear S3 h3 r3 z3 q3 g4
  have n5 := new_alloc .u32 w4 (fun _ => 0) 51
  rw [← Tryd.zQ32] at n5
  go_wp2_with (first | (refine wpL_store rfl .u32 51 _ _ rfl w4.heap.size 0 rfl _ rfl .u32 _ n5.r Tryd.sQ32 ?_; intro w6 p6; have r6 := (r4.new n5.g).far p6.g (by simp; omega)) | (refine wpL_load rfl .i64 24 _ rfl (w.heap.size + 1) 0 rfl R r6 ⟨_, Tryd.uP⟩ Tryd.sP ?_) | (refine wpL_bs1 rfl _ rfl R rfl ?_; intro w7 n7))
  have S7 := ((S4.new n5.g).far p6.g (by simp; omega)).new n7.g
  have z7 := ((z4.new n5.g).far p6.g (by simp; omega)).new n7.g
  have h7 := p6.r.new n7.g
  have q7 := grownBy_trans (grown_new (grownBy_trans q4 n5.g) p6.g (by omega)) n7.g
  have r7 := n7.r
  have l6 := p6.s
  refine (HC.out w7 w2.heap.size w4.heap.size S7 h7 w6.heap.size r7).mono ?_
  rintro e w8 ⟨rfl, g8⟩
  clear S4 r4 z4 q4 n5 p6 n7 r6
  go_wp2_with (first | (refine wpL_store rfl .i64 24 _ _ rfl (w.heap.size + 1 + 1) 0 rfl _ rfl .i64 _ (z7.new g8) Tryd.sP ?_; intro w9 p9))
  refine bodyPost_ret (res2 rfl .i64 _ w9 (w.heap.size + 1 + 1) _ _ rfl rfl p9.r ⟨_, Tryd.uP⟩ Tryd.sP) rfl ⟨rfl, grown_new (grownBy_trans q7 g8) p9.g (by omega)⟩
end Go.Proofs.YtkijpphmiogbbabDoor
