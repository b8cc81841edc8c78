import Derived.Test.YtkijpphmiogbbaaR8x
import Derived.Test.YtkijpphmiogbbaaT2
import Derived.Test.YtkijpphmiogbbaaT3
namespace Go.Proofs.Ytkijpphmiogbbaa
open Go.RowKit
attribute [local go_sem ↓] Go.wp_at_zero Go.wp_at_succ

section
variable {ops : Array Oper} {rest : List Oper} {o : Oper} {a : Act} {w : World} {Q : Exit → Act → World → Prop}
theorem wpL_bs2 (hgd : o.guard = none) (x y : Operand) (ho : o.op = .buildSlice 49 2 #[(0, x), (1, y)]) (L M : Nat → Int) (hx : a.eval x = .agg (polyA .i64 L)) (hy : a.eval y = .agg (polyA .i64 M))
    (h : ∀ w', w.grownBy w' none → PRow .i64 w' w.heap.size (256 * 0) L → PRow .i64 w' w.heap.size (256 * 1) M → wpList Try.prog ops Q rest (a.put o.dst (.slice (some ⟨w.heap.size, 0, none⟩) 2 2)) w') : wpList Try.prog ops Q (o :: rest) a w := by
  refine wpList_plain hgd fun _ hK => ?_
  unfold Oper.wp execOp
  have hp : (#[(0, x), (1, y)] : Array (Nat × Operand)).map (fun (i, x) => (i, a.eval x)) = #[(0, .agg (polyA .i64 L)), (1, .agg (polyA .i64 M))] := by simp [hx, hy]
  simp only [ho, hp, Sem.run_bind, bs_two, Result.andThen_ok]
  have hr := rows_two L M w 24
  exact hK _ _ (h _ (World.grownBy_alloc _ _ _) hr.1 hr.2)
end

set_option maxHeartbeats 1000000 in
set_option maxRecDepth 20000 in
theorem prod16_any (b : Nat) (F G : Nat → Int) (w : World) (hR : Rg16 w b zetS 3303) (hF0 : ∀ i, i < 256 → 0 ≤ F i ∧ F i < 3329) (hG0 : ∀ i, i < 256 → 0 ≤ G i ∧ G i < 3329) :
    Calls Try.prog 36 #[.pointer (some ⟨b, 0, none⟩), .agg (polyA .u16 F), .agg (polyA .u16 G)] w fun e w' => e = .returned (.agg (polyA .u16 (prodS F G))) ∧ w.grownBy w' none := by
  have n1 := new_alloc .u16 w F 44
  have n2 := new_alloc .u16 (w.alloc (.cells (polyA .u16 F) 44)) G 44
  have n3 := new_alloc .u16 ((w.alloc (.cells (polyA .u16 F) 44)).alloc (.cells (polyA .u16 G) 44)) (fun _ => 0) 44
  rw [← Try.zQ16] at n3
  have f3 := (n1.r.new n2.g).new n3.g
  have h3 := n2.r.new n3.g
  rw [n1.s] at h3
  have z3 := n3.r
  rw [n2.s, n1.s] at z3
  have g3 := grownBy_trans n1.g (grownBy_trans n2.g n3.g)
  have hR3 := hR.new g3
  have hl := hR3.leaf
  have HC := hid_of (fun W hW => pairByPair_any b 3303 F G W hW hF0 hG0)
  clear n1 n2 n3 hF0 hG0
  go_enter Try.func36, Try.ntmps36
  go_wp2_with (first | (refine wpL_load rfl .u16 44 _ rfl w.heap.size 0 rfl _ f3 Try.oQ16 Try.sQ16 ?_) | (refine wpL_load rfl .u16 44 _ rfl (w.heap.size + 1) 0 rfl _ h3 Try.oQ16 Try.sQ16 ?_) | (go_at_call 59; refine (HC.out _ hR3).mono ?_; rintro e w5 ⟨rfl, g5⟩) | (refine wpL_store rfl .u16 44 _ _ rfl (w.heap.size + 1 + 1) 0 rfl _ rfl .u16 _ (z3.new g5) Try.sQ16 ?_; intro w6 p6))
  refine bodyPost_ret (res1 rfl .u16 _ w6 (w.heap.size + 1 + 1) _ rfl p6.r Try.oQ16 Try.sQ16) rfl ⟨rfl, grown_new (grownBy_trans g3 g5) p6.g (by omega)⟩
def hidLd16 (p : Value) : Sem Value := Instr.loadAt 44 p
theorem ld_hide16 (p : Value) : Instr.loadAt 44 p = hidLd16 p := rfl
theorem run_hidLd16 (W : World) (b f : Nat) (L : Nat → Int) (hr : PRow .u16 W b f L) : (hidLd16 (.pointer (some ⟨b, f, none⟩))).run Try.prog W = .ok (.agg (polyA .u16 L)) W := by
  unfold hidLd16
  simp only [Instr.loadAt, Instr.sureAddr, Sem.run_bind, Sem.run_pure, Result.andThen_ok, run_loadRow .u16 W 44 b f L hr Try.oQ16 Try.sQ16]
section
attribute [local go_sem ↓] st_hide16 ld_hide16
set_option maxHeartbeats 1000000 in
set_option maxRecDepth 20000 in
theorem fn16_product (b n : Nat) (F G : Nat → Int) (w : World) (hR : Rg16 w b zetS 3303) (hF : PRow .u16 w n 0 F) (hG : PRow .u16 w n 256 G) (hF0 : ∀ i, i < 256 → 0 ≤ F i ∧ F i < 3329) (hG0 : ∀ i, i < 256 → 0 ≤ G i ∧ G i < 3329) :
    Calls Try.prog 20 #[.pointer (some ⟨b, 0, none⟩), .slice (some ⟨n, 0, none⟩) 2 2] w fun e w' => e = .returned (.agg (polyA .u16 (prodS F G))) ∧ w.grownBy w' none := by
  have n1 := new_alloc .u16 w (fun _ => 0) 44
  rw [← Try.zQ16] at n1
  go_enter Try.func20, Try.ntmps20
  go_wp2_with fail
  generalize w.alloc (.cells Try.zeroCells44 44) = w1 at *
  have g1 := n1.g
  have r1 := n1.r
  have L1 := run_hidLd16 w1.drew n 0 F (hF.new g1).drew
  have L2 := run_hidLd16 w1.drew n 256 G (hG.new g1).drew
  have HC := hid_of (prod16_any b F G w1.drew (hR.new g1).drew hF0 hG0)
  clear n1 hF hG hF0 hG0 hR
  go_region_with (first | (go_at_call 36; refine HC.out.mono ?_; rintro e w5 ⟨rfl, g5⟩; have st := run_hidSt16 w5 w.heap.size (prodS F G) _ (r1.drew.new g5)))
  all_goals (
    have p6 := put_cells .u16 w5 w.heap.size 0 (prodS F G) ((r1.drew.new g5).there .u16 _)
    have g7 := grown_new (grownBy_trans (grown_drew g1) g5) p6.g (Nat.le_refl _)
    generalize w5.setCells w.heap.size 0 (polyA .u16 (prodS F G)).toList = w7 at *
    clear st L1 L2
    go_wp2
    refine bodyPost_ret (res1 rfl .u16 _ w7 w.heap.size _ rfl p6.r Try.oQ16 Try.sQ16) rfl ⟨rfl, g7⟩)
set_option maxHeartbeats 1000000 in
set_option maxRecDepth 20000 in
theorem modC16_product (c n : Nat) (F G : Nat → Int) (w : World) (hc : w.cell? ⟨c, 0, none⟩ = some (.func (.func 20) #[] #[])) (hF : PRow .u16 w n 0 F) (hG : PRow .u16 w n 256 G) (hF0 : ∀ i, i < 256 → 0 ≤ F i ∧ F i < 3329) (hG0 : ∀ i, i < 256 → 0 ≤ G i ∧ G i < 3329) :
    Calls Try.prog 27 #[.slice (some ⟨n, 0, none⟩) 2 2, .pointer (some ⟨c, 0, none⟩)] w fun e w' => e = .returned (.agg (polyA .u16 (prodS F G))) ∧ w.grownBy w' none := by
  have n1 := new_alloc .u16 w (fun _ => 0) 44
  rw [← Try.zQ16] at n1
  have hc1 := n1.g.cell hc (by simp)
  have HF := hid_of hF0
  have HG := hid_of hG0
  go_enter Try.func27, Try.ntmps27
  go_wp2_with fail
  generalize w.alloc (.cells Try.zeroCells44 44) = w1 at *
  have g1 := n1.g
  have r1 := n1.r
  have hF1 := hF.new g1
  have hG1 := hG.new g1
  clear n1 hc hF0 hG0 hF hG
  go_region_with (first | (go_at_call 28; refine (ring16_any _).mono ?_; rintro e w5 ⟨rfl, g5, hR5⟩; have hc5 := g5.cell hc1 (by simp); have hR6 : Rg16 w5 w1.heap.size zetS 3303 := hR5; have hF5 := hF1.drew.new g5; have hG5 := hG1.drew.new g5; have z5 := r1.drew.new g5; clear hR5) | (go_at_call 20; refine (fn16_product w1.heap.size n F G w5 hR6 hF5 hG5 HF.out HG.out).mono ?_; rintro e w6 ⟨rfl, g6⟩; have st := run_hidSt16 w6 w.heap.size (prodS F G) _ (z5.new g6)))
  all_goals (
    have p6 := put_cells .u16 w6 w.heap.size 0 (prodS F G) ((z5.new g6).there .u16 _)
    have g7 := grown_new (grownBy_trans (grown_drew g1) (grownBy_trans g5 g6)) p6.g (Nat.le_refl _)
    generalize w6.setCells w.heap.size 0 (polyA .u16 (prodS F G)).toList = w7 at *
    clear st
    go_wp2
    refine bodyPost_ret (res1 rfl .u16 _ w7 w.heap.size _ rfl p6.r Try.oQ16 Try.sQ16) rfl ⟨rfl, g7⟩)
end
set_option maxHeartbeats 1000000 in
set_option maxRecDepth 20000 in
theorem modulo16_product (b : Nat) (F G : Nat → Int) (w : World) (hF : PRow .i64 w b (256 * 0) F) (hG : PRow .i64 w b (256 * 1) G) (hF0 : ∀ i, i < 256 → 0 ≤ F i ∧ F i < 3329) (hG0 : ∀ i, i < 256 → 0 ≤ G i ∧ G i < 3329) :
    Calls Try.prog 15 #[.int .i64 3329, .func (.func 20) #[] #[], .func (.func 21) #[] #[], .slice (some ⟨b, 0, none⟩) 2 2] w fun e w' => e = .returned (.tuple #[.agg (polyA .i64 (prodS F G)), .nilIface]) ∧ w.grownBy w' none := by
  have t1 := fns_boxed w (.func (.func 20) #[] #[]) (.func (.func 21) #[] #[]) 47 48 24
  rw [← Try.z24] at t1
  obtain ⟨g1, c1, c2, z1⟩ := t1
  have hF1 := hF.new g1
  have hG1 := hG.new g1
  go_enter Try.func15, Try.ntmps15
  go_wp2_with fail
  generalize ((w.alloc (.cells #[.func (.func 20) #[] #[]] 47)).alloc (.cells #[.func (.func 21) #[] #[]] 48)).alloc (.cells Try.zeroCells24 24) = w1 at *
  have HM : ∀ W c, w1.grownBy W none → (∀ s, s < 2 → PRow .u16 W c (256 * s) ((fun s => if s = 0 then F else G) s)) → Calls Try.prog 27 (#[.slice (some ⟨c, 0, none⟩) 2 2] ++ #[.pointer (some ⟨w.heap.size, 0, none⟩)]) W fun e W' => e = .returned (.agg (polyA .u16 (prodS F G))) ∧ W.grownBy W' none :=
    fun W c hg hrr => modC16_product w.heap.size c F G W (hg.cell c1 (by simp)) (hrr 0 (by omega)) (hrr 1 (by omega)) hF0 hG0
  have HR : ∀ s, s < 2 → PRow .i64 w1 b (256 * s) ((fun s => if s = 0 then F else G) s) := fun s hs => by
    rcases (show s = 0 ∨ s = 1 by omega) with rfl | rfl
    · exact hF1
    · exact hG1
  have H0 : ∀ i, i < 256 → 0 ≤ (prodS F G) i ∧ (prodS F G) i < 65536 := fun i hi => by
    have := prodS_range F G i
    exact ⟨this.1, Int.lt_trans this.2 (by decide)⟩
  have HLL : ∀ s, s < 2 → ∀ i, i < 256 → 0 ≤ (fun s => if s = 0 then F else G) s i ∧ (fun s => if s = 0 then F else G) s i < 3329 := fun s hs => by
    rcases (show s = 0 ∨ s = 1 by omega) with rfl | rfl
    · exact hF0
    · exact hG0
  refine (calc_modulo16 (fun s => if s = 0 then F else G) (prodS F G) 3329 b 2 #[.pointer (some ⟨w.heap.size, 0, none⟩)] w1 (by omega) (by omega) (by omega) HLL HR H0 HM).mono ?_
  rintro e w5 ⟨rfl, g5⟩
  go_wp2_with (first | (refine wpL_store rfl .i64 24 _ _ rfl (w.heap.size + 1 + 1) 0 rfl _ rfl .i64 _ (z1.new g5) Try.sP ?_; intro w6 p6))
  refine bodyPost_ret (res2 rfl .i64 _ w6 (w.heap.size + 1 + 1) _ _ rfl rfl p6.r ⟨_, Try.uP⟩ Try.sP) rfl ⟨rfl, grown_new (grownBy_trans g1 g5) p6.g (by omega)⟩
set_option maxHeartbeats 1000000 in
set_option maxRecDepth 20000 in
theorem call16_product (F G : Nat → Int) (w : World) (hF0 : ∀ i, i < 256 → 0 ≤ F i ∧ F i < 3329) (hG0 : ∀ i, i < 256 → 0 ≤ G i ∧ G i < 3329) :
    Calls Try.prog 10 #[.int .i64 3329, .agg (polyA .i64 F), .agg (polyA .i64 G)] w fun e w' => e = .returned (.tuple #[.agg (polyA .i64 (prodS F G)), .nilIface]) ∧ w.grownBy w' none := by
  have n1 := new_alloc .i64 w F 24
  have n2 := new_alloc .i64 (w.alloc (.cells (polyA .i64 F) 24)) G 24
  have n3 := new_alloc .i64 ((w.alloc (.cells (polyA .i64 F) 24)).alloc (.cells (polyA .i64 G) 24)) (fun _ => 0) 24
  rw [← Try.z24] at n3
  have f3 := (n1.r.new n2.g).new n3.g
  have h3 := n2.r.new n3.g
  rw [n1.s] at h3
  have z3 := n3.r
  rw [n2.s, n1.s] at z3
  have g3 := grownBy_trans n1.g (grownBy_trans n2.g n3.g)
  have s3 := n3.s
  rw [n2.s, n1.s] at s3
  clear n1 n2 n3
  go_enter Try.func10, Try.ntmps10
  go_wp2_with (first | (refine wpL_load rfl .i64 24 _ rfl w.heap.size 0 rfl _ f3 ⟨_, Try.uP⟩ Try.sP ?_) | (refine wpL_load rfl .i64 24 _ rfl (w.heap.size + 1) 0 rfl _ h3 ⟨_, Try.uP⟩ Try.sP ?_) | (refine wpL_bs2 rfl _ _ rfl F G rfl rfl ?_; intro w4 g4 a4 b4))
  rw [s3] at a4 b4
  refine (modulo16_product (w.heap.size + 1 + 1 + 1) F G w4 a4 b4 hF0 hG0).mono ?_
  rintro e w5 ⟨rfl, g5⟩
  go_wp2_with (first | (refine wpL_store rfl .i64 24 _ _ rfl (w.heap.size + 1 + 1) 0 rfl _ rfl .i64 _ ((z3.new g4).new g5) Try.sP ?_; intro w6 p6))
  refine bodyPost_ret (res2 rfl .i64 _ w6 (w.heap.size + 1 + 1) _ _ rfl rfl p6.r ⟨_, Try.uP⟩ Try.sP) rfl ⟨rfl, grown_new (grownBy_trans (grownBy_trans g3 g4) g5) p6.g (by omega)⟩

set_option maxHeartbeats 1000000 in
set_option maxRecDepth 20000 in
theorem prod32_any (b : Nat) (F G : Nat → Int) (w : World) (hR : Rg32 w b zetG 8347681) (hF0 : ∀ i, i < 256 → 0 ≤ F i ∧ F i < 8380417) (hG0 : ∀ i, i < 256 → 0 ≤ G i ∧ G i < 8380417) :
    Calls Try.prog 37 #[.pointer (some ⟨b, 0, none⟩), .agg (polyA .u32 F), .agg (polyA .u32 G)] w fun e w' => e = .returned (.agg (polyA .u32 (prodG F G))) ∧ w.grownBy w' none := by
  have n1 := new_alloc .u32 w F 55
  have n2 := new_alloc .u32 (w.alloc (.cells (polyA .u32 F) 55)) G 55
  have n3 := new_alloc .u32 ((w.alloc (.cells (polyA .u32 F) 55)).alloc (.cells (polyA .u32 G) 55)) (fun _ => 0) 55
  rw [← Try.zQ32] at n3
  have f3 := (n1.r.new n2.g).new n3.g
  have h3 := n2.r.new n3.g
  rw [n1.s] at h3
  have z3 := n3.r
  rw [n2.s, n1.s] at z3
  have g3 := grownBy_trans n1.g (grownBy_trans n2.g n3.g)
  have hR3 := hR.new g3
  have hl := hR3.leaf
  have HC := hid_of (fun W hW => place_any b zetG 8347681 F G W hW hF0 hG0)
  clear n1 n2 n3 hF0 hG0
  go_enter Try.func37, Try.ntmps37
  go_wp2_with (first | (refine wpL_load rfl .u32 55 _ rfl w.heap.size 0 rfl _ f3 Try.oQ32 Try.sQ32 ?_) | (refine wpL_load rfl .u32 55 _ rfl (w.heap.size + 1) 0 rfl _ h3 Try.oQ32 Try.sQ32 ?_) | (go_at_call 60; refine (HC.out _ hR3).mono ?_; rintro e w5 ⟨rfl, g5⟩) | (refine wpL_store rfl .u32 55 _ _ rfl (w.heap.size + 1 + 1) 0 rfl _ rfl .u32 _ (z3.new g5) Try.sQ32 ?_; intro w6 p6))
  refine bodyPost_ret (res1 rfl .u32 _ w6 (w.heap.size + 1 + 1) _ rfl p6.r Try.oQ32 Try.sQ32) rfl ⟨rfl, grown_new (grownBy_trans g3 g5) p6.g (by omega)⟩
def hidLd32 (p : Value) : Sem Value := Instr.loadAt 55 p
theorem ld_hide32 (p : Value) : Instr.loadAt 55 p = hidLd32 p := rfl
theorem run_hidLd32 (W : World) (b f : Nat) (L : Nat → Int) (hr : PRow .u32 W b f L) : (hidLd32 (.pointer (some ⟨b, f, none⟩))).run Try.prog W = .ok (.agg (polyA .u32 L)) W := by
  unfold hidLd32
  simp only [Instr.loadAt, Instr.sureAddr, Sem.run_bind, Sem.run_pure, Result.andThen_ok, run_loadRow .u32 W 55 b f L hr Try.oQ32 Try.sQ32]
section
attribute [local go_sem ↓] st_hide32 ld_hide32
set_option maxHeartbeats 1000000 in
set_option maxRecDepth 20000 in
theorem fn32_product (b n : Nat) (F G : Nat → Int) (w : World) (hR : Rg32 w b zetG 8347681) (hF : PRow .u32 w n 0 F) (hG : PRow .u32 w n 256 G) (hF0 : ∀ i, i < 256 → 0 ≤ F i ∧ F i < 8380417) (hG0 : ∀ i, i < 256 → 0 ≤ G i ∧ G i < 8380417) :
    Calls Try.prog 21 #[.pointer (some ⟨b, 0, none⟩), .slice (some ⟨n, 0, none⟩) 2 2] w fun e w' => e = .returned (.agg (polyA .u32 (prodG F G))) ∧ w.grownBy w' none := by
  have n1 := new_alloc .u32 w (fun _ => 0) 55
  rw [← Try.zQ32] at n1
  go_enter Try.func21, Try.ntmps21
  go_wp2_with fail
  generalize w.alloc (.cells Try.zeroCells55 55) = w1 at *
  have g1 := n1.g
  have r1 := n1.r
  have L1 := run_hidLd32 w1.drew n 0 F (hF.new g1).drew
  have L2 := run_hidLd32 w1.drew n 256 G (hG.new g1).drew
  have HC := hid_of (prod32_any b F G w1.drew (hR.new g1).drew hF0 hG0)
  clear n1 hF hG hF0 hG0 hR
  go_region_with (first | (go_at_call 37; refine HC.out.mono ?_; rintro e w5 ⟨rfl, g5⟩; have st := run_hidSt32 w5 w.heap.size (prodG F G) _ (r1.drew.new g5)))
  all_goals (
    have p6 := put_cells .u32 w5 w.heap.size 0 (prodG F G) ((r1.drew.new g5).there .u32 _)
    have g7 := grown_new (grownBy_trans (grown_drew g1) g5) p6.g (Nat.le_refl _)
    generalize w5.setCells w.heap.size 0 (polyA .u32 (prodG F G)).toList = w7 at *
    clear st L1 L2
    go_wp2
    refine bodyPost_ret (res1 rfl .u32 _ w7 w.heap.size _ rfl p6.r Try.oQ32 Try.sQ32) rfl ⟨rfl, g7⟩)
set_option maxHeartbeats 1000000 in
set_option maxRecDepth 20000 in
theorem modC32_product (c n : Nat) (F G : Nat → Int) (w : World) (hc : w.cell? ⟨c, 0, none⟩ = some (.func (.func 21) #[] #[])) (hF : PRow .u32 w n 0 F) (hG : PRow .u32 w n 256 G) (hF0 : ∀ i, i < 256 → 0 ≤ F i ∧ F i < 8380417) (hG0 : ∀ i, i < 256 → 0 ≤ G i ∧ G i < 8380417) :
    Calls Try.prog 30 #[.slice (some ⟨n, 0, none⟩) 2 2, .pointer (some ⟨c, 0, none⟩)] w fun e w' => e = .returned (.agg (polyA .u32 (prodG F G))) ∧ w.grownBy w' none := by
  have n1 := new_alloc .u32 w (fun _ => 0) 55
  rw [← Try.zQ32] at n1
  have hc1 := n1.g.cell hc (by simp)
  have HF := hid_of hF0
  have HG := hid_of hG0
  go_enter Try.func30, Try.ntmps30
  go_wp2_with fail
  generalize w.alloc (.cells Try.zeroCells55 55) = w1 at *
  have g1 := n1.g
  have r1 := n1.r
  have hF1 := hF.new g1
  have hG1 := hG.new g1
  clear n1 hc hF0 hG0 hF hG
  go_region_with (first | (go_at_call 31; refine (ring32_any _).mono ?_; rintro e w5 ⟨rfl, g5, hR5⟩; have hc5 := g5.cell hc1 (by simp); have hR6 : Rg32 w5 w1.heap.size zetG 8347681 := hR5; have hF5 := hF1.drew.new g5; have hG5 := hG1.drew.new g5; have z5 := r1.drew.new g5; clear hR5) | (go_at_call 21; refine (fn32_product w1.heap.size n F G w5 hR6 hF5 hG5 HF.out HG.out).mono ?_; rintro e w6 ⟨rfl, g6⟩; have st := run_hidSt32 w6 w.heap.size (prodG F G) _ (z5.new g6)))
  all_goals (
    have p6 := put_cells .u32 w6 w.heap.size 0 (prodG F G) ((z5.new g6).there .u32 _)
    have g7 := grown_new (grownBy_trans (grown_drew g1) (grownBy_trans g5 g6)) p6.g (Nat.le_refl _)
    generalize w6.setCells w.heap.size 0 (polyA .u32 (prodG F G)).toList = w7 at *
    clear st
    go_wp2
    refine bodyPost_ret (res1 rfl .u32 _ w7 w.heap.size _ rfl p6.r Try.oQ32 Try.sQ32) rfl ⟨rfl, g7⟩)
end
set_option maxHeartbeats 1000000 in
set_option maxRecDepth 20000 in
theorem modulo32_product (b : Nat) (F G : Nat → Int) (w : World) (hF : PRow .i64 w b (256 * 0) F) (hG : PRow .i64 w b (256 * 1) G) (hF0 : ∀ i, i < 256 → 0 ≤ F i ∧ F i < 8380417) (hG0 : ∀ i, i < 256 → 0 ≤ G i ∧ G i < 8380417) :
    Calls Try.prog 15 #[.int .i64 8380417, .func (.func 20) #[] #[], .func (.func 21) #[] #[], .slice (some ⟨b, 0, none⟩) 2 2] w fun e w' => e = .returned (.tuple #[.agg (polyA .i64 (prodG F G)), .nilIface]) ∧ w.grownBy w' none := by
  have t1 := fns_boxed w (.func (.func 20) #[] #[]) (.func (.func 21) #[] #[]) 47 48 24
  rw [← Try.z24] at t1
  obtain ⟨g1, c1, c2, z1⟩ := t1
  have hF1 := hF.new g1
  have hG1 := hG.new g1
  go_enter Try.func15, Try.ntmps15
  go_wp2_with fail
  generalize ((w.alloc (.cells #[.func (.func 20) #[] #[]] 47)).alloc (.cells #[.func (.func 21) #[] #[]] 48)).alloc (.cells Try.zeroCells24 24) = w1 at *
  have HM : ∀ W c, w1.grownBy W none → (∀ s, s < 2 → PRow .u32 W c (256 * s) ((fun s => if s = 0 then F else G) s)) → Calls Try.prog 30 (#[.slice (some ⟨c, 0, none⟩) 2 2] ++ #[.pointer (some ⟨(w.heap.size + 1), 0, none⟩)]) W fun e W' => e = .returned (.agg (polyA .u32 (prodG F G))) ∧ W.grownBy W' none :=
    fun W c hg hrr => modC32_product (w.heap.size + 1) c F G W (hg.cell c2 (by simp)) (hrr 0 (by omega)) (hrr 1 (by omega)) hF0 hG0
  have HR : ∀ s, s < 2 → PRow .i64 w1 b (256 * s) ((fun s => if s = 0 then F else G) s) := fun s hs => by
    rcases (show s = 0 ∨ s = 1 by omega) with rfl | rfl
    · exact hF1
    · exact hG1
  have H0 : ∀ i, i < 256 → 0 ≤ (prodG F G) i ∧ (prodG F G) i < 4294967296 := fun i hi => by
    have := (⟨Int.emod_nonneg (F i * G i) (by omega), Int.emod_lt_of_pos (F i * G i) (by omega)⟩ : 0 ≤ prodG F G i ∧ prodG F G i < 8380417)
    exact ⟨this.1, Int.lt_trans this.2 (by decide)⟩
  have HLL : ∀ s, s < 2 → ∀ i, i < 256 → 0 ≤ (fun s => if s = 0 then F else G) s i ∧ (fun s => if s = 0 then F else G) s i < 8380417 := fun s hs => by
    rcases (show s = 0 ∨ s = 1 by omega) with rfl | rfl
    · exact hF0
    · exact hG0
  refine (calc_modulo32 (fun s => if s = 0 then F else G) (prodG F G) 8380417 b 2 #[.pointer (some ⟨(w.heap.size + 1), 0, none⟩)] w1 (by omega) (by omega) (by omega) HLL HR H0 HM).mono ?_
  rintro e w5 ⟨rfl, g5⟩
  go_wp2_with (first | (refine wpL_store rfl .i64 24 _ _ rfl (w.heap.size + 1 + 1) 0 rfl _ rfl .i64 _ (z1.new g5) Try.sP ?_; intro w6 p6))
  refine bodyPost_ret (res2 rfl .i64 _ w6 (w.heap.size + 1 + 1) _ _ rfl rfl p6.r ⟨_, Try.uP⟩ Try.sP) rfl ⟨rfl, grown_new (grownBy_trans g1 g5) p6.g (by omega)⟩
set_option maxHeartbeats 1000000 in
set_option maxRecDepth 20000 in
theorem call32_product (F G : Nat → Int) (w : World) (hF0 : ∀ i, i < 256 → 0 ≤ F i ∧ F i < 8380417) (hG0 : ∀ i, i < 256 → 0 ≤ G i ∧ G i < 8380417) :
    Calls Try.prog 10 #[.int .i64 8380417, .agg (polyA .i64 F), .agg (polyA .i64 G)] w fun e w' => e = .returned (.tuple #[.agg (polyA .i64 (prodG F G)), .nilIface]) ∧ w.grownBy w' none := by
  have n1 := new_alloc .i64 w F 24
  have n2 := new_alloc .i64 (w.alloc (.cells (polyA .i64 F) 24)) G 24
  have n3 := new_alloc .i64 ((w.alloc (.cells (polyA .i64 F) 24)).alloc (.cells (polyA .i64 G) 24)) (fun _ => 0) 24
  rw [← Try.z24] at n3
  have f3 := (n1.r.new n2.g).new n3.g
  have h3 := n2.r.new n3.g
  rw [n1.s] at h3
  have z3 := n3.r
  rw [n2.s, n1.s] at z3
  have g3 := grownBy_trans n1.g (grownBy_trans n2.g n3.g)
  have s3 := n3.s
  rw [n2.s, n1.s] at s3
  clear n1 n2 n3
  go_enter Try.func10, Try.ntmps10
  go_wp2_with (first | (refine wpL_load rfl .i64 24 _ rfl w.heap.size 0 rfl _ f3 ⟨_, Try.uP⟩ Try.sP ?_) | (refine wpL_load rfl .i64 24 _ rfl (w.heap.size + 1) 0 rfl _ h3 ⟨_, Try.uP⟩ Try.sP ?_) | (refine wpL_bs2 rfl _ _ rfl F G rfl rfl ?_; intro w4 g4 a4 b4))
  rw [s3] at a4 b4
  refine (modulo32_product (w.heap.size + 1 + 1 + 1) F G w4 a4 b4 hF0 hG0).mono ?_
  rintro e w5 ⟨rfl, g5⟩
  go_wp2_with (first | (refine wpL_store rfl .i64 24 _ _ rfl (w.heap.size + 1 + 1) 0 rfl _ rfl .i64 _ ((z3.new g4).new g5) Try.sP ?_; intro w6 p6))
  refine bodyPost_ret (res2 rfl .i64 _ w6 (w.heap.size + 1 + 1) _ _ rfl rfl p6.r ⟨_, Try.uP⟩ Try.sP) rfl ⟨rfl, grown_new (grownBy_trans (grownBy_trans g3 g4) g5) p6.g (by omega)⟩
end Go.Proofs.Ytkijpphmiogbbaa
