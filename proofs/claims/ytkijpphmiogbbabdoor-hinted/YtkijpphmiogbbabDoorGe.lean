import Derived.Test.YtkijpphmiogbbabDoorGd
namespace Go.Proofs.YtkijpphmiogbbabDoor
open Go.RowKit
attribute [local go_sem ↓] Go.wp_at_zero Go.wp_at_succ
attribute [local go_sem] Tryd.zv24 Tryd.zv51

theorem run_d32LdF (W : World) (b f : Nat) (L : Nat → Int) (hr : PRow .u32 W b f L) : (d32Ld (.pointer (some ⟨b, f, none⟩))).run Tryd.prog W = .ok (.agg (polyA .u32 L)) W := by
  unfold d32Ld
  simp only [Instr.loadAt, Instr.sureAddr, Sem.run_bind, Sem.run_pure, Result.andThen_ok, run_loadRow .u32 W 51 b f L hr Tryd.oQ32 Tryd.sQ32]
section
variable {ops : Array Oper} {rest : List Oper} {o : Oper} {a : Act} {w : World} {Q : Exit → Act → World → Prop}
theorem wpL_bs2h (hgd : o.guard = none) (x y : Operand) (ho : o.op = .buildSlice 36 2 #[(0, x), (1, y)]) (L M : Nat → Int) (hx : a.eval x = .agg (polyA .i64 L)) (hy : a.eval y = .agg (polyA .i64 M))
    (h : ∀ w', w.grownBy w' none → PRow .i64 w' w.heap.size (256 * 0) L → PRow .i64 w' w.heap.size (256 * 1) M → wpList Tryd.prog ops Q rest (a.put o.dst (.slice (some ⟨w.heap.size, 0, none⟩) 2 2)) w') : wpList Tryd.prog ops Q (o :: rest) a w := by
  refine wpList_plain hgd fun _ hK => ?_
  unfold Oper.wp execOp
  have hp : (#[(0, x), (1, y)] : Array (Nat × Operand)).map (fun (i, x) => (i, a.eval x)) = #[(0, .agg (polyA .i64 L)), (1, .agg (polyA .i64 M))] := by simp [hx, hy]
  simp only [ho, hp, Sem.run_bind, bs_two, Result.andThen_ok]
  have hr := rows_two L M w 24
  exact hK _ _ (h _ (World.grownBy_alloc _ _ _) hr.1 hr.2)
end
theorem res_p2 {P : Program} {fn : Func} {p s t : Tmp} {ty : TypeId} (h : fn.results = #[.cell p ty, .tmp s, .tmp t]) (k : IntKind) (tmps : Array Value) (w : World) (g : Nat) (L : Nat → Int) (u v : Value)
    (hp : tmps.getD p undef = .pointer (some ⟨g, 0, none⟩)) (hs : tmps.getD s undef = u) (ht : tmps.getD t undef = v) (hr : PRow k w g 0 L)
    (hu : ∃ e, P.underlying ty = some (.array 256 e)) (hi : (P.info? ty).map (·.size) = some 256) :
    (results fn tmps).run P w = .ok (.tuple #[.agg (polyA k L), u, v]) w := by
  have hp' : tmps[p]?.getD undef = .pointer (some ⟨g, 0, none⟩) := by simpa using hp
  have hs' : tmps[s]?.getD undef = u := by simpa using hs
  have ht' : tmps[t]?.getD undef = v := by simpa using ht
  simp [results, h, hp', hs', ht', asAddr, run_loadRow k w ty g 0 L hr hu hi]
theorem hint_01 (g z r : Int) : 0 ≤ hintI g z r ∧ hintI g z r < 2 := by unfold hintI; split <;> omega
theorem two_bounds {L M : Nat → Int} {q : Int} (h : ∀ i, i < 256 → 0 ≤ L i ∧ L i < q) (h' : ∀ i, i < 256 → 0 ≤ M i ∧ M i < q) : ∀ s, s < 2 → ∀ i, i < 256 → 0 ≤ (fun s => if s = 0 then L else M) s i ∧ (fun s => if s = 0 then L else M) s i < q := fun s hs => by
  match s, hs with
  | 0, _ => exact h
  | 1, _ => exact h'
theorem two_rows {k : IntKind} {W : World} {p : Nat} {L M : Nat → Int} (h : PRow k W p (256 * 0) L) (h' : PRow k W p (256 * 1) M) : ∀ s, s < 2 → PRow k W p (256 * s) ((fun s => if s = 0 then L else M) s) := fun s hs => by
  match s, hs with
  | 0, _ => exact h
  | 1, _ => exact h'
section
attribute [local go_sem ↓] d32Ld_hide d32St_hide
set_option maxHeartbeats 16000000 in
set_option maxRecDepth 20000 in
theorem Hint_any (Z R : Nat → Int) (n g kk o : Int) (w : World) (hs : IsSet n g kk o) (hZ : ∀ i, i < 256 → 0 ≤ Z i ∧ Z i < 8380417) (hR : ∀ i, i < 256 → 0 ≤ R i ∧ R i < 8380417) :
    Calls Tryd.prog 7 #[.int .i64 n, .agg (polyA .i64 Z), .agg (polyA .i64 R)] w fun e w' => e = .returned (.tuple #[.agg (polyA .i64 (fun i => hintI g (Z i) (R i))), .int .i64 (cnt (fun i => hintI g (Z i) (R i)) 256 : Nat), .nilIface]) ∧ w.grownBy w' none := by
  have HN : Hid (∀ W, Calls Tryd.prog 13 #[.int .i64 n] W fun e w' => e = .returned (.tuple #[.agg #[.int .i64 g, .int .i64 kk, .int .i64 o], .nilIface]) ∧ W.grownBy w' none) := fun W => New_any n g kk o W hs
  have HW : Hid (∀ W b, PRow .i64 W b (256 * 0) Z → PRow .i64 W b (256 * 1) R → Calls Tryd.prog 14 #[.int .i64 8380417, .slice (some ⟨b, 0, none⟩) 2 2] W fun e w' => e = .returned (.tuple #[.slice (some ⟨W.heap.size, 0, none⟩) 2 2, .nilIface]) ∧ W.grownBy w' none ∧ PRow .u32 w' W.heap.size 0 Z ∧ PRow .u32 w' W.heap.size 256 R) := fun W b h1 h2 =>
    (narrowed32_ok (fun s => if s = 0 then Z else R) 8380417 b 2 2 W (by omega) (by omega) (two_bounds hZ hR) (two_rows h1 h2)).mono (by
      rintro e w' ⟨rfl, h3, h4⟩
      exact ⟨rfl, h3, h4 0 (by omega), h4 1 (by omega)⟩)
  have HH : Hid (∀ W, Calls Tryd.prog 15 #[.agg #[.int .i64 g, .int .i64 kk, .int .i64 o], .agg (polyA .u32 Z), .agg (polyA .u32 R)] W fun e w' => e = .returned (.tuple #[.agg (polyA .u32 (fun i => hintI g (Z i) (R i))), .int .i64 (cnt (fun i => hintI g (Z i) (R i)) 256 : Nat)]) ∧ W.grownBy w' none) := fun W => sHint_any Z R g kk o W hs.gam hZ hR
  have HV : Hid (∀ W, Calls Tryd.prog 16 #[.agg (polyA .u32 (fun i => hintI g (Z i) (R i)))] W fun e w' => e = .returned (.agg (polyA .i64 (fun i => hintI g (Z i) (R i)))) ∧ W.grownBy w' none) := fun W => wide32_any _ W (fun i _ => by have := hint_01 g (Z i) (R i); omega)
  clear hs hZ hR
  generalize cnt (fun i => hintI g (Z i) (R i)) 256 = cn at *
  generalize (fun i => hintI g (Z i) (R i)) = Hf at *
  have t1 := bbz_mk w 24 Z R
  rw [← Tryd.z24] at t1
  go_enter Tryd.func7, Tryd.ntmps7
  go_wp2_with fail
  refine (HN.out _).mono ?_
  rintro e w2 ⟨rfl, g2⟩
  have g3 := World.grownBy_alloc w2 (.cells #[.int .i64 g, .int .i64 kk, .int .i64 o] 43) none
  have S3 := setAt_new w2 g kk o 43
  have h3 := (t1.r.new g2).new g3
  have r3 := (t1.r'.new g2).new g3
  have z3 := (t1.z.new g2).new g3
  have q3 := grownBy_trans (grownBy_trans t1.g g2) g3
  clear t1 g2 g3
  go_wp2_with (first | (refine wpL_load rfl .i64 24 _ rfl w.heap.size 0 rfl Z h3 ⟨_, Tryd.uP⟩ Tryd.sP ?_) | (refine wpL_load rfl .i64 24 _ rfl (w.heap.size + 1) 0 rfl R r3 ⟨_, Tryd.uP⟩ Tryd.sP ?_) | (refine wpL_bs2h rfl _ _ rfl Z R rfl rfl ?_; intro w4 g4 a4 b4))
  rw [World.size_alloc] at a4 b4
  refine (HW.out w4 (w2.heap.size + 1) a4 b4).mono ?_
  rintro e w5 ⟨rfl, g5, a5, b5⟩
  have S5 := (S3.new g4).new g5
  have z5 := (z3.new g4).new g5
  have q5 := grownBy_trans q3 (grownBy_trans g4 g5)
  clear S3 h3 r3 z3 q3 g4 a4 b4 g5
  obtain ⟨N, hN⟩ : ∃ N, N = w4.heap.size := ⟨_, rfl⟩
  rw [← hN] at a5 b5 ⊢
  clear hN
  have n6 := new_alloc .u32 w5 (fun _ => 0) 51
  rw [← Tryd.zQ32] at n6
  have c0 : w5.drew.cell? ⟨w2.heap.size, 0, none⟩ = some (.int .i64 g) := S5.g
  have c1 : w5.drew.cell? ⟨w2.heap.size, 1, none⟩ = some (.int .i64 kk) := S5.k
  have c2 : w5.drew.cell? ⟨w2.heap.size, 2, none⟩ = some (.int .i64 o) := S5.o
  have S6 := S5.new n6.g
  have d0 : (w5.alloc (.cells Tryd.zeroCells51 51)).drew.cell? ⟨w2.heap.size, 0, none⟩ = some (.int .i64 g) := S6.g
  have d1 : (w5.alloc (.cells Tryd.zeroCells51 51)).drew.cell? ⟨w2.heap.size, 1, none⟩ = some (.int .i64 kk) := S6.k
  have d2 : (w5.alloc (.cells Tryd.zeroCells51 51)).drew.cell? ⟨w2.heap.size, 2, none⟩ = some (.int .i64 o) := S6.o
  have ldA := run_d32LdF w5.drew N 0 Z a5.drew
  have ldB := run_d32LdF w5.drew N 256 R b5.drew
  have ldC := run_d32LdF (w5.alloc (.cells Tryd.zeroCells51 51)).drew N 0 Z (a5.new n6.g).drew
  have ldD := run_d32LdF (w5.alloc (.cells Tryd.zeroCells51 51)).drew N 256 R (b5.new n6.g).drew
  have ix0 : ∀ W, (Instr.indexAt 46 (.slice (some ⟨N, 0, none⟩) 2 2) (.int .i64 0)).run Tryd.prog W = .ok (.pointer (some ⟨N, 0, none⟩)) W := fun W => ixPolys32 N 2 0 (by omega) W
  have ix1 : ∀ W, (Instr.indexAt 46 (.slice (some ⟨N, 0, none⟩) 2 2) (.int .i64 1)).run Tryd.prog W = .ok (.pointer (some ⟨N, 256, none⟩)) W := fun W => ixPolys32 N 2 1 (by omega) W
  have r6 := n6.r.drew
  have HK : Hid (PRow .i64 w5 (w.heap.size + 1 + 1) 0 (fun _ => 0) ∧ w.grownBy w5 none) := ⟨z5, q5⟩
  clear S5 S6 z5 q5 a5 b5
  go_wp2_with fail
  go_region_with (first | (go_at_call 15; refine (HH.out _).mono ?_; rintro e w7 ⟨rfl, g7⟩; have n7 := new_alloc .u32 w7 (fun _ => 0) 51; rw [← Tryd.zQ32] at n7; have stA := run_d32St (w7.alloc (.cells Tryd.zeroCells51 51)) w7.heap.size Hf _ n7.r; try (have g7b : (w5.alloc (.cells Tryd.zeroCells51 51)).drew.grownBy w7 none := (by with_reducible assumption); have stB := run_d32St w7 w5.heap.size Hf _ (r6.new g7b))))
  all_goals first
    | ( have e6 := stB
        have z5 := HK.out.1
        have q5 := HK.out.2
        have l5 := q5.size
        have lz := z5.lt
        have p8 := put_cells .u32 w7 w5.heap.size 0 Hf ((r6.new g7b).there .u32 _)
        have q8 := grown_new (grownBy_trans q5 (grownBy_trans (grown_drew n6.g) g7b)) p8.g (by omega)
        have z8 := (((z5.new n6.g).drew.new g7b).far p8.g (by simp; omega))
        generalize w7.setCells w5.heap.size 0 (polyA .u32 Hf).toList = w8 at *
        clear e6 stB stA ldA ldB ldC ldD c0 c1 c2 d0 d1 d2 ix0 ix1
        go_wp2_with (first | (refine wpL_load rfl .u32 51 _ rfl w5.heap.size 0 rfl _ p8.r Tryd.oQ32 Tryd.sQ32 ?_) | (go_at_call 16; refine (HV.out _).mono ?_; rintro e w9 ⟨rfl, g9⟩) | (refine wpL_store rfl .i64 24 _ _ rfl (w.heap.size + 1 + 1) 0 rfl _ rfl .i64 _ (z8.new g9) Tryd.sP ?_; intro wa pa))
        refine bodyPost_ret (res_p2 rfl .i64 _ wa (w.heap.size + 1 + 1) _ _ _ rfl rfl rfl pa.r ⟨_, Tryd.uP⟩ Tryd.sP) rfl ⟨rfl, grown_new (grownBy_trans q8 g9) pa.g (by omega)⟩)
    | ( have z5 := HK.out.1
        have q5 := HK.out.2
        have l5 := q5.size
        have lz := z5.lt
        have l7 := g7.size
        have p8 := put_cells .u32 (w7.alloc (.cells Tryd.zeroCells51 51)) w7.heap.size 0 Hf (n7.r.there .u32 _)
        have q7 := grownBy_trans q5 (grownBy_trans (grown_drew (World.grownBy.refl w5 none)) (grownBy_trans g7 n7.g))
        have q8 := grown_new q7 p8.g (Nat.le_trans l5 l7)
        have z7 := (z5.drew.new g7)
        have lz7 := z7.lt
        have z8 := (z7.new n7.g).far p8.g (by simp; omega)
        generalize (w7.alloc (.cells Tryd.zeroCells51 51)).setCells w7.heap.size 0 (polyA .u32 Hf).toList = w8 at *
        clear stA ldA ldB ldC ldD c0 c1 c2 d0 d1 d2 ix0 ix1
        go_wp2_with (first | (refine wpL_load rfl .u32 51 _ rfl w7.heap.size 0 rfl _ p8.r Tryd.oQ32 Tryd.sQ32 ?_) | (go_at_call 16; refine (HV.out _).mono ?_; rintro e w9 ⟨rfl, g9⟩) | (refine wpL_store rfl .i64 24 _ _ rfl (w.heap.size + 1 + 1) 0 rfl _ rfl .i64 _ (z8.new g9) Tryd.sP ?_; intro wa pa))
        refine bodyPost_ret (res_p2 rfl .i64 _ wa (w.heap.size + 1 + 1) _ _ _ rfl rfl rfl pa.r ⟨_, Tryd.uP⟩ Tryd.sP) rfl ⟨rfl, grown_new (grownBy_trans q8 g9) pa.g (by omega)⟩)
end
end Go.Proofs.YtkijpphmiogbbabDoor
