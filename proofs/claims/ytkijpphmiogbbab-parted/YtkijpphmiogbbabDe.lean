import Derived.Test.YtkijpphmiogbbabDd
namespace Go.Proofs.Ytkijpphmiogbbab
open Go.RowKit
attribute [local go_sem ↓] Go.wp_at_zero Go.wp_at_succ
attribute [local go_sem] Try.zv24 Try.zv42

theorem res_set {P : Program} {fn : Func} {p s : Tmp} {ty : TypeId} (h : fn.results = #[.cell p ty, .tmp s]) (tmps : Array Value) (w : World) (b : Nat) (g k o : Int) (v : Value)
    (hp : tmps.getD p undef = .pointer (some ⟨b, 0, none⟩)) (hs : tmps.getD s undef = v) (h0 : w.cell? ⟨b, 0, none⟩ = some (.int .i64 g)) (h1 : w.cell? ⟨b, 1, none⟩ = some (.int .i64 k)) (h2 : w.cell? ⟨b, 2, none⟩ = some (.int .i64 o))
    (hu : ∃ d, P.underlying ty = some d ∧ d.isRow = true) (hi : (P.info? ty).map (·.size) = some 3) :
    (results fn tmps).run P w = .ok (.tuple #[.agg #[.int .i64 g, .int .i64 k, .int .i64 o], v]) w := by
  have hp' : tmps[p]?.getD undef = .pointer (some ⟨b, 0, none⟩) := by simpa using hp
  have hs' : tmps[s]?.getD undef = v := by simpa using hs
  obtain ⟨d, hu, hd⟩ := hu
  have hl := run_loadVar_mid (P := P) w b 0 ty [.int .i64 g, .int .i64 k, .int .i64 o] d (set_load h0 h1 h2) hu hd hi
  simp [results, h, hp', hs', asAddr, hl]
set_option maxHeartbeats 400000 in
theorem new44 (w : World) : Calls Try.prog 21 #[.int .i64 44] w fun e w' => e = .returned (.tuple #[.agg #[.int .i64 95232, .int .i64 4, .int .i64 80], .nilIface]) ∧ w.grownBy w' none := by
  go_enter Try.func21, Try.ntmps21
  go_wp2
  refine bodyPost_ret (res_set rfl _ _ w.heap.size 95232 4 80 _ rfl rfl (by rw [World.cell?_alloc_new]; rfl) (by rw [World.cell?_alloc_new]; rfl) (by rw [World.cell?_alloc_new]; rfl) ⟨_, Try.underlying53, rfl⟩ (by kernel_rfl)) rfl ⟨rfl, World.grownBy_alloc _ _ _⟩
set_option maxHeartbeats 400000 in
theorem new65 (w : World) : Calls Try.prog 21 #[.int .i64 65] w fun e w' => e = .returned (.tuple #[.agg #[.int .i64 261888, .int .i64 6, .int .i64 55], .nilIface]) ∧ w.grownBy w' none := by
  go_enter Try.func21, Try.ntmps21
  go_wp2
  refine bodyPost_ret (res_set rfl _ _ w.heap.size 261888 6 55 _ rfl rfl (by rw [World.cell?_alloc_new]; rfl) (by rw [World.cell?_alloc_new]; rfl) (by rw [World.cell?_alloc_new]; rfl) ⟨_, Try.underlying53, rfl⟩ (by kernel_rfl)) rfl ⟨rfl, World.grownBy_alloc _ _ _⟩
set_option maxHeartbeats 400000 in
theorem new87 (w : World) : Calls Try.prog 21 #[.int .i64 87] w fun e w' => e = .returned (.tuple #[.agg #[.int .i64 261888, .int .i64 8, .int .i64 75], .nilIface]) ∧ w.grownBy w' none := by
  go_enter Try.func21, Try.ntmps21
  go_wp2
  refine bodyPost_ret (res_set rfl _ _ w.heap.size 261888 8 75 _ rfl rfl (by rw [World.cell?_alloc_new]; rfl) (by rw [World.cell?_alloc_new]; rfl) (by rw [World.cell?_alloc_new]; rfl) ⟨_, Try.underlying53, rfl⟩ (by kernel_rfl)) rfl ⟨rfl, World.grownBy_alloc _ _ _⟩
/-- The sets of parameters: number, GAMMA, polynomials, hints. -/
def IsSet (n g k o : Int) : Prop := (n = 44 ∧ g = 95232 ∧ k = 4 ∧ o = 80) ∨ (n = 65 ∧ g = 261888 ∧ k = 6 ∧ o = 55) ∨ (n = 87 ∧ g = 261888 ∧ k = 8 ∧ o = 75)
theorem IsSet.gam {n g k o : Int} (h : IsSet n g k o) : g = 95232 ∨ g = 261888 := by unfold IsSet at h; omega
theorem New_any (n g k o : Int) (w : World) (h : IsSet n g k o) : Calls Try.prog 21 #[.int .i64 n] w fun e w' => e = .returned (.tuple #[.agg #[.int .i64 g, .int .i64 k, .int .i64 o], .nilIface]) ∧ w.grownBy w' none := by
  rcases h with ⟨rfl, rfl, rfl, rfl⟩ | ⟨rfl, rfl, rfl, rfl⟩ | ⟨rfl, rfl, rfl, rfl⟩
  · exact new44 w
  · exact new65 w
  · exact new87 w
set_option maxHeartbeats 1000000 in
set_option maxRecDepth 20000 in
theorem Decompose_any (L : Nat → Int) (n g k o : Int) (w : World) (hs : IsSet n g k o) (hL : ∀ i, i < 256 → 0 ≤ L i ∧ L i < 8380417) :
    Calls Try.prog 12 #[.int .i64 n, .agg (polyA .i64 L)] w fun e w' => e = .returned (.tuple #[.agg (polyA .i64 (fun i => decH g (L i))), .agg (polyA .i64 (fun i => decL g (L i))), .nilIface]) ∧ w.grownBy w' none := by
  have hg := hs.gam
  have hb : ∀ i, i < 256 → (0 ≤ decH g (L i) ∧ decH g (L i) < 4294967296) ∧ -261888 ≤ decL g (L i) ∧ decL g (L i) ≤ 261888 := fun i hi => by
    have h := dec_bounds g (L i) hg (hL i hi).1 (hL i hi).2
    rcases hg with rfl | rfl <;> omega
  have HC : Hid (∀ W, Calls Try.prog 19 #[.func (.func 22) #[.agg #[.int .i64 g, .int .i64 k, .int .i64 o]] #[], .agg (polyA .i64 L)] W fun e w' => e = .returned (.tuple #[.agg (polyA .i64 (fun i => decH g (L i))), .agg (polyA .i64 (fun i => decL g (L i))), .nilIface]) ∧ W.grownBy w' none) := fun W =>
    lparted_dec L _ (fun i => decL g (L i) % 8380417) _ g k o W hL (fun i hi => (hb i hi).1) (fun i _ => ⟨Int.emod_nonneg _ (by omega), Int.lt_trans (Int.emod_lt_of_pos _ (by omega)) (by omega)⟩) (fun i hi => cen_back _ (hb i hi).2.1 (hb i hi).2.2) (fun W' => pDecompose_any L g k o W' hg hL)
  have HN : Hid (∀ W, Calls Try.prog 21 #[.int .i64 n] W fun e w' => e = .returned (.tuple #[.agg #[.int .i64 g, .int .i64 k, .int .i64 o], .nilIface]) ∧ W.grownBy w' none) := fun W => New_any n g k o W hs
  clear hL hg hb hs
  have t1 := thr_mk w 24 .i64 L
  rw [← Try.z24] at t1
  go_enter Try.func12, Try.ntmps12
  go_wp2_with fail
  refine (HN.out _).mono ?_
  rintro e w2 ⟨rfl, g2⟩
  have g3 := World.grownBy_alloc w2 (.cells #[.int .i64 g, .int .i64 k, .int .i64 o] 53) none
  have r3 := (t1.r.new g2).new g3
  have z3 := (t1.z.new g2).new g3
  have z3' := (t1.z'.new g2).new g3
  have hg3 := grownBy_trans (grownBy_trans t1.g g2) g3
  clear t1 g2 g3
  go_wp2_with (first | (refine wpL_load rfl .i64 24 _ rfl w.heap.size 0 rfl L r3 ⟨_, Try.uP⟩ Try.sP ?_) | (go_at_call 19; refine (HC.out _).mono ?_; rintro e w5 ⟨rfl, g5⟩) | (refine wpL_store rfl .i64 24 _ _ rfl (w.heap.size + 1) 0 rfl _ rfl .i64 _ (z3.new g5) Try.sP ?_; intro w6 p6) | (refine wpL_store rfl .i64 24 _ _ rfl (w.heap.size + 1 + 1) 0 rfl _ rfl .i64 _ ((z3'.new g5).far p6.g (by simp)) Try.sP ?_; intro w7 p7))
  refine bodyPost_ret (res3 rfl .i64 _ w7 (w.heap.size + 1) (w.heap.size + 1 + 1) _ _ _ rfl rfl rfl (p6.r.far p7.g (by simp)) p7.r ⟨_, Try.uP⟩ Try.sP) rfl ⟨rfl, grown_new (grown_new (grownBy_trans hg3 g5) p6.g (by omega)) p7.g (by omega)⟩
end Go.Proofs.Ytkijpphmiogbbab
