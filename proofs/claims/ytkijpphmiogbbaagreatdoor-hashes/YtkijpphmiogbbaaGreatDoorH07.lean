import Derived.Test.YtkijpphmiogbbaaGreatDoorH06
namespace Go.Proofs.YtkijpphmiogbbaaGreatDoor.Z
open Go.RowKit
attribute [local go_sem ↓] Go.wp_at_zero Go.wp_at_succ
variable {X : Side} {B c : Nat} {vT vP : Value} {vS : SV} {ts : List ByteArray} {nP : Nat} {ps : List Value} {Φ : Nat → Prop} {w : World}

theorem Tryz.uY : Tryz.prog.underlying 43 = some (.array 256 3) := by kernel_rfl
theorem Tryz.sY : (Tryz.prog.info? 43).map (·.size) = some 256 := by kernel_rfl
theorem Tryz.zY : Tryz.zeroCells43 = polyA .i64 (fun _ => 0) := by kernel_rfl
theorem run_loadRow {P : Program} (k : IntKind) (w : World) (ty : TypeId) (b f : Nat) (L : Nat → Int) (hr : PRow k w b f L)
    (hu : ∃ e, P.underlying ty = some (.array 256 e)) (hi : (P.info? ty).map (·.size) = some 256) :
    (loadVar ty ⟨b, f, none⟩).run P w = .ok (.agg (polyA k L)) w := by
  obtain ⟨_, hu⟩ := hu; exact run_loadVar_mid w b f ty (polyL k L) _ hr.range hu rfl (by rw [polyL_len]; exact hi)
theorem res1 {P : Program} {fn : Func} {p : Tmp} {ty : TypeId} (h : fn.results = #[.cell p ty]) (k : IntKind) (tmps : Array Value) (w : World) (g : Nat) (L : Nat → Int)
    (hp : tmps.getD p undef = .pointer (some ⟨g, 0, none⟩)) (hr : PRow k w g 0 L)
    (hu : ∃ e, P.underlying ty = some (.array 256 e)) (hi : (P.info? ty).map (·.size) = some 256) :
    (results fn tmps).run P w = .ok (.agg (polyA k L)) w := by
  have hp' : tmps[p]?.getD undef = .pointer (some ⟨g, 0, none⟩) := by simpa using hp
  simp [results, h, hp', asAddr, run_loadRow k w ty g 0 L hr hu hi]
/-- Loads and stores of whole polynomials, kept from being laid open. -/
def hidLd (p : Value) : Sem Value := Instr.loadAt 43 p
def hidSt (p v : Value) := Instr.storeAt 43 p v
def hidBS (n : Nat) (parts : Array (Nat × Value)) : Sem Value := Instr.buildSlice 31 n parts
theorem ld_hide (p : Value) : Instr.loadAt 43 p = hidLd p := rfl
theorem st_hide (p v : Value) : Instr.storeAt 43 p v = hidSt p v := rfl
theorem bs_hide (n : Nat) (parts : Array (Nat × Value)) : Instr.buildSlice 31 n parts = hidBS n parts := rfl
theorem run_hidLd (W : World) (b f : Nat) (L : Nat → Int) (hr : PRow .i64 W b f L) : (hidLd (.pointer (some ⟨b, f, none⟩))).run Tryz.prog W = .ok (.agg (polyA .i64 L)) W := by
  unfold hidLd
  simp only [Instr.loadAt, Instr.sureAddr, Sem.run_bind, Sem.run_pure, Result.andThen_ok, run_loadRow .i64 W 43 b f L hr ⟨_, Tryz.uY⟩ Tryz.sY]
theorem run_hidSt (W : World) (b : Nat) (L M : Nat → Int) (hr : PRow .i64 W b 0 M) : (hidSt (.pointer (some ⟨b, 0, none⟩)) (.agg (polyA .i64 L))).run Tryz.prog W = .ok () (W.setCells b 0 (polyA .i64 L).toList) :=
  run_storeAt_mid W b 0 43 (polyA .i64 L) (hr.there .i64 L) (by rw [polyA_size]; exact Tryz.sY) (polyA_one .i64 L)

/-- The i-th of the polynomials. -/
theorem polys_at (h : SWd X B c vT vP vS ts nP ps Φ w) {g cap : Nat} (hv : vP = .slice (some ⟨g, 0, none⟩) nP cap) (k : Nat) (hk : k < nP) : ∃ L : Nat → Int, PRow .i64 w g (k * 256) L ∧ ∀ j, j < 256 → InI (L j) := by
  have hl := h.ownP.1
  have hj : ∀ j, j < 256 → k * 256 + j < ps.length := fun j hj => by
    rw [hl]
    have : (k + 1) * 256 ≤ nP * 256 := Nat.mul_le_mul_right 256 hk
    omega
  have hz : ∀ j, j < 256 → ∃ z, ps[k * 256 + j]? = some (.int .i64 z) ∧ InI z := fun j hj' => by
    obtain ⟨z, h1, h2⟩ := h.ints _ (List.getElem_mem (hj j hj'))
    exact ⟨z, by rw [List.getElem?_eq_getElem (hj j hj'), h1], h2⟩
  refine ⟨fun j => if hj : j < 256 then (hz j hj).choose else 0, fun j hj' => ⟨?_, ?_⟩, fun j hj' => ?_⟩
  · show w.cell? _ = some (.int .i64 (if hj : j < 256 then (hz j hj).choose else 0))
    rw [dif_pos hj']
    have hc := h.ownP.cells (g := g) (by rw [hv]; rfl) (k * 256 + j) _ (hz j hj').choose_spec.1
    have hadd : (⟨g, 0, none⟩ : Addr).add (k * 256 + j) = ⟨g, k * 256 + j, none⟩ := by unfold Addr.add; split <;> simp_all
    rwa [hadd] at hc
  · rcases h.ownP.2 with ⟨h0, _⟩ | ⟨g', cap', cur, h0, _, hg, _⟩
    · rw [hv] at h0; cases h0
    · rw [hv] at h0; cases h0
      simp [World.frozen?, hg]
  · show InI (if hj : j < 256 then (hz j hj).choose else 0)
    rw [dif_pos hj']; exact (hz j hj').choose_spec.2
attribute [local go_sem ↓] ld_hide st_hide bs_hide
set_option maxHeartbeats 2000000 in
set_option maxRecDepth 20000 in
theorem poly_any (hX : X.Local) (hc : c ≤ 40000) (i : Int) (hi : InI i) (h : SWd X B c vT vP vS ts nP ps Φ w) :
    Calls Tryz.prog 23 #[.pointer (some ⟨B, 0, none⟩), .int .i64 i] w fun e w' => ∃ L, e = .returned (.agg (polyA .i64 L)) ∧ (∀ j, j < 256 → InI (L j)) ∧ w.grownBy w' none := by
  have n1 := new_alloc .i64 w (fun _ => 0) 43
  rw [← Tryz.zY] at n1
  have h1 := h.keep hX n1.g
  have c1 := h1.c1
  have hn := h.nPc
  have zin : ∀ j, j < 256 → InI ((fun _ => (0 : Int)) j) := fun j _ => ⟨by show (-9223372036854775808 : Int) ≤ 0; decide, by show (0 : Int) ≤ 9223372036854775807; decide⟩
  have hzero : nP = 0 → vP = .slice none 0 0 ∨ ∃ g cap, vP = .slice (some ⟨g, 0, none⟩) 0 cap := fun h0 => by
    rcases own_forms h.ownP with ⟨hv, _, _⟩ | ⟨g, cap, hv, _⟩
    · exact .inl hv
    · rw [h0] at hv; exact .inr ⟨g, cap, hv⟩
  by_cases hz : nP = 0
  · have st := run_hidSt (w.alloc (.cells Tryz.zeroCells43 43)) w.heap.size (fun _ => 0) _ n1.r
    have p6 := put_cells .i64 (w.alloc (.cells Tryz.zeroCells43 43)) w.heap.size 0 (fun _ => 0) (n1.r.there .i64 _)
    rw [← Tryz.zY] at st p6
    rcases hzero hz with hv | ⟨g, cap, hv⟩
    · rw [hv] at c1
      clear h h1 hzero
      go_enter Tryz.func23, Tryz.ntmps23
      go_wp2
      refine bodyPost_ret (v := .agg (polyA .i64 (fun _ => 0))) ?_ rfl ⟨_, rfl, zin, grown_new n1.g p6.g (Nat.le_refl _)⟩
      exact res1 Tryz.results23 .i64 _ _ w.heap.size _ rfl p6.r ⟨_, Tryz.uY⟩ Tryz.sY
    · rw [hv] at c1
      clear h h1 hzero
      go_enter Tryz.func23, Tryz.ntmps23
      go_wp2
      refine bodyPost_ret (v := .agg (polyA .i64 (fun _ => 0))) ?_ rfl ⟨_, rfl, zin, grown_new n1.g p6.g (Nat.le_refl _)⟩
      exact res1 Tryz.results23 .i64 _ _ w.heap.size _ rfl p6.r ⟨_, Tryz.uY⟩ Tryz.sY
  · rcases own_forms h.ownP with ⟨_, h0, _⟩ | ⟨g, cap, hv, _⟩
    · exact absurd h0 hz
    have HS : Hid (∀ k : Nat, (k : Int) < (nP : Int) → ∃ L : Nat → Int, PRow .i64 (w.alloc (.cells Tryz.zeroCells43 43)) g (k * 256) L ∧ ∀ j, j < 256 → InI (L j)) := fun k hk => polys_at h1 hv k (by omega)
    rw [hv] at c1
    have m0 : (0 : Int) < (nP : Int) := by omega
    have m1 : (nP : Int) ≤ 9223372036854775807 := by omega
    have nz : ((nP : Int) == 0) = false := by simp; omega
    clear h h1 hzero hz hn zin
    go_enter Tryz.func23, Tryz.ntmps23
    go_wp2
    generalize hw1 : w.alloc (.cells Tryz.zeroCells43 43) = w1 at *
    clear hw1
    go_region_with (first | (go_at_call 22; refine (pick_any _ _ _ hi m0 m1).mono ?_; rintro e w' ⟨k, hk, rfl, rfl⟩; obtain ⟨L, hL, hLi⟩ := HS.out k hk; have k0 : (0 : Int) ≤ (k : Int) := Int.natCast_nonneg k; have ld := run_hidLd w1.drew g (k * 256) L hL.drew; have st := run_hidSt w1.drew w.heap.size L _ n1.r.drew))
    all_goals
      have p6 := put_cells .i64 w1.drew w.heap.size 0 L (n1.r.drew.there .i64 _)
      go_wp2
      refine bodyPost_ret (v := .agg (polyA .i64 L)) ?_ rfl ⟨_, rfl, hLi, grown_new (grown_drew n1.g) p6.g (Nat.le_refl _)⟩
      exact res1 Tryz.results23 .i64 _ _ w.heap.size _ rfl p6.r ⟨_, Tryz.uY⟩ Tryz.sY
end Go.Proofs.YtkijpphmiogbbaaGreatDoor.Z
