import Derived.Test.YtkijpphmiogbbaaGreatDoorM01
namespace Go.Proofs.YtkijpphmiogbbaaGreatDoor.Z
open Go.RowKit
attribute [local go_sem ↓] Go.wp_at_zero Go.wp_at_succ
variable {X : Side} {B c : Nat} {vT vP : Value} {vS : SV} {ts : List ByteArray} {nP : Nat} {ps : List Value} {Φ : Nat → Prop} {w : World}

theorem Tryz.uStrs : Tryz.prog.underlying 30 = some (.slice 9) := by kernel_rfl
theorem Tryz.iStr : (Tryz.prog.info? 9).map (fun i => (i.zero, i.size, i.bytes)) = some (some (.string ByteArray.empty), 1, 16) := by kernel_rfl
theorem info_of {P : Program} {t : TypeId} {x : Option Value × Nat × Nat} (h : (P.info? t).map (fun i => (i.zero, i.size, i.bytes)) = some x) : ∃ i, P.info? t = some i ∧ i.zero = x.1 ∧ i.size = x.2.1 ∧ i.bytes = x.2.2 := by
  cases hi : P.info? t with
  | none => rw [hi] at h; cases h
  | some i =>
    rw [hi] at h
    simp only [Option.map_some, Option.some.injEq] at h
    subst h
    exact ⟨i, rfl, rfl, rfl, rfl⟩
theorem ownsRow_succ {W : World} {base : Nat} {e : TypeId} {size : Nat} {v : Value} {k : Nat} {xs : List Value} (h : W.ownsRow base e size v (k + 1) xs) : ∃ g cap, v = .slice (some ⟨g, 0, none⟩) (k + 1) cap := by
  rcases h.2 with ⟨_, h0⟩ | ⟨g, cap, cur, rfl, _⟩
  · omega
  · exact ⟨g, cap, rfl⟩
set_option maxHeartbeats 1000000 in
theorem add_any (hX : X.Local) (hc : c ≤ 40000) (s : ByteArray) (h : SWd X B c vT vP vS ts nP ps Φ w) (hs : s.size ≤ 9223372036854775807) :
    Calls Tryz.prog 21 #[.pointer (some ⟨B, 0, none⟩), .string s] w fun e w' => e = .returned (.tuple #[]) ∧ SW X B (c + 1) w' := by
  have c0 := h.c0
  have hn := h.nT
  by_cases hz : s.size ≤ 20000
  · obtain ⟨i0, hi, hz0, hz1, hz2⟩ := info_of Tryz.iStr
    have z1 : (s.size : Int) ≤ 20000 := by omega
    have HO : Hid (w.ownsRow 0 9 1 vT ts.length (ts.map Value.string)) := h.own
    have HI : Hid (Tryz.prog.info? 9 = some i0) := hi
    have hfz := h.fz 0
    clear hi
    go_enter Tryz.func21, Tryz.ntmps21
    go_wp2_with (first | (at_builtin; refine wpList_append_own_at _ rfl _ _ 30 rfl 0 9 i0 (.string ByteArray.empty) 1 16 Tryz.uStrs HI.out hz0 hz1 hz2 rfl (by decide) vT ts.length (ts.map Value.string) rfl (HO.out.alloc _) ⟨_, 0, none⟩ 1 1 [.string s] rfl rfl ?c1 ?c2 ?c3 ?c4 ?c5 ?_))
    case c2 => rfl
    case c3 => unfold maxLen; omega
    case c4 => omega
    intro v' w2 ho hg2 _ hb
    have hTB := own_ne h.own h.blk (by decide)
    have d0 : w2.cell? ⟨B, 0, none⟩ = some vT := hg2.cell ((World.grownBy_alloc w _ none).cell c0 (by simp)) (Ne.symm hTB)
    have df : w2.frozen? ⟨B, 0, none⟩ = false := by rw [hg2.frozen_far ⟨B, 0, none⟩ (Nat.lt_of_lt_of_le h.Blt (World.grownBy_alloc w _ none).size) (Ne.symm hTB), (World.grownBy_alloc w _ none).frozen_far ⟨B, 0, none⟩ h.Blt (by simp)]; exact hfz
    have hF := h.setT hX hz (World.grownBy_alloc w _ none) (by rw [List.map_append]; exact ho) hg2 (by simpa using hb)
    obtain ⟨g9, cap9, hv9⟩ := ownsRow_succ ho
    subst hv9
    have HF : Hid (SW X B (c + 1) (w2.setCell ⟨B, 0, none⟩ (.slice (some ⟨g9, 0, none⟩) (ts.length + 1) cap9))) := ⟨_, _, _, _, _, _, _, hF⟩
    clear ho hg2 hb c0 hfz hF h HO HI hTB
    go_wp2
    go_end0
    exact ⟨rfl, HF.out⟩
  · have z1 : ¬ (s.size : Int) ≤ 20000 := by omega
    have z2 : (s.size : Int) ≤ 9223372036854775807 := by omega
    go_enter Tryz.func21, Tryz.ntmps21
    go_wp2
    go_end0
    exact ⟨rfl, SW.more hX ⟨vT, vP, vS, ts, nP, ps, Φ, h⟩ (Nat.le_succ c)⟩

/-- A step lies in block b. -/
structure OpAt (W : World) (g : Nat) (o : OpV) : Prop where
  kind : W.cell? ⟨g, 0, none⟩ = some (.int .i64 o.kind)
  x : W.cell? ⟨g, 1, none⟩ = some (.int .i64 o.x)
  y : W.cell? ⟨g, 2, none⟩ = some (.int .i64 o.y)
  z : W.cell? ⟨g, 3, none⟩ = some (.int .i64 o.z)
  w : W.cell? ⟨g, 4, none⟩ = some (.int .i64 o.w)
  a : W.cell? ⟨g, 5, none⟩ = some (.int .i64 o.a)
  b : W.cell? ⟨g, 6, none⟩ = some (.int .i64 o.b)
  s : W.cell? ⟨g, 7, none⟩ = some (.string o.s)
abbrev opBox (w : World) (o : OpV) : World := w.alloc (.cells #[.int .i64 o.kind, .int .i64 o.x, .int .i64 o.y, .int .i64 o.z, .int .i64 o.w, .int .i64 o.a, .int .i64 o.b, .string o.s] 28)
theorem opAt_new (w : World) (o : OpV) : OpAt (opBox w o) w.heap.size o := by
  constructor <;> rw [World.cell?_alloc_new] <;> rfl
theorem OpAt.far {w w' : World} {b : Nat} {o : OpV} {r : Option Nat} (h : OpAt w b o) (hg : w.grownBy w' r) (hr : some b ≠ r) : OpAt w' b o :=
  ⟨hg.cell h.kind hr, hg.cell h.x hr, hg.cell h.y hr, hg.cell h.z hr, hg.cell h.w hr, hg.cell h.a hr, hg.cell h.b hr, hg.cell h.s hr⟩
set_option maxHeartbeats 1000000 in
theorem looks_nil (h : SWd X B c vT vP vS ts nP ps Φ w) (hl : vS.l = .slice none 0 0) :
    Calls Tryz.prog 19 #[.pointer (some ⟨B, 0, none⟩)] w fun e w' => e = .returned (.bool true) ∧ w.grownBy w' none := by
  have c3 := h.c3
  rw [hl] at c3
  clear h
  go_enter Tryz.func19, Tryz.ntmps19
  go_wp2
  refine wp_loop_rounds 1 ?_
  rw [rounds_succ]
  go_wp2
  go_ret
  exact ⟨rfl, World.grownBy.refl _ _⟩
set_option maxHeartbeats 2000000 in
theorem heavy_any (hX : X.Local) (hc : c ≤ 40000) (o : OpV) (ho : OpOK o) (hk : o.kind < 1) (h : SW X B c w) :
    Calls Tryz.prog 18 #[.pointer (some ⟨B, 0, none⟩), opVal o] w fun e w' => e = .returned (.bool true) ∧ SW X B c w' := by
  have hk0 := ho.kind.1
  go_enter Tryz.func18, Tryz.ntmps18
  go_wp2_with fail
  obtain ⟨vT, vP, vS, ts, nP, ps, Φ, h⟩ := h
  have hO := opAt_new w o
  have h1 : SWd X B c vT vP vS ts nP ps Φ (opBox w o) := h.keep hX (World.grownBy_alloc w _ none)
  refine (text_any hc _ ho.x h1).mono ?_
  rintro e w1 ⟨t1, rfl, ht1, hg1⟩
  have h2 := h1.keep hX hg1
  have hO1 := hO.far hg1 (by simp)
  have b1 : w.heap.size < w1.heap.size := Nat.lt_of_lt_of_le (by simp) hg1.size
  generalize w.heap.size = b at *
  clear h h1 hO hg1 ht1
  have q := hO1.y
  go_wp2_with fail
  refine (text_any hc _ ho.y h2).mono ?_
  rintro e w2 ⟨t2, rfl, ht2, hg2⟩
  have h3 := h2.keep hX hg2
  have hO2 := hO1.far hg2 (by simp)
  clear q h2 hO1 hg2 ht2
  have q := hO2.z
  go_wp2_with fail
  refine (text_any hc _ ho.z h3).mono ?_
  rintro e w3 ⟨t3, rfl, ht3, hg3⟩
  have h4 := h3.keep hX hg3
  have hO3 := hO2.far hg3 (by simp)
  clear q h3 hO2 hg3 ht3
  have q := hO3.w
  go_wp2_with fail
  refine (text_any hc _ ho.w h4).mono ?_
  rintro e w4 ⟨t4, rfl, ht4, hg4⟩
  have h5 := h4.keep hX hg4
  have hO4 := hO3.far hg4 (by simp)
  clear q h4 hO3 hg4 ht4
  have q := hO4.kind
  have k15 : (o.kind == 15) = false := by simp; omega
  have k16 : (o.kind == 16) = false := by simp; omega
  have k17 : (o.kind == 17) = false := by simp; omega
  have k23 : (o.kind == 23) = false := by simp; omega
  have k24 : (o.kind == 24) = false := by simp; omega
  have k25 : (o.kind == 25) = false := by simp; omega
  have k26 : (o.kind == 26) = false := by simp; omega
  have k27 : (o.kind == 27) = false := by simp; omega
  go_wp2
  go_ret
  exact ⟨rfl, _, _, _, _, _, _, _, h5⟩
end Go.Proofs.YtkijpphmiogbbaaGreatDoor.Z

namespace Go.Proofs.YtkijpphmiogbbaaGreatDoor.Z
open Go.RowKit
attribute [local go_sem ↓] Go.wp_at_zero Go.wp_at_succ
variable {X : Side} {B c : Nat} {vT vP : Value} {vS : SV} {ts : List ByteArray} {nP : Nat} {ps : List Value} {Φ : Nat → Prop} {w : World}

theorem Tryz.uY : Tryz.prog.underlying 43 = some (.array 256 3) := by kernel_rfl
theorem Tryz.sY : (Tryz.prog.info? 43).map (·.size) = some 256 := by kernel_rfl
theorem Tryz.zY : Tryz.zeroCells43 = polyA .i64 (fun _ => 0) := by kernel_rfl
theorem run_loadRow {P : Program} (k : IntKind) (w : World) (ty : TypeId) (b f : Nat) (L : Nat → Int) (hr : PRow k w b f L)
    (hu : ∃ e, P.underlying ty = some (.array 256 e)) (hi : (P.info? ty).map (·.size) = some 256) :
    (loadVar ty ⟨b, f, none⟩).run P w = .ok (.agg (polyA k L)) w := by
  obtain ⟨_, hu⟩ := hu; exact run_loadVar_mid w b f ty (polyL k L) _ hr.range hu rfl (by rw [polyL_len]; exact hi)
theorem res1 {P : Program} {fn : Func} {p : Tmp} {ty : TypeId} (h : fn.results = #[.cell p ty]) (k : IntKind) (tmps : Array Value) (w : World) (g : Nat) (L : Nat → Int)
    (hp : tmps.getD p undef = .pointer (some ⟨g, 0, none⟩)) (hr : PRow k w g 0 L)
    (hu : ∃ e, P.underlying ty = some (.array 256 e)) (hi : (P.info? ty).map (·.size) = some 256) :
    (results fn tmps).run P w = .ok (.agg (polyA k L)) w := by
  have hp' : tmps[p]?.getD undef = .pointer (some ⟨g, 0, none⟩) := by simpa using hp
  simp [results, h, hp', asAddr, run_loadRow k w ty g 0 L hr hu hi]
/-- Loads and stores of whole polynomials, kept from being laid open. -/
def hidLd (p : Value) : Sem Value := Instr.loadAt 43 p
def hidSt (p v : Value) := Instr.storeAt 43 p v
def hidBS (n : Nat) (parts : Array (Nat × Value)) : Sem Value := Instr.buildSlice 31 n parts
theorem ld_hide (p : Value) : Instr.loadAt 43 p = hidLd p := rfl
theorem st_hide (p v : Value) : Instr.storeAt 43 p v = hidSt p v := rfl
theorem bs_hide (n : Nat) (parts : Array (Nat × Value)) : Instr.buildSlice 31 n parts = hidBS n parts := rfl
theorem run_hidLd (W : World) (b f : Nat) (L : Nat → Int) (hr : PRow .i64 W b f L) : (hidLd (.pointer (some ⟨b, f, none⟩))).run Tryz.prog W = .ok (.agg (polyA .i64 L)) W := by
  unfold hidLd
  simp only [Instr.loadAt, Instr.sureAddr, Sem.run_bind, Sem.run_pure, Result.andThen_ok, run_loadRow .i64 W 43 b f L hr ⟨_, Tryz.uY⟩ Tryz.sY]
theorem run_hidSt (W : World) (b : Nat) (L M : Nat → Int) (hr : PRow .i64 W b 0 M) : (hidSt (.pointer (some ⟨b, 0, none⟩)) (.agg (polyA .i64 L))).run Tryz.prog W = .ok () (W.setCells b 0 (polyA .i64 L).toList) :=
  run_storeAt_mid W b 0 43 (polyA .i64 L) (hr.there .i64 L) (by rw [polyA_size]; exact Tryz.sY) (polyA_one .i64 L)

/-- The i-th of the polynomials. -/
theorem polys_at (h : SWd X B c vT vP vS ts nP ps Φ w) {g cap : Nat} (hv : vP = .slice (some ⟨g, 0, none⟩) nP cap) (k : Nat) (hk : k < nP) : ∃ L : Nat → Int, PRow .i64 w g (k * 256) L ∧ ∀ j, j < 256 → InI (L j) := by
  have hl := h.ownP.1
  have hj : ∀ j, j < 256 → k * 256 + j < ps.length := fun j hj => by
    rw [hl]
    have : (k + 1) * 256 ≤ nP * 256 := Nat.mul_le_mul_right 256 hk
    omega
  have hz : ∀ j, j < 256 → ∃ z, ps[k * 256 + j]? = some (.int .i64 z) ∧ InI z := fun j hj' => by
    obtain ⟨z, h1, h2⟩ := h.ints _ (List.getElem_mem (hj j hj'))
    exact ⟨z, by rw [List.getElem?_eq_getElem (hj j hj'), h1], h2⟩
  refine ⟨fun j => if hj : j < 256 then (hz j hj).choose else 0, fun j hj' => ⟨?_, ?_⟩, fun j hj' => ?_⟩
  · show w.cell? _ = some (.int .i64 (if hj : j < 256 then (hz j hj).choose else 0))
    rw [dif_pos hj']
    have hc := h.ownP.cells (g := g) (by rw [hv]; rfl) (k * 256 + j) _ (hz j hj').choose_spec.1
    have hadd : (⟨g, 0, none⟩ : Addr).add (k * 256 + j) = ⟨g, k * 256 + j, none⟩ := by unfold Addr.add; split <;> simp_all
    rwa [hadd] at hc
  · rcases h.ownP.2 with ⟨h0, _⟩ | ⟨g', cap', cur, h0, _, hg, _⟩
    · rw [hv] at h0; cases h0
    · rw [hv] at h0; cases h0
      simp [World.frozen?, hg]
  · show InI (if hj : j < 256 then (hz j hj).choose else 0)
    rw [dif_pos hj']; exact (hz j hj').choose_spec.2
attribute [local go_sem ↓] ld_hide st_hide bs_hide
set_option maxHeartbeats 2000000 in
set_option maxRecDepth 20000 in
theorem poly_any (hX : X.Local) (hc : c ≤ 40000) (i : Int) (hi : InI i) (h : SWd X B c vT vP vS ts nP ps Φ w) :
    Calls Tryz.prog 23 #[.pointer (some ⟨B, 0, none⟩), .int .i64 i] w fun e w' => ∃ L, e = .returned (.agg (polyA .i64 L)) ∧ (∀ j, j < 256 → InI (L j)) ∧ w.grownBy w' none := by
  have n1 := new_alloc .i64 w (fun _ => 0) 43
  rw [← Tryz.zY] at n1
  have h1 := h.keep hX n1.g
  have c1 := h1.c1
  have hn := h.nPc
  have zin : ∀ j, j < 256 → InI ((fun _ => (0 : Int)) j) := fun j _ => ⟨by show (-9223372036854775808 : Int) ≤ 0; decide, by show (0 : Int) ≤ 9223372036854775807; decide⟩
  have hzero : nP = 0 → vP = .slice none 0 0 ∨ ∃ g cap, vP = .slice (some ⟨g, 0, none⟩) 0 cap := fun h0 => by
    rcases own_forms h.ownP with ⟨hv, _, _⟩ | ⟨g, cap, hv, _⟩
    · exact .inl hv
    · rw [h0] at hv; exact .inr ⟨g, cap, hv⟩
  by_cases hz : nP = 0
  · have st := run_hidSt (w.alloc (.cells Tryz.zeroCells43 43)) w.heap.size (fun _ => 0) _ n1.r
    have p6 := put_cells .i64 (w.alloc (.cells Tryz.zeroCells43 43)) w.heap.size 0 (fun _ => 0) (n1.r.there .i64 _)
    rw [← Tryz.zY] at st p6
    rcases hzero hz with hv | ⟨g, cap, hv⟩
    · rw [hv] at c1
      clear h h1 hzero
      go_enter Tryz.func23, Tryz.ntmps23
      go_wp2
      refine bodyPost_ret (v := .agg (polyA .i64 (fun _ => 0))) ?_ rfl ⟨_, rfl, zin, grown_new n1.g p6.g (Nat.le_refl _)⟩
      exact res1 Tryz.results23 .i64 _ _ w.heap.size _ rfl p6.r ⟨_, Tryz.uY⟩ Tryz.sY
    · rw [hv] at c1
      clear h h1 hzero
      go_enter Tryz.func23, Tryz.ntmps23
      go_wp2
      refine bodyPost_ret (v := .agg (polyA .i64 (fun _ => 0))) ?_ rfl ⟨_, rfl, zin, grown_new n1.g p6.g (Nat.le_refl _)⟩
      exact res1 Tryz.results23 .i64 _ _ w.heap.size _ rfl p6.r ⟨_, Tryz.uY⟩ Tryz.sY
  · rcases own_forms h.ownP with ⟨_, h0, _⟩ | ⟨g, cap, hv, _⟩
    · exact absurd h0 hz
    have HS : Hid (∀ k : Nat, (k : Int) < (nP : Int) → ∃ L : Nat → Int, PRow .i64 (w.alloc (.cells Tryz.zeroCells43 43)) g (k * 256) L ∧ ∀ j, j < 256 → InI (L j)) := fun k hk => polys_at h1 hv k (by omega)
    rw [hv] at c1
    have m0 : (0 : Int) < (nP : Int) := by omega
    have m1 : (nP : Int) ≤ 9223372036854775807 := by omega
    have nz : ((nP : Int) == 0) = false := by simp; omega
    clear h h1 hzero hz hn zin
    go_enter Tryz.func23, Tryz.ntmps23
    go_wp2
    generalize hw1 : w.alloc (.cells Tryz.zeroCells43 43) = w1 at *
    clear hw1
    go_region_with (first | (go_at_call 22; refine (pick_any _ _ _ hi m0 m1).mono ?_; rintro e w' ⟨k, hk, rfl, rfl⟩; obtain ⟨L, hL, hLi⟩ := HS.out k hk; have k0 : (0 : Int) ≤ (k : Int) := Int.natCast_nonneg k; have ld := run_hidLd w1.drew g (k * 256) L hL.drew; have st := run_hidSt w1.drew w.heap.size L _ n1.r.drew))
    all_goals
      have p6 := put_cells .i64 w1.drew w.heap.size 0 L (n1.r.drew.there .i64 _)
      go_wp2
      refine bodyPost_ret (v := .agg (polyA .i64 L)) ?_ rfl ⟨_, rfl, hLi, grown_new (grown_drew n1.g) p6.g (Nat.le_refl _)⟩
      exact res1 Tryz.results23 .i64 _ _ w.heap.size _ rfl p6.r ⟨_, Tryz.uY⟩ Tryz.sY
end Go.Proofs.YtkijpphmiogbbaaGreatDoor.Z

namespace Go.Proofs.YtkijpphmiogbbaaGreatDoor.Z
open Go.RowKit
attribute [local go_sem ↓] Go.wp_at_zero Go.wp_at_succ

theorem Tryz.uA : Tryz.prog.underlying 71 = some (.array 256 3) := by kernel_rfl
theorem Tryz.sA : (Tryz.prog.info? 71).map (·.size) = some 256 := by kernel_rfl
theorem Tryz.zA : Tryz.zeroCells71 = polyA .i64 (fun _ => 0) := by kernel_rfl
def hidLdA (p : Value) : Sem Value := Instr.loadAt 71 p
def hidStA (p v : Value) := Instr.storeAt 71 p v
theorem ldA_hide (p : Value) : Instr.loadAt 71 p = hidLdA p := rfl
theorem stA_hide (p v : Value) : Instr.storeAt 71 p v = hidStA p v := rfl
theorem run_hidLdA (W : World) (b f : Nat) (L : Nat → Int) (hr : PRow .i64 W b f L) : (hidLdA (.pointer (some ⟨b, f, none⟩))).run Tryz.prog W = .ok (.agg (polyA .i64 L)) W := by
  unfold hidLdA
  simp only [Instr.loadAt, Instr.sureAddr, Sem.run_bind, Sem.run_pure, Result.andThen_ok, run_loadRow .i64 W 71 b f L hr ⟨_, Tryz.uA⟩ Tryz.sA]
theorem run_hidStA (W : World) (b : Nat) (L M : Nat → Int) (hr : PRow .i64 W b 0 M) : (hidStA (.pointer (some ⟨b, 0, none⟩)) (.agg (polyA .i64 L))).run Tryz.prog W = .ok () (W.setCells b 0 (polyA .i64 L).toList) :=
  run_storeAt_mid W b 0 71 (polyA .i64 L) (hr.there .i64 L) (by rw [polyA_size]; exact Tryz.sA) (polyA_one .i64 L)
theorem mix_step (M L : Nat → Int) (k : Nat) (j : Nat) : upd (fun j => if j < k then M j else L j) k (M k) j = if j < k + 1 then M j else L j := by
  unfold upd
  by_cases e : j = k
  · subst e; simp
  · simp only [if_neg e]
    by_cases h : j < k
    · rw [if_pos h, if_pos (by omega)]
    · rw [if_neg h, if_neg (by omega)]
attribute [local go_sem ↓] ld_hide st_hide bs_hide ldA_hide stA_hide
set_option maxHeartbeats 2000000 in
set_option maxRecDepth 20000 in
/-- A polynomial of the document's as it is handed in. -/
theorem lpoly_any (L : Nat → Int) (w : World) :
    Calls Tryz.prog 50 #[.agg (polyA .i64 L)] w fun e w' => e = .returned (.agg (polyA .i64 L)) ∧ w.grownBy w' none := by
  have n1 := new_alloc .i64 w L 43
  generalize hw1 : w.alloc (.cells (polyA .i64 L) 43) = w1 at n1
  have n2 := new_alloc .i64 w1 (fun _ => 0) 71
  have n3 := new_alloc .i64 (w1.alloc (.cells (polyA .i64 (fun _ => 0)) 71)) (fun _ => 0) 71
  rw [← Tryz.zA] at n2 n3
  have s1 := n1.s
  have s2 := n2.s
  have s3 := n3.s
  have g3 : w.grownBy ((w1.alloc (.cells Tryz.zeroCells71 71)).alloc (.cells Tryz.zeroCells71 71)) none := grownBy_trans n1.g (grownBy_trans n2.g n3.g)
  have r1 := (n1.r.new n2.g).new n3.g
  have r2 := n2.r.new n3.g
  have r3 := n3.r
  rw [s2, s1] at r3
  rw [s1] at r2
  go_enter Tryz.func50, Tryz.ntmps50
  go_wp2
  generalize (w.alloc (.cells (polyA .i64 L) 43)) = w9 at *
  subst hw1
  generalize (w9.alloc (.cells Tryz.zeroCells71 71)).alloc (.cells Tryz.zeroCells71 71) = W3 at *
  clear n1 n2 n3 s1 s2 s3
  go_loopw [4] (fun i wr => ∃ k : Nat, k ≤ 256 ∧ i = .int .i64 k ∧ w.grownBy wr none ∧ PRow .i64 wr w.heap.size 0 L ∧ PRow .i64 wr (w.heap.size + 1) 0 (fun _ => 0) ∧ PRow .i64 wr (w.heap.size + 1 + 1) 0 (fun j => if j < k then L j else 0)) (fun i _ => 256 - (intOf i).toNat)
  case atStart => exact ⟨0, by omega, rfl, g3, r1, r2, r3.ext (fun j _ => by simp)⟩
  case round =>
    clear g3 r1 r2 r3
    obtain ⟨k, hk, rfl, hg, h1, h2, h3⟩ := hrel
    by_cases hlt : k < 256
    · have k0 : (0 : Int) ≤ (k : Int) := Int.natCast_nonneg k
      have k1 : (k : Int) < 256 := by omega
      have c1 := (h1.at0 k hlt).1
      have c3 := h3.at0 k hlt
      have c4 := c3.1
      have c5 := c3.2
      clear c3
      have e1 : ¬ w.heap.size + 1 + 1 = w.heap.size := by omega
      go_wp2
      exact ⟨⟨k + 1, by omega, by go_num, grown_setNew hg (by show w.heap.size ≤ w.heap.size + 1 + 1; omega) _, h1.set_other (by show w.heap.size + 1 + 1 ≠ w.heap.size; omega) _, h2.set_other (by show w.heap.size + 1 + 1 ≠ w.heap.size + 1; omega) _, (h3.set0 hlt (L k)).ext (fun j _ => mix_step L (fun _ => 0) k j)⟩, by simp [intOf]; omega⟩
    · have hk6 : k = 256 := by omega
      subst hk6
      have r3 : PRow .i64 wr (w.heap.size + 1 + 1) 0 L := h3.ext (fun j hj => by rw [if_pos hj])
      have ld := run_hidLdA wr (w.heap.size + 1 + 1) 0 L r3
      have st := run_hidStA wr (w.heap.size + 1) L _ h2
      have p6 := put_cells .i64 wr (w.heap.size + 1) 0 L (h2.there .i64 _)
      clear h1 h2 h3
      go_wp2
      refine bodyPost_ret (v := .agg (polyA .i64 L)) ?_ rfl ⟨rfl, grown_new hg p6.g (Nat.le_succ _)⟩
      exact res1 Tryz.results50 .i64 _ _ (w.heap.size + 1) _ rfl p6.r ⟨_, Tryz.uA⟩ Tryz.sA
set_option maxHeartbeats 2000000 in
set_option maxRecDepth 20000 in
/-- Two polynomials that are the same are found so. -/
theorem is_same (L M : Nat → Int) (h : ∀ j, j < 256 → L j = M j) (w : World) :
    Calls Tryz.prog 59 #[.agg (polyA .i64 L), .agg (polyA .i64 M)] w fun e w' => e = .returned (.bool true) ∧ w.grownBy w' none := by
  have n1 := new_alloc .i64 w L 71
  generalize hw1 : w.alloc (.cells (polyA .i64 L) 71) = w1 at n1
  have n2 := new_alloc .i64 w1 M 43
  have s1 := n1.s
  have g3 : w.grownBy (w1.alloc (.cells (polyA .i64 M) 43)) none := grownBy_trans n1.g n2.g
  have r1 := n1.r.new n2.g
  have r2 := n2.r
  rw [s1] at r2
  have HH : Hid (∀ j, j < 256 → L j = M j) := h
  clear h
  go_enter Tryz.func59, Tryz.ntmps59
  go_wp2
  generalize (w.alloc (.cells (polyA .i64 L) 71)) = w9 at *
  subst hw1
  generalize w9.alloc (.cells (polyA .i64 M) 43) = W3 at *
  clear n1 n2 s1
  go_loopw [5] (fun i wr => ∃ k : Nat, k ≤ 256 ∧ i = .int .i64 k ∧ w.grownBy wr none ∧ PRow .i64 wr w.heap.size 0 L ∧ PRow .i64 wr (w.heap.size + 1) 0 M) (fun i _ => 256 - (intOf i).toNat)
  case atStart => exact ⟨0, by omega, rfl, g3, r1, r2⟩
  case round =>
    clear g3 r1 r2
    obtain ⟨k, hk, rfl, hg, h1, h2⟩ := hrel
    by_cases hlt : k < 256
    · have k0 : (0 : Int) ≤ (k : Int) := Int.natCast_nonneg k
      have k1 : (k : Int) < 256 := by omega
      have c1 := (h1.at0 k hlt).1
      have c2 := (h2.at0 k hlt).1
      have e := HH.out k hlt
      rw [e] at c1
      clear e
      go_wp2
      go_region
      have hg9 := grown_drew hg
      go_wp2
      exact ⟨⟨k + 1, by omega, by go_num, hg9, h1.drew, h2.drew⟩, by simp [intOf]; omega⟩
    · have hk6 : k = 256 := by omega
      subst hk6
      go_wp2
      go_ret
      exact ⟨rfl, hg⟩
end Go.Proofs.YtkijpphmiogbbaaGreatDoor.Z

namespace Go.Proofs.YtkijpphmiogbbaaGreatDoor.Z
open Go.RowKit
attribute [local go_sem ↓] Go.wp_at_zero Go.wp_at_succ
attribute [local go_sem ↓] ld_hide st_hide bs_hide ldA_hide stA_hide

def InB (L : Nat → Int) (n : Int) : Prop := ∀ j, j < 256 → 0 ≤ L j ∧ L j < n
set_option maxHeartbeats 2000000 in
set_option maxRecDepth 20000 in
theorem bound_any (L : Nat → Int) (n : Int) (w : World) :
    Calls Tryz.prog 52 #[.agg (polyA .i64 L), .int .i64 n] w fun e w' => ∃ b, e = .returned (.bool b) ∧ (b = true ↔ InB L n) ∧ w.grownBy w' none := by
  have n1 := new_alloc .i64 w L 43
  have g3 := n1.g
  have r1 := n1.r
  go_enter Tryz.func52, Tryz.ntmps52
  go_wp2
  generalize w.alloc (.cells (polyA .i64 L) 43) = W3 at *
  clear n1
  go_loopw [5] (fun i wr => ∃ k : Nat, k ≤ 256 ∧ i = .int .i64 k ∧ wr = W3 ∧ Hid (∀ j, j < k → 0 ≤ L j ∧ L j < n)) (fun i _ => 256 - (intOf i).toNat)
  case atStart => exact ⟨0, by omega, rfl, rfl, fun j hj => absurd hj (by omega)⟩
  case round =>
    obtain ⟨k, hk, rfl, rfl, HJ⟩ := hrel
    by_cases hlt : k < 256
    · have k0 : (0 : Int) ≤ (k : Int) := Int.natCast_nonneg k
      have k1 : (k : Int) < 256 := by omega
      have c1 := (r1.at0 k hlt).1
      by_cases q0 : L k < 0
      · go_wp2
        go_ret
        exact ⟨false, rfl, ⟨fun h => (by cases h), fun h => absurd (h k hlt).1 (by omega)⟩, g3⟩
      · by_cases q1 : n ≤ L k
        · have hno : ¬ InB L n := fun h => absurd (h k hlt).2 (by omega)
          go_wp2
          go_ret
          exact ⟨rfl, g3⟩
        · go_wp2
          refine ⟨⟨k + 1, by omega, by go_num, trivial, fun j hj => ?_⟩, by simp [intOf]; omega⟩
          rcases Nat.lt_or_ge j k with h1 | h1
          · exact HJ.out j h1
          · obtain rfl : j = k := by omega
            omega
    · have hk6 : k = 256 := by omega
      subst hk6
      go_wp2
      go_ret
      exact ⟨true, rfl, ⟨fun _ => HJ.out, fun _ => rfl⟩, g3⟩
/-- What the document's Compress makes of a coefficient, and its Decompress. -/
def rComp (d : Nat) (a : Int) : Int := (a * 2 ^ (d + 1) + 3329) / 6658 % 2 ^ d
def rDeco (d : Nat) (a : Int) : Int := (a * 3329 * 2 + 2 ^ d) / 2 ^ (d + 1)
theorem comp_facts (d : Nat) (hd : 1 ≤ d) (hd1 : d ≤ 11) (a : Int) (h0 : 0 ≤ a) (h1 : a < 3329) :
    ∃ t : Int, (2 : Int) ^ (d + 1) = 2 * t ∧ (2 : Int) ^ d = t ∧ 0 < t ∧ t ≤ 2048 ∧ 0 ≤ a * (2 * t) ∧ a * (2 * t) ≤ 13635584 := by
  have hd2 : d = 1 ∨ d = 2 ∨ d = 3 ∨ d = 4 ∨ d = 5 ∨ d = 6 ∨ d = 7 ∨ d = 8 ∨ d = 9 ∨ d = 10 ∨ d = 11 := by omega
  rcases hd2 with rfl | rfl | rfl | rfl | rfl | rfl | rfl | rfl | rfl | rfl | rfl
  · exact ⟨2, by decide, by decide, by decide, by decide, by omega, by omega⟩
  · exact ⟨4, by decide, by decide, by decide, by decide, by omega, by omega⟩
  · exact ⟨8, by decide, by decide, by decide, by decide, by omega, by omega⟩
  · exact ⟨16, by decide, by decide, by decide, by decide, by omega, by omega⟩
  · exact ⟨32, by decide, by decide, by decide, by decide, by omega, by omega⟩
  · exact ⟨64, by decide, by decide, by decide, by decide, by omega, by omega⟩
  · exact ⟨128, by decide, by decide, by decide, by decide, by omega, by omega⟩
  · exact ⟨256, by decide, by decide, by decide, by decide, by omega, by omega⟩
  · exact ⟨512, by decide, by decide, by decide, by decide, by omega, by omega⟩
  · exact ⟨1024, by decide, by decide, by decide, by decide, by omega, by omega⟩
  · exact ⟨2048, by decide, by decide, by decide, by decide, by omega, by omega⟩
theorem hidz {p : Prop} (h : p) : Hid p := h
theorem wrap_id (z : Int) (h0 : -9223372036854775808 ≤ z) (h1 : z ≤ 9223372036854775807) : wrap64 z = z := by unfold wrap64; omega
theorem comp_val (d : Nat) (y t : Int) (t1 : (2 : Int) ^ (d + 1) = 2 * t) (t2 : (2 : Int) ^ d = t) (_t3 : 0 < t) (_t4 : t ≤ 2048) (t5 : 0 ≤ y * (2 * t)) (t6 : y * (2 * t) ≤ 13635584) :
    (wrap64 ((wrap64 (wrap64 (y * (2 * t)) + 3329)).tdiv 6658)).tmod t = rComp d y := by
  unfold rComp
  rw [t1, t2]
  generalize y * (2 * t) = z at *
  rw [wrap_id z (by omega) (by omega), wrap_id (z + 3329) (by omega) (by omega), Int.tdiv_eq_ediv_of_nonneg (by omega), wrap_id _ (by omega) (by omega), Int.tmod_eq_emod_of_nonneg (by omega)]
set_option maxHeartbeats 2000000 in
set_option maxRecDepth 20000 in
theorem rcomp_any (d : Nat) (hd : 1 ≤ d) (hd1 : d ≤ 11) (L : Nat → Int) (hL : InB L 3329) (w : World) :
    Calls Tryz.prog 120 #[.int .i64 d, .agg (polyA .i64 L)] w fun e w' => e = .returned (.agg (polyA .i64 (fun j => rComp d (L j)))) ∧ w.grownBy w' none := by
  have n1 := new_alloc .i64 w L 43
  generalize hw1 : w.alloc (.cells (polyA .i64 L) 43) = w1 at n1
  have n2 := new_alloc .i64 w1 (fun _ => 0) 43
  rw [← Tryz.zY] at n2
  have s1 := n1.s
  have g3 : w.grownBy (w1.alloc (.cells Tryz.zeroCells43 43)) none := grownBy_trans n1.g n2.g
  have r1 := n1.r.new n2.g
  have r2 := n2.r
  rw [s1] at r2
  have HL : Hid (InB L 3329) := hL
  have d0 : (0 : Int) ≤ (d : Int) := Int.natCast_nonneg d
  have d1 : (d : Int) ≤ 11 := by omega
  clear hL
  go_enter Tryz.func120, Tryz.ntmps120
  go_wp2
  generalize (w.alloc (.cells (polyA .i64 L) 43)) = w9 at *
  subst hw1
  generalize w9.alloc (.cells Tryz.zeroCells43 43) = W3 at *
  clear n1 n2 s1
  go_loopw [5] (fun i wr => ∃ k : Nat, k ≤ 256 ∧ i = .int .i64 k ∧ w.grownBy wr none ∧ PRow .i64 wr w.heap.size 0 (fun j => if j < k then rComp d (L j) else L j) ∧ PRow .i64 wr (w.heap.size + 1) 0 (fun _ => 0)) (fun i _ => 256 - (intOf i).toNat)
  case atStart => exact ⟨0, by omega, rfl, g3, r1.ext (fun j _ => by simp), r2⟩
  case round =>
    clear g3 r1 r2
    obtain ⟨k, hk, rfl, hg, h1, h2⟩ := hrel
    by_cases hlt : k < 256
    · have k0 : (0 : Int) ≤ (k : Int) := Int.natCast_nonneg k
      have k1 : (k : Int) < 256 := by omega
      have c1 := (h1.at0 k hlt).1
      have c2 := (h1.at0 k hlt).2
      rw [if_neg (Nat.lt_irrefl k)] at c1
      obtain ⟨a0, a1⟩ := HL.out k hlt
      obtain ⟨t, t1, t2, t3, t4, t5, t6⟩ := comp_facts d hd hd1 (L k) a0 a1
      have HR : Hid (rComp d (L k) = (L k * (2 * t) + 3329) / 6658 % t) := by show rComp d (L k) = _; unfold rComp; rw [t1, t2]
      obtain ⟨y, hy⟩ : ∃ y, y = L k := ⟨_, rfl⟩
      rw [← hy] at c1 HR t5 t6
      have HY : Hid (y = L k) := hy
      have e1 : ((d : Int) + 1).toNat = d + 1 := by omega
      have HV := hidz (comp_val d y t t1 t2 t3 t4 t5 t6)
      clear hy a0 a1
      go_wp2
      go_region
      have r4 := (h1.set0 hlt (rComp d y)).drew
      have g4 := grown_drew (grown_setNew hg (p := ⟨w.heap.size, k, none⟩) (Nat.le_refl _) (.int .i64 (rComp d y)))
      have o4 := (h2.set_other (p := ⟨w.heap.size, k, none⟩) (by show w.heap.size ≠ w.heap.size + 1; omega) (.int .i64 (rComp d y))).drew
      first
        | rw [← HR.out]
        | rw [HV.out]
      generalize (wr.setCell ⟨w.heap.size, k, none⟩ (.int .i64 (rComp d y))).drew = W4 at *
      rw [HY.out] at r4
      clear c1 c2 t1 t2 HV HR
      go_wp2
      exact ⟨⟨k + 1, by omega, by go_num, g4, r4.ext (fun j _ => mix_step (fun j => rComp d (L j)) L k j), o4⟩, by simp [intOf]; omega⟩
    · have hk6 : k = 256 := by omega
      subst hk6
      have r3 : PRow .i64 wr w.heap.size 0 (fun j => rComp d (L j)) := h1.ext (fun j hj => by rw [if_pos hj])
      have ld := run_hidLd wr w.heap.size 0 _ r3
      have st := run_hidSt wr (w.heap.size + 1) (fun j => rComp d (L j)) _ h2
      have p6 := put_cells .i64 wr (w.heap.size + 1) 0 (fun j => rComp d (L j)) (h2.there .i64 _)
      clear h1 h2
      go_wp2
      refine bodyPost_ret (v := .agg (polyA .i64 (fun j => rComp d (L j)))) ?_ rfl ⟨rfl, grown_new hg p6.g (Nat.le_succ _)⟩
      exact res1 Tryz.results120 .i64 _ _ (w.heap.size + 1) _ rfl p6.r ⟨_, Tryz.uY⟩ Tryz.sY
end Go.Proofs.YtkijpphmiogbbaaGreatDoor.Z

namespace Go.Proofs.YtkijpphmiogbbaaGreatDoor.Z
open Go.RowKit
attribute [local go_sem ↓] Go.wp_at_zero Go.wp_at_succ
attribute [local go_sem ↓] ld_hide st_hide bs_hide ldA_hide stA_hide

theorem deco_facts (d : Nat) (hd : 1 ≤ d) (hd1 : d ≤ 11) (a : Int) (h0 : 0 ≤ a) (h1 : a < 2 ^ d) :
    ∃ t : Int, (2 : Int) ^ (d + 1) = 2 * t ∧ (2 : Int) ^ d = t ∧ 0 < t ∧ t ≤ 2048 ∧ 0 ≤ a ∧ a < 2048 := by
  have hd2 : d = 1 ∨ d = 2 ∨ d = 3 ∨ d = 4 ∨ d = 5 ∨ d = 6 ∨ d = 7 ∨ d = 8 ∨ d = 9 ∨ d = 10 ∨ d = 11 := by omega
  rcases hd2 with rfl | rfl | rfl | rfl | rfl | rfl | rfl | rfl | rfl | rfl | rfl
  · exact ⟨2, by decide, by decide, by decide, by decide, h0, by have e : (2 : Int) ^ 1 = 2 := (by decide); omega⟩
  · exact ⟨4, by decide, by decide, by decide, by decide, h0, by have e : (2 : Int) ^ 2 = 4 := (by decide); omega⟩
  · exact ⟨8, by decide, by decide, by decide, by decide, h0, by have e : (2 : Int) ^ 3 = 8 := (by decide); omega⟩
  · exact ⟨16, by decide, by decide, by decide, by decide, h0, by have e : (2 : Int) ^ 4 = 16 := (by decide); omega⟩
  · exact ⟨32, by decide, by decide, by decide, by decide, h0, by have e : (2 : Int) ^ 5 = 32 := (by decide); omega⟩
  · exact ⟨64, by decide, by decide, by decide, by decide, h0, by have e : (2 : Int) ^ 6 = 64 := (by decide); omega⟩
  · exact ⟨128, by decide, by decide, by decide, by decide, h0, by have e : (2 : Int) ^ 7 = 128 := (by decide); omega⟩
  · exact ⟨256, by decide, by decide, by decide, by decide, h0, by have e : (2 : Int) ^ 8 = 256 := (by decide); omega⟩
  · exact ⟨512, by decide, by decide, by decide, by decide, h0, by have e : (2 : Int) ^ 9 = 512 := (by decide); omega⟩
  · exact ⟨1024, by decide, by decide, by decide, by decide, h0, by have e : (2 : Int) ^ 10 = 1024 := (by decide); omega⟩
  · exact ⟨2048, by decide, by decide, by decide, by decide, h0, by have e : (2 : Int) ^ 11 = 2048 := (by decide); omega⟩
set_option maxHeartbeats 2000000 in
set_option maxRecDepth 20000 in
theorem rdeco_any (d : Nat) (hd : 1 ≤ d) (hd1 : d ≤ 11) (L : Nat → Int) (hL : InB L (2 ^ d)) (w : World) :
    Calls Tryz.prog 121 #[.int .i64 d, .agg (polyA .i64 L)] w fun e w' => e = .returned (.agg (polyA .i64 (fun j => rDeco d (L j)))) ∧ w.grownBy w' none := by
  have n1 := new_alloc .i64 w L 43
  generalize hw1 : w.alloc (.cells (polyA .i64 L) 43) = w1 at n1
  have n2 := new_alloc .i64 w1 (fun _ => 0) 43
  rw [← Tryz.zY] at n2
  have s1 := n1.s
  have g3 : w.grownBy (w1.alloc (.cells Tryz.zeroCells43 43)) none := grownBy_trans n1.g n2.g
  have r1 := n1.r.new n2.g
  have r2 := n2.r
  rw [s1] at r2
  have HL : Hid (InB L (2 ^ d)) := hL
  have d0 : (0 : Int) ≤ (d : Int) := Int.natCast_nonneg d
  have d1 : (d : Int) ≤ 11 := by omega
  clear hL
  go_enter Tryz.func121, Tryz.ntmps121
  go_wp2
  generalize (w.alloc (.cells (polyA .i64 L) 43)) = w9 at *
  subst hw1
  generalize w9.alloc (.cells Tryz.zeroCells43 43) = W3 at *
  clear n1 n2 s1
  go_loopw [5] (fun i wr => ∃ k : Nat, k ≤ 256 ∧ i = .int .i64 k ∧ w.grownBy wr none ∧ PRow .i64 wr w.heap.size 0 (fun j => if j < k then rDeco d (L j) else L j) ∧ PRow .i64 wr (w.heap.size + 1) 0 (fun _ => 0)) (fun i _ => 256 - (intOf i).toNat)
  case atStart => exact ⟨0, by omega, rfl, g3, r1.ext (fun j _ => by simp), r2⟩
  case round =>
    clear g3 r1 r2
    obtain ⟨k, hk, rfl, hg, h1, h2⟩ := hrel
    by_cases hlt : k < 256
    · have k0 : (0 : Int) ≤ (k : Int) := Int.natCast_nonneg k
      have k1 : (k : Int) < 256 := by omega
      have c1 := (h1.at0 k hlt).1
      have c2 := (h1.at0 k hlt).2
      rw [if_neg (Nat.lt_irrefl k)] at c1
      obtain ⟨a0, a1⟩ := HL.out k hlt
      obtain ⟨t, t1, t2, t3, t4, t5, t6⟩ := deco_facts d hd hd1 (L k) a0 a1
      have HR : Hid (rDeco d (L k) = (L k * 3329 * 2 + t) / (2 * t)) := by show rDeco d (L k) = _; unfold rDeco; rw [t1, t2]
      obtain ⟨y, hy⟩ : ∃ y, y = L k := ⟨_, rfl⟩
      rw [← hy] at c1 HR t5 t6
      have HY : Hid (y = L k) := hy
      have e1 : ((d : Int) + 1).toNat = d + 1 := by omega
      clear hy a0 a1
      go_wp2
      go_region
      have r4 := (h1.set0 hlt (rDeco d y)).drew
      have g4 := grown_drew (grown_setNew hg (p := ⟨w.heap.size, k, none⟩) (Nat.le_refl _) (.int .i64 (rDeco d y)))
      have o4 := (h2.set_other (p := ⟨w.heap.size, k, none⟩) (by show w.heap.size ≠ w.heap.size + 1; omega) (.int .i64 (rDeco d y))).drew
      rw [← HR.out]
      generalize (wr.setCell ⟨w.heap.size, k, none⟩ (.int .i64 (rDeco d y))).drew = W4 at *
      rw [HY.out] at r4
      clear c1 c2 t1 t2 HR
      go_wp2
      exact ⟨⟨k + 1, by omega, by go_num, g4, r4.ext (fun j _ => mix_step (fun j => rDeco d (L j)) L k j), o4⟩, by simp [intOf]; omega⟩
    · have hk6 : k = 256 := by omega
      subst hk6
      have r3 : PRow .i64 wr w.heap.size 0 (fun j => rDeco d (L j)) := h1.ext (fun j hj => by rw [if_pos hj])
      have ld := run_hidLd wr w.heap.size 0 _ r3
      have st := run_hidSt wr (w.heap.size + 1) (fun j => rDeco d (L j)) _ h2
      have p6 := put_cells .i64 wr (w.heap.size + 1) 0 (fun j => rDeco d (L j)) (h2.there .i64 _)
      clear h1 h2
      go_wp2
      refine bodyPost_ret (v := .agg (polyA .i64 (fun j => rDeco d (L j)))) ?_ rfl ⟨rfl, grown_new hg p6.g (Nat.le_succ _)⟩
      exact res1 Tryz.results121 .i64 _ _ (w.heap.size + 1) _ rfl p6.r ⟨_, Tryz.uY⟩ Tryz.sY
end Go.Proofs.YtkijpphmiogbbaaGreatDoor.Z
