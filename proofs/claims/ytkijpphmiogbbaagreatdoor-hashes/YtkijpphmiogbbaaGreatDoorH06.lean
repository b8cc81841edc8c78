import Derived.Test.YtkijpphmiogbbaaGreatDoorH05
namespace Go.Proofs.YtkijpphmiogbbaaGreatDoor.Z
open Go.RowKit
attribute [local go_sem ↓] Go.wp_at_zero Go.wp_at_succ
variable {X : Side} {B c : Nat} {vT vP : Value} {vS : SV} {ts : List ByteArray} {nP : Nat} {ps : List Value} {Φ : Nat → Prop} {w : World}

theorem Tryz.uStrs : Tryz.prog.underlying 30 = some (.slice 9) := by kernel_rfl
theorem Tryz.iStr : (Tryz.prog.info? 9).map (fun i => (i.zero, i.size, i.bytes)) = some (some (.string ByteArray.empty), 1, 16) := by kernel_rfl
theorem info_of {P : Program} {t : TypeId} {x : Option Value × Nat × Nat} (h : (P.info? t).map (fun i => (i.zero, i.size, i.bytes)) = some x) : ∃ i, P.info? t = some i ∧ i.zero = x.1 ∧ i.size = x.2.1 ∧ i.bytes = x.2.2 := by
  cases hi : P.info? t with
  | none => rw [hi] at h; cases h
  | some i =>
    rw [hi] at h
    simp only [Option.map_some, Option.some.injEq] at h
    subst h
    exact ⟨i, rfl, rfl, rfl, rfl⟩
theorem ownsRow_succ {W : World} {base : Nat} {e : TypeId} {size : Nat} {v : Value} {k : Nat} {xs : List Value} (h : W.ownsRow base e size v (k + 1) xs) : ∃ g cap, v = .slice (some ⟨g, 0, none⟩) (k + 1) cap := by
  rcases h.2 with ⟨_, h0⟩ | ⟨g, cap, cur, rfl, _⟩
  · omega
  · exact ⟨g, cap, rfl⟩
set_option maxHeartbeats 1000000 in
theorem add_any (hX : X.Local) (hc : c ≤ 40000) (s : ByteArray) (h : SWd X B c vT vP vS ts nP ps Φ w) (hs : s.size ≤ 9223372036854775807) :
    Calls Tryz.prog 21 #[.pointer (some ⟨B, 0, none⟩), .string s] w fun e w' => e = .returned (.tuple #[]) ∧ SW X B (c + 1) w' := by
  have c0 := h.c0
  have hn := h.nT
  by_cases hz : s.size ≤ 20000
  · obtain ⟨i0, hi, hz0, hz1, hz2⟩ := info_of Tryz.iStr
    have z1 : (s.size : Int) ≤ 20000 := by omega
    have HO : Hid (w.ownsRow 0 9 1 vT ts.length (ts.map Value.string)) := h.own
    have HI : Hid (Tryz.prog.info? 9 = some i0) := hi
    have hfz := h.fz 0
    clear hi
    go_enter Tryz.func21, Tryz.ntmps21
    go_wp2_with (first | (at_builtin; refine wpList_append_own_at _ rfl _ _ 30 rfl 0 9 i0 (.string ByteArray.empty) 1 16 Tryz.uStrs HI.out hz0 hz1 hz2 rfl (by decide) vT ts.length (ts.map Value.string) rfl (HO.out.alloc _) ⟨_, 0, none⟩ 1 1 [.string s] rfl rfl ?c1 ?c2 ?c3 ?c4 ?c5 ?_))
    case c2 => rfl
    case c3 => unfold maxLen; omega
    case c4 => omega
    intro v' w2 ho hg2 _ hb
    have hTB := own_ne h.own h.blk (by decide)
    have d0 : w2.cell? ⟨B, 0, none⟩ = some vT := hg2.cell ((World.grownBy_alloc w _ none).cell c0 (by simp)) (Ne.symm hTB)
    have df : w2.frozen? ⟨B, 0, none⟩ = false := by rw [hg2.frozen_far ⟨B, 0, none⟩ (Nat.lt_of_lt_of_le h.Blt (World.grownBy_alloc w _ none).size) (Ne.symm hTB), (World.grownBy_alloc w _ none).frozen_far ⟨B, 0, none⟩ h.Blt (by simp)]; exact hfz
    have hF := h.setT hX hz (World.grownBy_alloc w _ none) (by rw [List.map_append]; exact ho) hg2 (by simpa using hb)
    obtain ⟨g9, cap9, hv9⟩ := ownsRow_succ ho
    subst hv9
    have HF : Hid (SW X B (c + 1) (w2.setCell ⟨B, 0, none⟩ (.slice (some ⟨g9, 0, none⟩) (ts.length + 1) cap9))) := ⟨_, _, _, _, _, _, _, hF⟩
    clear ho hg2 hb c0 hfz hF h HO HI hTB
    go_wp2
    go_end0
    exact ⟨rfl, HF.out⟩
  · have z1 : ¬ (s.size : Int) ≤ 20000 := by omega
    have z2 : (s.size : Int) ≤ 9223372036854775807 := by omega
    go_enter Tryz.func21, Tryz.ntmps21
    go_wp2
    go_end0
    exact ⟨rfl, SW.more hX ⟨vT, vP, vS, ts, nP, ps, Φ, h⟩ (Nat.le_succ c)⟩

/-- A step lies in block b. -/
structure OpAt (W : World) (g : Nat) (o : OpV) : Prop where
  kind : W.cell? ⟨g, 0, none⟩ = some (.int .i64 o.kind)
  x : W.cell? ⟨g, 1, none⟩ = some (.int .i64 o.x)
  y : W.cell? ⟨g, 2, none⟩ = some (.int .i64 o.y)
  z : W.cell? ⟨g, 3, none⟩ = some (.int .i64 o.z)
  w : W.cell? ⟨g, 4, none⟩ = some (.int .i64 o.w)
  a : W.cell? ⟨g, 5, none⟩ = some (.int .i64 o.a)
  b : W.cell? ⟨g, 6, none⟩ = some (.int .i64 o.b)
  s : W.cell? ⟨g, 7, none⟩ = some (.string o.s)
abbrev opBox (w : World) (o : OpV) : World := w.alloc (.cells #[.int .i64 o.kind, .int .i64 o.x, .int .i64 o.y, .int .i64 o.z, .int .i64 o.w, .int .i64 o.a, .int .i64 o.b, .string o.s] 28)
theorem opAt_new (w : World) (o : OpV) : OpAt (opBox w o) w.heap.size o := by
  constructor <;> rw [World.cell?_alloc_new] <;> rfl
theorem OpAt.far {w w' : World} {b : Nat} {o : OpV} {r : Option Nat} (h : OpAt w b o) (hg : w.grownBy w' r) (hr : some b ≠ r) : OpAt w' b o :=
  ⟨hg.cell h.kind hr, hg.cell h.x hr, hg.cell h.y hr, hg.cell h.z hr, hg.cell h.w hr, hg.cell h.a hr, hg.cell h.b hr, hg.cell h.s hr⟩
set_option maxHeartbeats 1000000 in
theorem looks_nil (h : SWd X B c vT vP vS ts nP ps Φ w) (hl : vS.l = .slice none 0 0) :
    Calls Tryz.prog 19 #[.pointer (some ⟨B, 0, none⟩)] w fun e w' => e = .returned (.bool true) ∧ w.grownBy w' none := by
  have c3 := h.c3
  rw [hl] at c3
  clear h
  go_enter Tryz.func19, Tryz.ntmps19
  go_wp2
  refine wp_loop_rounds 1 ?_
  rw [rounds_succ]
  go_wp2
  go_ret
  exact ⟨rfl, World.grownBy.refl _ _⟩
set_option maxHeartbeats 2000000 in
theorem heavy_any (hX : X.Local) (hc : c ≤ 40000) (o : OpV) (ho : OpOK o) (hk : o.kind < 1) (h : SW X B c w) :
    Calls Tryz.prog 18 #[.pointer (some ⟨B, 0, none⟩), opVal o] w fun e w' => e = .returned (.bool true) ∧ SW X B c w' := by
  have hk0 := ho.kind.1
  go_enter Tryz.func18, Tryz.ntmps18
  go_wp2_with fail
  obtain ⟨vT, vP, vS, ts, nP, ps, Φ, h⟩ := h
  have hO := opAt_new w o
  have h1 : SWd X B c vT vP vS ts nP ps Φ (opBox w o) := h.keep hX (World.grownBy_alloc w _ none)
  refine (text_any hc _ ho.x h1).mono ?_
  rintro e w1 ⟨t1, rfl, ht1, hg1⟩
  have h2 := h1.keep hX hg1
  have hO1 := hO.far hg1 (by simp)
  have b1 : w.heap.size < w1.heap.size := Nat.lt_of_lt_of_le (by simp) hg1.size
  generalize w.heap.size = b at *
  clear h h1 hO hg1 ht1
  have q := hO1.y
  go_wp2_with fail
  refine (text_any hc _ ho.y h2).mono ?_
  rintro e w2 ⟨t2, rfl, ht2, hg2⟩
  have h3 := h2.keep hX hg2
  have hO2 := hO1.far hg2 (by simp)
  clear q h2 hO1 hg2 ht2
  have q := hO2.z
  go_wp2_with fail
  refine (text_any hc _ ho.z h3).mono ?_
  rintro e w3 ⟨t3, rfl, ht3, hg3⟩
  have h4 := h3.keep hX hg3
  have hO3 := hO2.far hg3 (by simp)
  clear q h3 hO2 hg3 ht3
  have q := hO3.w
  go_wp2_with fail
  refine (text_any hc _ ho.w h4).mono ?_
  rintro e w4 ⟨t4, rfl, ht4, hg4⟩
  have h5 := h4.keep hX hg4
  have hO4 := hO3.far hg4 (by simp)
  clear q h4 hO3 hg4 ht4
  have q := hO4.kind
  have k15 : (o.kind == 15) = false := by simp; omega
  have k16 : (o.kind == 16) = false := by simp; omega
  have k17 : (o.kind == 17) = false := by simp; omega
  have k23 : (o.kind == 23) = false := by simp; omega
  have k24 : (o.kind == 24) = false := by simp; omega
  have k25 : (o.kind == 25) = false := by simp; omega
  have k26 : (o.kind == 26) = false := by simp; omega
  have k27 : (o.kind == 27) = false := by simp; omega
  go_wp2
  go_ret
  exact ⟨rfl, _, _, _, _, _, _, _, h5⟩
end Go.Proofs.YtkijpphmiogbbaaGreatDoor.Z
