import Derived.Test.YtkijpphmiogbbaaGreatDoorM48
import Derived.Test.YtkijpphmiogbbaaGreatDoorRows
import GoSem.ClaimGoes
namespace Go.Proofs.YtkijpphmiogbbaaGreatDoor.Z
open Go.RowKit
attribute [local go_sem ↓] Go.wp_at_zero Go.wp_at_succ
variable {X : Side} {B c : Nat} {w : World}

theorem ini_wrap (z : Int) : InI (IntKind.i64.wrap z) := by
  rw [IntKind.wrap_i64]; unfold InI; omega
theorem rowsL_succ (Ls : Nat → Nat → Int) (n : Nat) (M : Nat → Int) : rowsL (fun s => if s = n then M else Ls s) (n + 1) = rowsL Ls n ++ polyL .i64 M := by
  unfold rowsL
  rw [List.range_succ, List.flatMap_append]
  congr 1
  · simp only [List.flatMap]
    congr 1
    refine List.map_congr_left (fun s hs => ?_)
    have := List.mem_range.1 hs
    simp [show s ≠ n by omega]
  · simp
theorem grown_ownZ {w w1 w2 : World} {v : Value} (g1 : w.grownBy w1 none) (g2 : w1.grownBy w2 v.ownBlock) (hb : ∀ b, v.ownBlock = some b → w.heap.size ≤ b) : w.grownBy w2 none :=
  ⟨g2.os.trans g1.os, g2.tape.trans g1.tape, g2.output.trans g1.output, Nat.le_trans g1.size g2.size, fun k hk hr => (g2.block k (Nat.lt_of_lt_of_le hk g1.size) (fun e => by have := hb k e.symm; omega)).trans (g1.block k hk hr)⟩
/-- A list that was put together, read as rows. -/
theorem own_list {W : World} {base n : Nat} {v : Value} {Ls : Nat → Nat → Int} (h : W.ownsRow base 43 256 v n (rowsL Ls n)) : ∃ (a : Option Addr) (b cp : Nat), v = .slice a n cp ∧ (0 < n → a = some ⟨b, 0, none⟩) ∧ ∀ k, k < n → PRow .i64 W b (256 * k) (Ls k) := by
  have h0 := h
  rcases h.2 with ⟨rfl, hn⟩ | ⟨g, cap, cur, rfl, _, hg, _⟩
  · exact ⟨none, 0, 0, by rw [hn], fun h => by omega, fun k hk => by omega⟩
  · refine ⟨some ⟨g, 0, none⟩, g, cap, rfl, fun _ => rfl, fun k hk i hi => ⟨?_, by simp [World.frozen?, hg]⟩⟩
    have hc := h0.cells (g := g) rfl (256 * k + i) _ (rowsL_at Ls n k i hk hi)
    rwa [Addr.add_lit, Nat.zero_add] at hc
attribute [local go_sem ↓] bs_hide
theorem zszY : (Value.agg (polyA .i64 (fun _ => 0))).cells.size = 256 := by simp [Value.cells, polyA_size]
set_option maxHeartbeats 4000000 in
set_option maxRecDepth 20000 in
theorem ring_22 {w0 : World} (hX : (XP B w0).Local) (HE : Hid (∀ W c, SW (XP B w0) B c W → Et W)) (hc : c ≤ 40000) (o : OpV) (ho : OpOK o) (hk : Hid (o.kind = 22)) (h : SW (XP B w0) B c w) :
    Calls Tryz.prog 17 #[.pointer (some ⟨B, 0, none⟩), opVal o] w fun e w' => e = .returned (.bool true) ∧ SW (XP B w0) B (c + 2) w' := by
  go_enter Tryz.func17, Tryz.ntmps17
  go_wp2_with fail
  obtain ⟨vT, vP, vS, ts, nP, ps, Φ, h⟩ := h
  have hO := opAt_new w o
  have h1 : SWd (XP B w0) B c vT vP vS ts nP ps Φ (opBox w o) := h.keep hX (World.grownBy_alloc w _ none)
  refine (poly_any hX hc _ ho.x h1).mono ?_
  rintro e w1 ⟨F, rfl, hF, hg1⟩
  have h2 := h1.keep hX hg1
  have hO1 := hO.far hg1 (by simp)
  have blt : w.heap.size < w1.heap.size := Nat.lt_of_lt_of_le (by simp) hg1.size
  generalize w.heap.size = b at *
  clear h h1 hO hg1
  have n1 := new_alloc .i64 w1 (fun _ => 0) 43
  rw [← Tryz.zY] at n1
  go_wp2_with (first | (refine wpL_store rfl .i64 43 _ _ rfl w1.heap.size 0 rfl _ rfl .i64 _ n1.r Tryz.sY ?_; intro w2 p2; have g2 := grown_new n1.g p2.g (Nat.le_refl _); have hO2 := hO1.far g2 (by simp); have qy := hO2.y; clear hO1))
  have h3 := h2.keep hX g2
  refine (poly_any hX hc _ ho.y h3).mono ?_
  rintro e w3 ⟨G, rfl, hG, hg3⟩
  have h4 := h3.keep hX hg3
  have hO3 := hO2.far hg3 (by simp)
  have rF := p2.r.new hg3
  have lF := rF.lt
  obtain ⟨p, hp⟩ : ∃ p, p = w1.heap.size := ⟨_, rfl⟩
  rw [← hp] at rF lF blt ⊢
  clear hp n1 p2 g2 qy h2 h3 hO2 hg3
  have n4 := new_alloc .i64 w3 (fun _ => 0) 43
  rw [← Tryz.zY] at n4
  have rF4 := rF.new n4.g
  have hO4 := hO3.far n4.g (by simp)
  go_wp2_with (first | (refine wpL_store rfl .i64 43 _ _ rfl w3.heap.size 0 rfl _ rfl .i64 _ n4.r Tryz.sY ?_; intro w4 p4; have s4 := p4.s; rw [n4.s] at s4; have n5 := new_alloc .i64 w4 (fun _ => 0) 43; rw [← Tryz.zY] at n5; have z5 := n5.r; rw [s4] at z5; have rF5 := (rF4.far p4.g (by simp; omega)).new n5.g; have rG5 := p4.r.new n5.g; have hO5 := (hO4.far p4.g (by simp; omega)).far n5.g (by simp); have g5 := grownBy_trans (grown_new n4.g p4.g (Nat.le_refl _)) n5.g) | (refine wpL_store rfl .i64 43 _ _ rfl (w3.heap.size + 1) 0 rfl _ (congrArg Value.agg Tryz.zY) .i64 _ z5 Tryz.sY ?_; intro w6 p6; have ri : Rin w6 b p w3.heap.size (w3.heap.size + 1) o F G := ⟨hO5.far p6.g (by simp; omega), rF5.far p6.g (by simp; omega), rG5.far p6.g (by simp), p6.r, blt, lF, Nat.lt_succ_self _⟩; have g6 := grown_new g5 p6.g (by omega); have qk := ri.op.kind; rw [hk.out] at qk; have qx := ri.op.x))
  have h6 := h4.keep hX g6
  have HSS : Hid (∀ W M, w6.grownBy W none → SWd (XP B w0) B c vT vP vS ts nP ps Φ (W.setCells (w3.heap.size + 1) 0 (polyA .i64 M).toList) ∧ PRow .i64 (W.setCells (w3.heap.size + 1) 0 (polyA .i64 M).toList) (w3.heap.size + 1) 0 M) := fun W M hg => by
    have p9 := put_cells .i64 W (w3.heap.size + 1) 0 M ((ri.h.new hg).there .i64 _)
    exact ⟨h4.keep hX (grown_new (grownBy_trans g6 hg) p9.g (by omega)), p9.r⟩
  obtain ⟨q, hq⟩ : ∃ q, q = w3.heap.size := ⟨_, rfl⟩
  rw [← hq] at ri HSS ⊢
  clear hq rF hO3 n4 rF4 hO4 p4 s4 n5 z5 rF5 rG5 hO5 g5 p6 g6 h4
  refine (text_any hc _ ho.x h6).mono ?_
  rintro e w7 ⟨t, rfl, ht, hg7⟩
  have h7 := h6.keep hX hg7
  have r7 := ri.new hg7
  clear qk qx h6 ri HSS
  have qa := r7.op.a
  have hE7 : Et w7 := HE.out w7 c ⟨_, _, _, _, _, _, _, h7⟩
  have HC := hunpacked_law o.a t w7 hE7 ht
  go_wp2_with fail
  refine HC.mono ?_
  rintro e w8 ⟨hl, y8⟩
  have h8 := h7.keep hX y8
  clear HC qa hE7 HE hg7 r7
  rcases hl with rfl | ⟨N, k, Rs, k0, k8, rfl, lN, rs⟩
  · clear h7 y8
    go_wp2_with fail
    refine (keep_none h8 hc).mono ?_
    rintro e w9 ⟨rfl, h9⟩
    have HF : Hid (SW (XP B w0) B (c + 1) w9) := h9
    clear h8 h9
    go_wp2
    go_ret
    exact ⟨rfl, SW.more hX HF.out (by omega)⟩
  · have fl : B < N ∧ vT.ownBlock ≠ some N ∧ vP.ownBlock ≠ some N ∧ vS.l.ownBlock ≠ some N ∧ vS.k.ownBlock ≠ some N ∧ ¬ Φ N := by
      obtain ⟨m, es, hx⟩ := h7.side
      have hB := h7.Blt
      exact ⟨by omega, fun e => by have := (h7.own.lt N e).2; omega, fun e => by have := (h7.ownP.lt N e).2; omega, fun e => by have := (hx.ownL.lt N e).2; omega, fun e => by have := (hx.ownK.lt N e).2; omega, fun e => by have := h7.lt N e; omega⟩
    have HK : Hid (∀ s, s < k → PRow .i64 w8 N (256 * s) (Rs s)) := rs
    clear h7 y8 lN rs
    go_wp2_with fail
    refine (keep_some h8 hc N k Rs k0 k8 HK.out fl).mono ?_
    rintro e w9 ⟨rfl, h9⟩
    have HF : Hid (SW (XP B w0) B (c + 1) w9) := h9
    clear h8 h9 fl HK
    go_wp2
    go_ret
    exact ⟨rfl, SW.more hX HF.out (by omega)⟩
set_option maxHeartbeats 4000000 in
set_option maxRecDepth 20000 in
theorem ring_21 (hX : X.Local) (HE : Hid (∀ W c, SW X B c W → Et W)) (hc : c ≤ 40000) (o : OpV) (ho : OpOK o) (hk : Hid (o.kind = 21)) (h : SW X B c w) :
    Calls Tryz.prog 17 #[.pointer (some ⟨B, 0, none⟩), opVal o] w fun e w' => e = .returned (.bool true) ∧ SW X B (c + 2) w' := by
  go_enter Tryz.func17, Tryz.ntmps17
  go_wp2_with fail
  obtain ⟨vT, vP, vS, ts, nP, ps, Φ, h⟩ := h
  have hO := opAt_new w o
  have h1 : SWd X B c vT vP vS ts nP ps Φ (opBox w o) := h.keep hX (World.grownBy_alloc w _ none)
  refine (poly_any hX hc _ ho.x h1).mono ?_
  rintro e w1 ⟨F, rfl, hF, hg1⟩
  have h2 := h1.keep hX hg1
  have hO1 := hO.far hg1 (by simp)
  have blt : w.heap.size < w1.heap.size := Nat.lt_of_lt_of_le (by simp) hg1.size
  generalize w.heap.size = b at *
  clear h h1 hO hg1
  have n1 := new_alloc .i64 w1 (fun _ => 0) 43
  rw [← Tryz.zY] at n1
  go_wp2_with (first | (refine wpL_store rfl .i64 43 _ _ rfl w1.heap.size 0 rfl _ rfl .i64 _ n1.r Tryz.sY ?_; intro w2 p2; have g2 := grown_new n1.g p2.g (Nat.le_refl _); have hO2 := hO1.far g2 (by simp); have qy := hO2.y; clear hO1))
  have h3 := h2.keep hX g2
  refine (poly_any hX hc _ ho.y h3).mono ?_
  rintro e w3 ⟨G, rfl, hG, hg3⟩
  have h4 := h3.keep hX hg3
  have hO3 := hO2.far hg3 (by simp)
  have rF := p2.r.new hg3
  have lF := rF.lt
  obtain ⟨p, hp⟩ : ∃ p, p = w1.heap.size := ⟨_, rfl⟩
  rw [← hp] at rF lF blt ⊢
  clear hp n1 p2 g2 qy h2 h3 hO2 hg3
  have n4 := new_alloc .i64 w3 (fun _ => 0) 43
  rw [← Tryz.zY] at n4
  have rF4 := rF.new n4.g
  have hO4 := hO3.far n4.g (by simp)
  go_wp2_with (first | (refine wpL_store rfl .i64 43 _ _ rfl w3.heap.size 0 rfl _ rfl .i64 _ n4.r Tryz.sY ?_; intro w4 p4; have s4 := p4.s; rw [n4.s] at s4; have n5 := new_alloc .i64 w4 (fun _ => 0) 43; rw [← Tryz.zY] at n5; have z5 := n5.r; rw [s4] at z5; have rF5 := (rF4.far p4.g (by simp; omega)).new n5.g; have rG5 := p4.r.new n5.g; have hO5 := (hO4.far p4.g (by simp; omega)).far n5.g (by simp); have g5 := grownBy_trans (grown_new n4.g p4.g (Nat.le_refl _)) n5.g) | (refine wpL_store rfl .i64 43 _ _ rfl (w3.heap.size + 1) 0 rfl _ (congrArg Value.agg Tryz.zY) .i64 _ z5 Tryz.sY ?_; intro w6 p6; have ri : Rin w6 b p w3.heap.size (w3.heap.size + 1) o F G := ⟨hO5.far p6.g (by simp; omega), rF5.far p6.g (by simp; omega), rG5.far p6.g (by simp), p6.r, blt, lF, Nat.lt_succ_self _⟩; have g6 := grown_new g5 p6.g (by omega); have qk := ri.op.kind; rw [hk.out] at qk; have qb := ri.op.b))
  have h6 := h4.keep hX g6
  have HSS : Hid (∀ W M, w6.grownBy W none → SWd X B c vT vP vS ts nP ps Φ (W.setCells (w3.heap.size + 1) 0 (polyA .i64 M).toList) ∧ PRow .i64 (W.setCells (w3.heap.size + 1) 0 (polyA .i64 M).toList) (w3.heap.size + 1) 0 M) := fun W M hg => by
    have p9 := put_cells .i64 W (w3.heap.size + 1) 0 M ((ri.h.new hg).there .i64 _)
    exact ⟨h4.keep hX (grown_new (grownBy_trans g6 hg) p9.g (by omega)), p9.r⟩
  obtain ⟨q, hq⟩ : ∃ q, q = w3.heap.size := ⟨_, rfl⟩
  rw [← hq] at ri HSS ⊢
  clear hq rF hO3 n4 rF4 hO4 p4 s4 n5 z5 rF5 rG5 hO5 g5 p6 g6 h4
  clear HSS
  refine (pick_any _ _ _ ho.b (by omega) (by omega)).mono ?_
  rintro e w' ⟨n, hn, rfl, hw⟩
  rw [hw]
  clear hw w' qb qk
  have n9 : (n : Int) ≤ 9 := by omega
  have hX1 := ho.x
  have HR : Hid (SWd X B c vT vP vS ts nP ps Φ w6 ∧ Rin w6 b p q (q + 1) o F G) := ⟨h6, ri⟩
  clear h6 ri
  obtain ⟨i0, hi, hz0, hz1, hz2⟩ := info_of Tryz.infoY
  simp only at hz0 hz1 hz2
  have HI : Hid (Tryz.prog.info? 43 = some i0) := hi
  clear hi
  go_wp2
  go_loopw [12, 14, 15] (fun v i _ wr => ∃ (k : Nat) (Ls : Nat → Nat → Int), k ≤ n ∧ i = .int .i64 k ∧ w6.grownBy wr none ∧ Hid (wr.ownsRow w6.heap.size 43 256 v k (rowsL Ls k))) (fun _ i _ _ => n - (intOf i).toNat)
  case atStart => exact ⟨0, fun _ _ => 0, by omega, rfl, World.grownBy.refl _ _, World.ownsRow_nil _ _ _ _⟩
  case round =>
    obtain ⟨k, Ls, hk, rfl, hg, HO⟩ := hrel
    by_cases hlt : k < n
    · have a1 : (k : Int) < (n : Int) := by omega
      have qx := (HR.out.2.new hg).op.x
      have hS := HR.out.1.keep hX hg
      obtain ⟨z, hz⟩ : ∃ z, z = IntKind.i64.wrap (o.x + (k : Int)) := ⟨_, rfl⟩
      have hzi : InI z := by rw [hz]; exact ini_wrap _
      have hz2b : wrap64 (o.x + (k : Int)) = z := by unfold wrap64; rw [hz, IntKind.wrap_i64]
      have hz3 := hz.symm
      clear hz
      go_wp2_with fail
      refine (poly_any hX hc _ hzi hS).mono ?_
      rintro e w7 ⟨L, rfl, hL, y7⟩
      have g7 := grownBy_trans hg y7
      clear hS qx hz2b hz3 hzi
      have n8 := new_alloc .i64 w7 (fun _ => 0) 43
      rw [← Tryz.zY] at n8
      have HO7 : Hid (w7.ownsRow w6.heap.size 43 256 u12 k (rowsL Ls k)) := HO.out.kept y7 (by cases hv : u12.ownBlock <;> simp)
      have bb : ∀ b, u12.ownBlock = some b → w6.heap.size ≤ b ∧ b < w7.heap.size := fun b hb => ⟨(HO.out.lt b hb).1, Nat.lt_of_lt_of_le (HO.out.lt b hb).2 y7.size⟩
      clear HO y7 hg
      have bs := fun W => run_hidBS L W
      have hlen : (polyL .i64 L).length = 1 * 256 := by rw [polyL_len]
      go_wp2_with (first | (refine wpL_store rfl .i64 43 _ _ rfl w7.heap.size 0 rfl _ rfl .i64 _ n8.r Tryz.sY ?_; intro w8 p8; have r8 := p8.r; have g8 := grown_new (grownBy_trans g7 n8.g) p8.g (Nat.le_trans g7.size (Nat.le_refl _)); have HO8 : Hid (w8.ownsRow w6.heap.size 43 256 u12 k (rowsL Ls k)) := (HO7.out.kept n8.g (by cases hv : u12.ownBlock <;> simp)).kept p8.g (Or.inr (fun e => by have := (bb _ e).2; omega)); have news : Hid (∀ j u, (polyL .i64 L)[j]? = some u → (w8.alloc (.cells (polyA .i64 L) 43)).cell? ((⟨w8.heap.size, 0, none⟩ : Addr).add j) = some u) := (fun j u hu => by rw [Addr.add_lit, Nat.zero_add, World.cell?_alloc_new]; unfold polyA; rw [List.getElem?_toArray]; exact hu)) | (refine wpL_load rfl .i64 43 _ rfl w7.heap.size 0 rfl L r8 ⟨_, Tryz.uY⟩ Tryz.sY ?_) | (at_builtin; refine wpList_append_own_at _ rfl _ _ 31 rfl w6.heap.size 43 i0 _ 256 2048 Tryz.uYs HI.out hz0 hz1 hz2 zszY (by decide) u12 k (rowsL Ls k) rfl (HO8.out.alloc _) ⟨_, 0, none⟩ 1 1 (polyL .i64 L) rfl hlen news.out (polyL_one L) ?c3 ?c4 ?c5 ?_))
      case c3 => unfold maxLen; omega
      case c4 => omega
      case c5 => have := g8.size; simp; omega
      intro v' w9 o9 g9 _ _
      have gA := grownBy_trans g8 (World.grownBy_alloc w8 (.cells (polyA .i64 L) 43) none)
      have gB := grown_ownZ gA g9 (fun b hb => (bb b hb).1)
      rw [← rowsL_succ] at o9
      have H9 : Hid (w9.ownsRow w6.heap.size 43 256 v' (k + 1) (rowsL (fun s => if s = k then L else Ls s) (k + 1))) := o9
      clear o9 g9 gA g8 r8 news HO8 HO7 p8 n8 bs hlen bb g7
      go_wp2
      go_roundw
      case rel => exact ⟨k + 1, _, by omega, by go_num, gB, H9⟩
      case measure => simp [intOf]; omega
    · obtain rfl : k = n := by omega
      obtain ⟨a0, bl, cp, hv, ha, hr⟩ := own_list HO.out
      subst hv
      have hS := HR.out.1.keep hX hg
      have qa := (HR.out.2.new hg).op.a
      have hE7 : Et wr := HE.out wr c ⟨_, _, _, _, _, _, _, hS⟩
      obtain ⟨t, ht, HC⟩ := hpacked_law o.a a0 bl k cp Ls wr hE7 (by omega) ha hr
      clear hE7 HE ha hr HO HR hg hlt hk
      go_wp2_with fail
      refine HC.mono ?_
      rintro e w8 ⟨rfl, y8⟩
      have h8 := hS.keep hX y8
      clear HC hS qa y8
      go_wp2_with fail
      refine (add_any hX hc t h8 (by omega)).mono ?_
      rintro e w9 ⟨rfl, h9⟩
      have HF : Hid (SW X B (c + 1) w9) := h9
      clear h8 h9
      go_wp2
      go_ret
      exact ⟨rfl, SW.more hX HF.out (by omega)⟩
end Go.Proofs.YtkijpphmiogbbaaGreatDoor.Z

namespace Go.Proofs.YtkijpphmiogbbaaGreatDoor.Z
open Go.RowKit
attribute [local go_sem ↓] Go.wp_at_zero Go.wp_at_succ

theorem XP_low {B c : Nat} {w0 w : World} (h : SW (XP B w0) B c w) : Below B w0 w := by
  obtain ⟨_, _, _, _, _, _, _, h⟩ := h
  obtain ⟨m, es, hx⟩ := h.side
  exact hx.low
theorem XP_et {B c : Nat} {w0 w : World} (hE : Et w0) (hB : 0 < B) (h : SW (XP B w0) B c w) : Et w := by
  unfold Et
  rw [World.cell?_of_block (a := ⟨0, 0, none⟩) ((XP_low h).block _ hB)]
  exact hE
theorem step_partsX {B c : Nat} {w0 w : World} (hE : Et w0) (hB : 0 < B) (hc : c + 1 ≤ 40000) (o : OpV) (ho : OpOK o) (hk : o.kind < 8 ∨ o.kind = 12 ∨ (18 ≤ o.kind ∧ o.kind ≤ 22)) (h : SW (XP B w0) B c w) :
    Calls Tryz.prog 14 #[.pointer (some ⟨B, 0, none⟩), opVal o] w fun e w' => e = .returned (.bool true) ∧ SW (XP B w0) B (c + 2) w' := by
  have hX := XP_local B w0
  have HE : Hid (∀ W c, SW (XP B w0) B c W → Et W) := fun W c hW => XP_et hE hB hW
  rcases hk with hk | hk | ⟨h18, h22⟩
  · by_cases h1 : o.kind < 1
    · exact step_none hX hc o ho h1 h
    · exact step_own hX (by omega) o ho (by omega) (by omega) h
  · exact step_ring hX hc o ho (by omega) (by omega) (fun W hW => (ring_12 hX HE (by omega) o ho hk hW).mono (fun e W' h9 => ⟨h9.1, SW.more hX h9.2 (by omega)⟩)) h
  · refine step_parts hX hc o ho h18 h22 (fun W hW => ?_) h
    have hk5 : o.kind = 18 ∨ o.kind = 19 ∨ o.kind = 20 ∨ o.kind = 21 ∨ o.kind = 22 := by omega
    rcases hk5 with hk | hk | hk | hk | hk
    · exact ring_18 hX HE hc o ho hk hW
    · exact ring_19 hX HE (by omega) o ho hk hW
    · exact ring_20 hX HE (by omega) o ho hk hW
    · exact ring_21 hX HE (by omega) o ho hk hW
    · exact ring_22 hX HE (by omega) o ho hk hW
theorem init_XP (w : World) : SW (XP w.heap.size w) w.heap.size 0 (newW w) := by
  refine ⟨.slice none 0 0, .slice none 0 0, sv0, [], 0, [], fun k => k < w.heap.size, heap_alloc_new w _, World.ownsRow_nil _ _ _ _, Nat.le_refl _, (fun t ht => by cases ht), World.ownsRow_nil _ _ _ _, Nat.le_refl _, (fun t ht => by cases ht), Nat.lt_irrefl _, (fun g hg => by simp [Value.ownBlock] at hg), (fun g hg => by simp [Value.ownBlock] at hg), fun k hk => Nat.lt_trans hk (by simp), 0, fun _ => ⟨0, none, 0, 0, none, 0, 0, fun _ _ => 0⟩, ?_⟩
  exact ⟨below_of_grown (World.grownBy_alloc w _ none), fun k hk => hk, World.ownsRow_nil _ _ _ _, World.ownsRow_nil _ _ _ _, Nat.le_refl _, (fun g hg => by simp [Value.ownBlock] at hg), (fun g hg => by simp [Value.ownBlock] at hg), (fun i hi => absurd hi (by omega)), Int.le_refl _, Int.le_refl _⟩
theorem below_trans {w w1 w2 : World} (h : w.grownBy w1 none) (k : Below w1.heap.size w1 w2) : Below w.heap.size w w2 :=
  ⟨k.os.trans h.os, k.tape.trans h.tape, k.output.trans h.output, Nat.le_trans h.size k.size, fun i hi => (k.block i (Nat.lt_of_lt_of_le hi h.size)).trans (h.block i hi (by simp))⟩
theorem Scr.new {w w' : World} {a0 : Option Addr} {len cap : Nat} {ops : Nat → OpV} {adr : Nat → Addr} (h : Scr w a0 len cap ops adr) (hg : w.grownBy w' none) : Scr w' a0 len cap ops adr :=
  ⟨h.ix, fun i k v hi hv => hg.cell (h.cell i k v hi hv) (by simp), h.ok, h.len⟩
def kindsP (j : Nat) : Int := if j = 0 then 12 else 17 + (j : Int)
set_option maxHeartbeats 2000000 in
theorem parts_any (w : World) (a0 : Option Addr) (len cap : Nat) (ops : Nat → OpV) (adr : Nat → Addr) (h : Scr w a0 len cap ops adr) (hE : Et w) :
    Calls Tryz.prog 7 #[.slice a0 len cap] w fun e w' => e = .returned (.bool true) ∧ Below w.heap.size w w' := by
  have hg1 : w.grownBy (w.alloc (.cells #[.int .i64 12, .int .i64 18, .int .i64 19, .int .i64 20, .int .i64 21, .int .i64 22] 3)) none := World.grownBy_alloc _ _ _
  have h4 : 0 < w.heap.size := cell_lt hE
  have hp := plays_any (w := w.alloc (.cells #[.int .i64 12, .int .i64 18, .int .i64 19, .int .i64 20, .int .i64 21, .int .i64 22] 3)) a0 len cap ops adr (h.new hg1) w.heap.size 6 kindsP (by omega)
    (fun j hj => by
      rw [World.cell?_alloc_new]
      match j, hj with
      | 0, _ => rfl
      | 1, _ => rfl
      | 2, _ => rfl
      | 3, _ => rfl
      | 4, _ => rfl
      | 5, _ => rfl)
    (fun wr v os hg2 hO hn hgood => by
      have h4r : 0 < wr.heap.size := Nat.lt_of_lt_of_le h4 (Nat.le_trans hg1.size hg2.size)
      have hEr : Et wr := (hE.new hg1).new hg2
      have hu := upTo_any (X := XP wr.heap.size wr) (w := wr) v os _ hn hO (fun W c hW k hk => (XP_low hW).block k hk) (init_XP wr)
        (fun o ho c W hc hW => step_partsX hEr h4r hc o (hgood o ho).1 (by
          rcases (hgood o ho).2 with h1 | ⟨j, hj, h1⟩
          · exact Or.inl h1
          · unfold kindsP at h1
            by_cases e : j = 0
            · rw [if_pos e] at h1; exact Or.inr (Or.inl h1)
            · rw [if_neg e] at h1; exact Or.inr (Or.inr (by omega))) hW)
      exact hu.mono fun e w' ⟨he, hS⟩ => ⟨he, below_trans hg2 (XP_low hS)⟩)
  have HP : Hid (Calls Tryz.prog 11 #[.slice a0 len cap, .slice (some ⟨w.heap.size, 0, none⟩) 6 6] (w.alloc (.cells #[.int .i64 12, .int .i64 18, .int .i64 19, .int .i64 20, .int .i64 21, .int .i64 22] 3)) fun e w' => e = .returned (.bool true) ∧ Below (w.alloc (.cells #[.int .i64 12, .int .i64 18, .int .i64 19, .int .i64 20, .int .i64 21, .int .i64 22] 3)).heap.size (w.alloc (.cells #[.int .i64 12, .int .i64 18, .int .i64 19, .int .i64 20, .int .i64 21, .int .i64 22] 3)) w') := hp
  clear hp h
  go_enter Tryz.func7, Tryz.ntmps7
  go_wp2_with fail
  refine HP.out.mono ?_
  rintro e w2 ⟨rfl, hb⟩
  have HB : Hid (Below w.heap.size w w2) := below_trans hg1 hb
  clear hb hg1 HP
  go_wp2
  go_ret
  exact ⟨rfl, HB.out⟩
end Go.Proofs.YtkijpphmiogbbaaGreatDoor.Z

namespace Go.Proofs.YtkijpphmiogbbaaGreatDoor.Cl
open Go

/-- Where a function leads, by its number. -/
def leads (P : Program) (g : FuncId) : List FuncId := (P.funcs[g]?).elim [] P.leadsTo
/-- What is still to be paid for: the functions that have not been seen. -/
def owed (P : Program) (seen : List FuncId) : List Nat → Nat
  | [] => 0
  | g :: l => (if seen.contains g then 0 else (leads P g).length + 1) + owed P seen l

theorem owed_mono (P : Program) (f : FuncId) (seen : List FuncId) : ∀ l : List Nat, owed P (f :: seen) l ≤ owed P seen l
  | [] => Nat.le_refl _
  | g :: l => by
    have ih := owed_mono P f seen l
    simp only [owed]
    by_cases h : seen.contains g = true
    · have h2 : (f :: seen).contains g = true := by simp only [List.contains_cons, h, Bool.or_true]
      rw [if_pos h, if_pos h2]; omega
    · rw [if_neg h]
      split <;> omega
theorem owed_drop (P : Program) (f : FuncId) (seen : List FuncId) (hn : seen.contains f = false) : ∀ l : List Nat, f ∈ l → owed P (f :: seen) l + ((leads P f).length + 1) ≤ owed P seen l
  | [], h => by cases h
  | g :: l, h => by
    have hm := owed_mono P f seen l
    simp only [owed]
    by_cases hg : g = f
    · subst hg
      have h2 : (g :: seen).contains g = true := by simp
      rw [if_pos h2, hn]
      simp only [Bool.false_eq_true, if_false]; omega
    · have ih := owed_drop P f seen hn l (by cases h with | head => exact absurd rfl hg | tail _ h => exact h)
      by_cases hs : seen.contains g = true
      · have h2 : (f :: seen).contains g = true := by simp only [List.contains_cons, hs, Bool.or_true]
        rw [if_pos hs, if_pos h2]; omega
      · rw [if_neg hs]
        split <;> omega
theorem leads_none (P : Program) (f : FuncId) (h : P.funcs.size ≤ f) : leads P f = [] := by
  unfold leads; rw [Array.getElem?_eq_none h]; rfl
theorem closed_of (P : Program) : ∀ (n : Nat) (todo seen : List FuncId), todo.length + owed P seen (List.range P.funcs.size) ≤ n →
    (∀ g ∈ seen, ∀ h ∈ leads P g, h ∈ seen ∨ h ∈ todo) →
    (∀ g ∈ seen, g ∈ P.closureVia n todo seen) ∧ (∀ g ∈ todo, g ∈ P.closureVia n todo seen) ∧ ∀ g ∈ P.closureVia n todo seen, ∀ h ∈ leads P g, h ∈ P.closureVia n todo seen
  | 0, todo, seen, hn, hc => by
    have h0 : todo = [] := List.length_eq_zero_iff.1 (by omega)
    subst h0
    simp only [Program.closureVia, List.mem_reverse]
    exact ⟨fun g h => h, fun g h => absurd h (by simp), fun g hg h hh => (hc g hg h hh).resolve_right (by simp)⟩
  | n + 1, [], seen, hn, hc => by
    simp only [Program.closureVia, List.mem_reverse]
    exact ⟨fun g h => h, fun g h => absurd h (by simp), fun g hg h hh => (hc g hg h hh).resolve_right (by simp)⟩
  | n + 1, f :: todo, seen, hn, hc => by
    simp only [Program.closureVia]
    simp only [List.length_cons] at hn
    split
    · rename_i hs
      have hf : f ∈ seen := by simpa using hs
      obtain ⟨i1, i2, i3⟩ := closed_of P n todo seen (by omega) (fun g hg h hh => by
        rcases hc g hg h hh with x | x
        · exact .inl x
        · cases x with
          | head => exact .inl hf
          | tail _ x => exact .inr x)
      exact ⟨i1, fun g hg => by
        cases hg with
        | head => exact i1 _ hf
        | tail _ x => exact i2 _ x, i3⟩
    · rename_i hs
      have hs' : seen.contains f = false := by simpa using hs
      have hle : (leads P f ++ todo).length + owed P (f :: seen) (List.range P.funcs.size) ≤ n := by
        rw [List.length_append]
        rcases Nat.lt_or_ge f P.funcs.size with hlt | hge
        · have := owed_drop P f seen hs' (List.range P.funcs.size) (List.mem_range.2 hlt)
          omega
        · rw [leads_none P f hge]
          have := owed_mono P f seen (List.range P.funcs.size)
          simp only [List.length_nil]; omega
      obtain ⟨i1, i2, i3⟩ := closed_of P n (leads P f ++ todo) (f :: seen) hle (fun g hg h hh => by
        cases hg with
        | head => exact .inr (List.mem_append.2 (.inl hh))
        | tail _ hg =>
          rcases hc g hg h hh with x | x
          · exact .inl (List.mem_cons_of_mem _ x)
          · cases x with
            | head => exact .inl (List.mem_cons_self ..)
            | tail _ x => exact .inr (List.mem_append.2 (.inr x)))
      exact ⟨fun g hg => i1 g (List.mem_cons_of_mem _ hg), fun g hg => by
        cases hg with
        | head => exact i1 _ (List.mem_cons_self ..)
        | tail _ x => exact i2 _ (List.mem_append.2 (.inr x)), i3⟩
theorem owed_nil (P : Program) : ∀ l : List Nat, owed P [] l = (l.map fun g => (leads P g).length + 1).sum
  | [] => rfl
  | g :: l => by simp [owed, owed_nil P l]
theorem fuel_eq (P : Program) : (P.funcs.toList.map fun g => (P.leadsTo g).length + 1) = (List.range P.funcs.size).map fun g => (leads P g).length + 1 := by
  refine List.ext_getElem (by simp) (fun i h1 h2 => ?_)
  simp only [List.length_map, Array.length_toList] at h1
  simp [leads, h1]
/-- What a function leads to, it comes to. -/
theorem mem_self (P : Program) (f : FuncId) : f ∈ P.closure f := by
  unfold Program.closure
  exact (closed_of P _ [f] [] (by rw [owed_nil, fuel_eq]; simp) (fun g hg => by cases hg)).2.1 f (List.mem_cons_self ..)
theorem mem_next (P : Program) (f g h : FuncId) (hg : g ∈ P.closure f) (hh : h ∈ leads P g) : h ∈ P.closure f := by
  unfold Program.closure at hg ⊢
  exact (closed_of P _ [f] [] (by rw [owed_nil, fuel_eq]; simp) (fun g hg => by cases hg)).2.2 g hg h hh
theorem goes_of (P : Program) (f g : FuncId) (fn : Func) (hg : g ∈ P.closure f) (hf : P.funcs[g]? = some fn) (h : fn.goes = true) : P.goes f = true := by
  unfold Program.goes
  have : ((P.closure f).any fun g => (P.funcs[g]?).any Func.goes) = true := List.any_eq_true.2 ⟨g, hg, by rw [hf]; exact h⟩
  rw [this, Bool.true_or]
theorem unfollowed_of (P : Program) (f g : FuncId) (fn : Func) (c : Code) (hg : g ∈ P.closure f) (hf : P.funcs[g]? = some fn) (hb : fn.body = some c) (h : c.unfollowed = true) : P.unfollowed f = true := by
  unfold Program.unfollowed
  exact List.any_eq_true.2 ⟨g, hg, by rw [hf, Option.any_some, hb]; exact h⟩
theorem recurses_of (P : Program) (f : FuncId) (h : P.unfollowed f = true) : P.recurses f = true := by
  unfold Program.recurses
  rw [h, Bool.true_or]
/-- One step of the way, reckoned. -/
theorem step_of {P : Program} {f g h : FuncId} (hg : g ∈ P.closure f) (hh : (leads P g).contains h = true) : h ∈ P.closure f :=
  mem_next P f g h hg (by simpa using hh)
/-- The way from a script to the goroutines that draw a matrix. -/
theorem way (f : FuncId) (h : (leads Tryz.pinned.checked.prog f).contains 11 = true) : Tryz.pinned.checked.prog.goes f = true :=
  goes_of _ f 305 Tryz.f305
    (step_of (g := 220) (h := 305) (step_of (g := 144) (h := 220) (step_of (g := 142) (h := 144) (step_of (g := 78) (h := 142) (step_of (g := 37) (h := 78) (step_of (g := 18) (h := 37) (step_of (g := 14) (h := 18) (step_of (g := 13) (h := 14) (step_of (g := 11) (h := 13) (step_of (mem_self _ f) h) (by kernel_rfl)) (by kernel_rfl)) (by kernel_rfl)) (by kernel_rfl)) (by kernel_rfl)) (by kernel_rfl)) (by kernel_rfl)) (by kernel_rfl)) (by kernel_rfl))
    Tryz.func305 (by kernel_rfl)
/-- On the way something is called that is not named. -/
theorem loose (f : FuncId) (h : (leads Tryz.pinned.checked.prog f).contains 11 = true) : Tryz.pinned.checked.prog.unfollowed f = true :=
  unfollowed_of _ f 141 Tryz.f141 _
    (step_of (g := 78) (h := 141) (step_of (g := 37) (h := 78) (step_of (g := 18) (h := 37) (step_of (g := 14) (h := 18) (step_of (g := 13) (h := 14) (step_of (g := 11) (h := 13) (step_of (mem_self _ f) h) (by kernel_rfl)) (by kernel_rfl)) (by kernel_rfl)) (by kernel_rfl)) (by kernel_rfl)) (by kernel_rfl))
    Tryz.func141 rfl (by kernel_rfl)
theorem goesBy_of {c : OpenClaim} {f : FuncId} (hn : Tryz.pinned.checked.prog.funcNamed c.func = some f) (h : Tryz.pinned.checked.prog.goes f = true) : true = c.goesBy Tryz.pinned.checked.prog := by
  unfold OpenClaim.goesBy Program.goesAt Program.goesFrom
  rw [hn, Option.any_some, h, Bool.true_or]
end Go.Proofs.YtkijpphmiogbbaaGreatDoor.Cl
