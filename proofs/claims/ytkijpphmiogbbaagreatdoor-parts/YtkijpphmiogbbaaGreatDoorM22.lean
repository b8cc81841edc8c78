import Derived.Test.YtkijpphmiogbbaaGreatDoorM21
import Derived.Test.YtkijpphmiogbbaaGreatDoorM16
import Derived.Test.YtkijpphmiogbbaaGreatDoorM04
import Derived.Test.YtkijpphmiogbbaaGreatDoorM20
namespace Go.Proofs.YtkijpphmiogbbaaGreatDoor
open Go.RowKit
attribute [local go_sem ↓] Go.wp_at_zero Go.wp_at_succ

theorem prod_lo (F G : Nat → Int) (P a e c d r : Nat) (ea : F (2 * P) = (a : Int)) (ee : F (2 * P + 1) = (e : Int)) (ec : G (2 * P) = (c : Int)) (ed : G (2 * P + 1) = (d : Int)) (er : yS P = (r : Int)) :
    (((a * c + e * d % 3329 * r) % 3329 : Nat) : Int) = prodS F G (2 * P) := by
  unfold prodS
  rw [if_pos (by omega), ea, ee, ec, ed, show 2 * P / 2 = P by omega, er]; simp
theorem prod_hi (F G : Nat → Int) (P a e c d : Nat) (ea : F (2 * P) = (a : Int)) (ee : F (2 * P + 1) = (e : Int)) (ec : G (2 * P) = (c : Int)) (ed : G (2 * P + 1) = (d : Int)) :
    (((a * d + e * c) % 3329 : Nat) : Int) = prodS F G (2 * P + 1) := by
  unfold prodS
  rw [if_neg (by omega), Nat.add_sub_cancel, ea, ee, ec, ed]; simp
theorem natOf {x : Int} (h : 0 ≤ x ∧ x < 3329) : ∃ n : Nat, x = (n : Int) ∧ n < 3329 := ⟨x.toNat, (Int.toNat_of_nonneg h.1).symm, by omega⟩
/-- The pair number P, by the row. -/
theorem pair_row (b B C : Nat) (z : Nat → Int) (sc : Int) (F G : Nat → Int) (P r : Nat) (w : World) (hP : P < 128) (hR : Rg16 w b z sc) (hF : PRow .u16 w B 0 (pairTo F G P)) (hG : PRow .u16 w C 0 G) (hbB : b ≠ B) (hCB : C ≠ B)
    (hF0 : ∀ i, i < 256 → 0 ≤ F i ∧ F i < 3329) (hG0 : ∀ i, i < 256 → 0 ≤ G i ∧ G i < 3329) (er : yS P = (r : Int)) :
    Calls Tryz.prog 345 #[.pointer (some ⟨b, 0, none⟩), .pointer (some ⟨B, 0, none⟩), .pointer (some ⟨C, 0, none⟩), .int .i64 ((2 * P : Nat) : Int), .int .u16 r] w fun x w' => x = .returned (.tuple #[]) ∧ w.grownBy w' (some B) ∧ PRow .u16 w' B 0 (pairTo F G (P + 1)) := by
  obtain ⟨a, ea, la⟩ := natOf (hF0 (2 * P) (by omega))
  obtain ⟨e, ee, le⟩ := natOf (hF0 (2 * P + 1) (by omega))
  obtain ⟨c, ec, lc⟩ := natOf (hG0 (2 * P) (by omega))
  obtain ⟨d, ed, ld⟩ := natOf (hG0 (2 * P + 1) (by omega))
  have hr := yS_range P hP
  rw [er] at hr
  have hat := pairTo_at F G P
  refine (pair_any b B C z sc (pairTo F G P) G (2 * P) r w hR hF hG hbB hCB (by omega) (by omega) a e c d (hat.1.trans ea) (hat.2.trans ee) ec ed la le lc ld).mono ?_
  rintro x w' ⟨rfl, g, h⟩
  refine ⟨rfl, g, h.ext (fun j _ => ?_)⟩
  rw [prod_lo F G P a e c d r ea ee ec ed er, prod_hi F G P a e c d ea ee ec ed]
  exact pairTo_step F G P j

set_option maxHeartbeats 2000000 in
set_option maxRecDepth 20000 in
theorem pairByPair_any (b : Nat) (sc : Int) (F G : Nat → Int) (w : World) (hR : Rg16 w b zetS sc) (hF0 : ∀ i, i < 256 → 0 ≤ F i ∧ F i < 3329) (hG0 : ∀ i, i < 256 → 0 ≤ G i ∧ G i < 3329) :
    Calls Tryz.prog 290 #[.pointer (some ⟨b, 0, none⟩), .agg (polyA .u16 F), .agg (polyA .u16 G)] w fun e w' => e = .returned (.agg (polyA .u16 (prodS F G))) ∧ w.grownBy w' none := by
  have HF0 := hid_of hF0
  have HG0 := hid_of hG0
  clear hF0 hG0
  have hbw : b < w.heap.size := by have := cell_lt hR.q; simpa using this
  have n1 := new_alloc .u16 w F 160
  have n2 := new_alloc .u16 (w.alloc (.cells (polyA .u16 F) 160)) G 160
  have n3 := new_alloc .u16 ((w.alloc (.cells (polyA .u16 F) 160)).alloc (.cells (polyA .u16 G) 160)) (fun _ => 0) 160
  rw [← Tryz.zQ16] at n3
  go_enter Tryz.func290, Tryz.ntmps290
  go_wp2
  generalize ((w.alloc (.cells (polyA .u16 F) 160)).alloc (.cells (polyA .u16 G) 160)).alloc (.cells Tryz.zeroCells160 160) = w3 at *
  have hF : PRow .u16 w3 w.heap.size 0 F := (n1.r.new n2.g).new n3.g
  have hG : PRow .u16 w3 (w.heap.size + 1) 0 G := by have := n2.r.new n3.g; rw [n1.s] at this; exact this
  have hA : PRow .u16 w3 (w.heap.size + 1 + 1) 0 (fun _ => 0) := by have := n3.r; rw [n2.s, n1.s] at this; exact this
  have hg : w.grownBy w3 none := grownBy_trans n1.g (grownBy_trans n2.g n3.g)
  have hR3 := hR.new hg
  clear n1 n2 n3 hR
  obtain ⟨B, hB⟩ : ∃ B, B = w.heap.size := ⟨_, rfl⟩
  rw [← hB] at hA hF hG ⊢
  have hB' : w.heap.size ≤ B := by omega
  have hbB : b < B := by omega
  clear hB hbw
  go_loopw [8, 9, 11] (fun _ _ i wr => ∃ k : Nat, k ≤ 64 ∧ i = .int .i64 k ∧ w.grownBy wr none ∧ Rg16 wr b zetS sc ∧ PRow .u16 wr (B + 1) 0 G ∧ PRow .u16 wr (B + 1 + 1) 0 (fun _ => 0) ∧ PRow .u16 wr B 0 (pairTo F G (2 * k))) (fun _ _ i _ => 64 - (intOf i).toNat)
  case atStart => exact ⟨0, by omega, rfl, hg, hR3, hG, hA, hF.ext (fun j _ => by unfold pairTo; rw [if_neg (by omega)])⟩
  case round =>
    clear hF hG hA hg hR3
    obtain ⟨k, hk, rfl, hg, hR, hG, hA, hF⟩ := hrel
    by_cases hlt : k < 64
    · have b0 : (0 : Int) ≤ (k : Int) := by omega
      have b1 : (k : Int) < 64 := by omega
      have cz := (hR.zetas (64 + k) (by omega)).1
      have y1 : yS (2 * k) = zetS (64 + k) := by unfold yS; rw [if_pos (by omega), show 2 * k / 2 = k by omega]
      have y2 : yS (2 * k + 1) = 3329 - zetS (64 + k) := by unfold yS; rw [if_neg (by omega), show (2 * k + 1) / 2 = k by omega]
      obtain ⟨zz, hzz, lz⟩ := natOf (yS_range (2 * k) (by omega))
      obtain ⟨zm, hzm, lm⟩ := natOf (yS_range (2 * k + 1) (by omega))
      rw [← y1, hzz] at cz
      have em : (3329 : Int) - (zz : Int) = (zm : Int) := by rw [← hzz, ← hzm, y1, y2]
      have wm : IntKind.u16.wrap ((3329 : Int) - (zz : Int)) = (zm : Int) := by rw [em, IntKind.wrap_u16]; omega
      have t1 : ((64 : Int) + (k : Int)).toNat = 64 + k := by omega
      have hq := hR.q
      have HP1 := hid_of (fun W hW hFW hGW => pair_row b B (B + 1) zetS sc F G (2 * k) zz W (by omega) hW hFW hGW (by omega) (by omega) HF0.out HG0.out hzz)
      have HP2 := hid_of (fun W hW hFW hGW => pair_row b B (B + 1) zetS sc F G (2 * k + 1) zm W (by omega) hW hFW hGW (by omega) (by omega) HF0.out HG0.out hzm)
      rw [show ((2 * (2 * k) : Nat) : Int) = 4 * (k : Int) by omega] at HP1
      rw [show ((2 * (2 * k + 1) : Nat) : Int) = 4 * (k : Int) + 2 by omega] at HP2
      clear y1 y2 hzz hzm
      go_wp2_with fail
      refine (HP1.out wr hR hF hG).mono ?_
      rintro _ w4 ⟨rfl, g4, hF4⟩
      have hR4 := hR.far g4 (by simp; omega)
      have hG4 := hG.far g4 (by simp)
      have hA4 := hA.far g4 (by simp; omega)
      have hg4 := grown_new hg g4 hB'
      have hq4 := hR4.q
      clear hR hG hA hg hF g4 hq cz
      go_wp2_with fail
      refine (HP2.out w4 hR4 hF4 hG4).mono ?_
      rintro _ w5 ⟨rfl, g5, hF5⟩
      have hR5 := hR4.far g5 (by simp; omega)
      have hG5 := hG4.far g5 (by simp)
      have hA5 := hA4.far g5 (by simp; omega)
      have hg5 := grown_new hg4 g5 hB'
      clear hR4 hG4 hA4 hg4 hF4 g5 hq4
      go_wp2
      exact ⟨⟨k + 1, by omega, by go_num, hg5, hR5, hG5, hA5, hF5⟩, by simp [intOf]; omega⟩
    · have hk6 : k = 64 := by omega
      subst hk6
      have hR' : PRow .u16 wr B 0 (prodS F G) := hF.ext (fun j hj => by unfold pairTo; rw [if_pos (by omega)])
      clear hF
      go_wp2_with (first | (refine wpL_load rfl .u16 160 _ rfl B 0 rfl _ hR' Tryz.oQ16 Tryz.sQ16 ?_) | (refine wpL_store rfl .u16 160 _ _ rfl (B + 1 + 1) 0 rfl _ rfl .u16 _ hA Tryz.sQ16 ?_; intro w4 p4))
      refine bodyPost_ret (res1 rfl .u16 _ w4 (B + 1 + 1) _ rfl p4.r Tryz.oQ16 Tryz.sQ16) rfl ⟨rfl, grown_new hg p4.g (by omega)⟩
end Go.Proofs.YtkijpphmiogbbaaGreatDoor

namespace Go.Proofs.YtkijpphmiogbbaaGreatDoor
open Go.RowKit
attribute [local go_sem ↓] Go.wp_at_zero Go.wp_at_succ

set_option maxHeartbeats 2000000 in
set_option maxRecDepth 20000 in
theorem place_any (b : Nat) (z : Nat → Int) (sc : Int) (F G : Nat → Int) (w : World) (hR : Rg32 w b z sc) (hF0 : ∀ i, i < 256 → 0 ≤ F i ∧ F i < 8380417) (hG0 : ∀ i, i < 256 → 0 ≤ G i ∧ G i < 8380417) :
    Calls Tryz.prog 291 #[.pointer (some ⟨b, 0, none⟩), .agg (polyA .u32 F), .agg (polyA .u32 G)] w fun e w' => e = .returned (.agg (polyA .u32 (prodG F G))) ∧ w.grownBy w' none := by
  have HF0 := hid_of32 hF0
  have HG0 := hid_of32 hG0
  clear hF0 hG0
  have hbw : b < w.heap.size := by have := cell_lt hR.q; simpa using this
  have n1 := new_alloc .u32 w F 166
  have n2 := new_alloc .u32 (w.alloc (.cells (polyA .u32 F) 166)) G 166
  have n3 := new_alloc .u32 ((w.alloc (.cells (polyA .u32 F) 166)).alloc (.cells (polyA .u32 G) 166)) (fun _ => 0) 166
  rw [← Tryz.zQ32] at n3
  go_enter Tryz.func291, Tryz.ntmps291
  go_wp2
  generalize ((w.alloc (.cells (polyA .u32 F) 166)).alloc (.cells (polyA .u32 G) 166)).alloc (.cells Tryz.zeroCells166 166) = w3 at *
  have hF : PRow .u32 w3 w.heap.size 0 F := (n1.r.new n2.g).new n3.g
  have hG : PRow .u32 w3 (w.heap.size + 1) 0 G := by have := n2.r.new n3.g; rw [n1.s] at this; exact this
  have hA : PRow .u32 w3 (w.heap.size + 1 + 1) 0 (fun _ => 0) := by have := n3.r; rw [n2.s, n1.s] at this; exact this
  have hg : w.grownBy w3 none := grownBy_trans n1.g (grownBy_trans n2.g n3.g)
  have hR3 := hR.new hg
  clear n1 n2 n3 hR
  obtain ⟨B, hB⟩ : ∃ B, B = w.heap.size := ⟨_, rfl⟩
  rw [← hB] at hA hF hG ⊢
  have hB' : w.heap.size ≤ B := by omega
  have hbB : b < B := by omega
  clear hB hbw
  go_loopw [7, 8] (fun _ i wr => ∃ k : Nat, k ≤ 256 ∧ i = .int .i64 k ∧ w.grownBy wr none ∧ Rg32 wr b z sc ∧ PRow .u32 wr (B + 1) 0 G ∧ PRow .u32 wr (B + 1 + 1) 0 (fun _ => 0) ∧ PRow .u32 wr B 0 (fun j => if j < k then prodG F G j else F j)) (fun _ i _ => 256 - (intOf i).toNat)
  case atStart => exact ⟨0, by omega, rfl, hg, hR3, hG, hA, hF.ext (fun j _ => by simp)⟩
  case round =>
    clear hF hG hA hg hR3
    obtain ⟨k, hk, rfl, hg, hR, hG, hA, hF⟩ := hrel
    by_cases hlt : k < 256
    · have b0 : (0 : Int) ≤ (k : Int) := by omega
      have b1 : (k : Int) < 256 := by omega
      obtain ⟨a, ha⟩ : ∃ a : Nat, F k = (a : Int) := ⟨(F k).toNat, (Int.toNat_of_nonneg (HF0.out k hlt).1).symm⟩
      obtain ⟨c, hc⟩ : ∃ c : Nat, G k = (c : Int) := ⟨(G k).toNat, (Int.toNat_of_nonneg (HG0.out k hlt).1).symm⟩
      have la : a < 8380417 := by have := (HF0.out k hlt).2; omega
      have lc : c < 8380417 := by have := (HG0.out k hlt).2; omega
      have c1 := (hF.at0 k hlt).1
      have f1 := (hF.at0 k hlt).2
      have c2 := (hG.at0 k hlt).1
      rw [if_neg (Nat.lt_irrefl k), ha] at c1
      rw [hc] at c2
      obtain ⟨v, hv⟩ : ∃ v : Nat, v = a * c % 8380417 := ⟨_, rfl⟩
      have HT := hid_of32 (fun W hW => times32_any b z sc a c W hW la lc)
      rw [← hv] at HT
      have HV : Hid ((v : Int) = prodG F G k) := by
        show _ = _
        unfold prodG
        rw [ha, hc, hv]; simp
      have hBn : ¬ B = B + 1 := by omega
      clear hv ha hc
      go_wp2
      go_region_with (first | (go_at_call 283; refine (HT.out _ hR.drew).mono ?_; rintro _ w' ⟨rfl, hw⟩; rw [hw]; clear hw w'))
      all_goals (
        go_wp2
        refine ⟨⟨k + 1, by omega, by go_num, grown_drew (grown_setNew hg (by simp; omega) _), (hR.far (⟨rfl, rfl, rfl, by simp, fun i _ hr => Below.heap_setCell _ _ _ _ (fun e => hr (by simp [e]))⟩ : wr.grownBy (wr.setCell ⟨B, k, none⟩ (.int .u32 (v : Int))) (some B)) (by simp; omega)).drew, (hG.set_other (by simp) _).drew, (hA.set_other (by simp; omega) _).drew, ?_⟩, by simp [intOf]; omega⟩
        rw [HV.out]
        exact ((hF.set0 hlt _).drew).ext (fun j _ => mix_step _ _ k j))
    · have hk6 : k = 256 := by omega
      subst hk6
      have hR' : PRow .u32 wr B 0 (prodG F G) := hF.ext (fun j hj => by simp [hj])
      clear hF
      go_wp2_with (first | (refine wpL_load rfl .u32 166 _ rfl B 0 rfl _ hR' Tryz.oQ32 Tryz.sQ32 ?_) | (refine wpL_store rfl .u32 166 _ _ rfl (B + 1 + 1) 0 rfl _ rfl .u32 _ hA Tryz.sQ32 ?_; intro w4 p4))
      refine bodyPost_ret (res1 rfl .u32 _ w4 (B + 1 + 1) _ rfl p4.r Tryz.oQ32 Tryz.sQ32) rfl ⟨rfl, grown_new hg p4.g (by omega)⟩
end Go.Proofs.YtkijpphmiogbbaaGreatDoor

namespace Go.Proofs.YtkijpphmiogbbaaGreatDoor
open Go.RowKit
attribute [local go_sem ↓] Go.wp_at_zero Go.wp_at_succ

section
variable {ops : Array Oper} {rest : List Oper} {o : Oper} {a : Act} {w : World} {Q : Exit → Act → World → Prop}
theorem wpL_bs2 (hgd : o.guard = none) (x y : Operand) (ho : o.op = .buildSlice 60 2 #[(0, x), (1, y)]) (L M : Nat → Int) (hx : a.eval x = .agg (polyA .i64 L)) (hy : a.eval y = .agg (polyA .i64 M))
    (h : ∀ w', w.grownBy w' none → PRow .i64 w' w.heap.size (256 * 0) L → PRow .i64 w' w.heap.size (256 * 1) M → wpList Tryz.prog ops Q rest (a.put o.dst (.slice (some ⟨w.heap.size, 0, none⟩) 2 2)) w') : wpList Tryz.prog ops Q (o :: rest) a w := by
  refine wpList_plain hgd fun _ hK => ?_
  unfold Oper.wp execOp
  have hp : (#[(0, x), (1, y)] : Array (Nat × Operand)).map (fun (i, x) => (i, a.eval x)) = #[(0, .agg (polyA .i64 L)), (1, .agg (polyA .i64 M))] := by simp [hx, hy]
  simp only [ho, hp, Sem.run_bind, bs_two, Result.andThen_ok]
  have hr := rows_two L M w 71
  exact hK _ _ (h _ (World.grownBy_alloc _ _ _) hr.1 hr.2)
end

set_option maxHeartbeats 1000000 in
set_option maxRecDepth 20000 in
theorem prod16_any (b : Nat) (F G : Nat → Int) (w : World) (hR : Rg16 w b zetS 3303) (hF0 : ∀ i, i < 256 → 0 ≤ F i ∧ F i < 3329) (hG0 : ∀ i, i < 256 → 0 ≤ G i ∧ G i < 3329) :
    Calls Tryz.prog 196 #[.pointer (some ⟨b, 0, none⟩), .agg (polyA .u16 F), .agg (polyA .u16 G)] w fun e w' => e = .returned (.agg (polyA .u16 (prodS F G))) ∧ w.grownBy w' none := by
  have n1 := new_alloc .u16 w F 160
  have n2 := new_alloc .u16 (w.alloc (.cells (polyA .u16 F) 160)) G 160
  have n3 := new_alloc .u16 ((w.alloc (.cells (polyA .u16 F) 160)).alloc (.cells (polyA .u16 G) 160)) (fun _ => 0) 160
  rw [← Tryz.zQ16] at n3
  have f3 := (n1.r.new n2.g).new n3.g
  have h3 := n2.r.new n3.g
  rw [n1.s] at h3
  have z3 := n3.r
  rw [n2.s, n1.s] at z3
  have g3 := grownBy_trans n1.g (grownBy_trans n2.g n3.g)
  have hR3 := hR.new g3
  have hl := hR3.leaf
  have HC := hid_of (fun W hW => pairByPair_any b 3303 F G W hW hF0 hG0)
  clear n1 n2 n3 hF0 hG0
  go_enter Tryz.func196, Tryz.ntmps196
  go_wp2_with (first | (refine wpL_load rfl .u16 160 _ rfl w.heap.size 0 rfl _ f3 Tryz.oQ16 Tryz.sQ16 ?_) | (refine wpL_load rfl .u16 160 _ rfl (w.heap.size + 1) 0 rfl _ h3 Tryz.oQ16 Tryz.sQ16 ?_) | (go_at_call 290; refine (HC.out _ hR3).mono ?_; rintro e w5 ⟨rfl, g5⟩) | (refine wpL_store rfl .u16 160 _ _ rfl (w.heap.size + 1 + 1) 0 rfl _ rfl .u16 _ (z3.new g5) Tryz.sQ16 ?_; intro w6 p6))
  refine bodyPost_ret (res1 rfl .u16 _ w6 (w.heap.size + 1 + 1) _ rfl p6.r Tryz.oQ16 Tryz.sQ16) rfl ⟨rfl, grown_new (grownBy_trans g3 g5) p6.g (by omega)⟩
def hidLd16 (p : Value) : Sem Value := Instr.loadAt 160 p
theorem ld_hide16 (p : Value) : Instr.loadAt 160 p = hidLd16 p := rfl
theorem run_hidLd16 (W : World) (b f : Nat) (L : Nat → Int) (hr : PRow .u16 W b f L) : (hidLd16 (.pointer (some ⟨b, f, none⟩))).run Tryz.prog W = .ok (.agg (polyA .u16 L)) W := by
  unfold hidLd16
  simp only [Instr.loadAt, Instr.sureAddr, Sem.run_bind, Sem.run_pure, Result.andThen_ok, run_loadRow .u16 W 160 b f L hr Tryz.oQ16 Tryz.sQ16]
section
attribute [local go_sem ↓] st_hide16 ld_hide16
set_option maxHeartbeats 1000000 in
set_option maxRecDepth 20000 in
theorem fn16_product (b n : Nat) (F G : Nat → Int) (w : World) (hR : Rg16 w b zetS 3303) (hF : PRow .u16 w n 0 F) (hG : PRow .u16 w n 256 G) (hF0 : ∀ i, i < 256 → 0 ≤ F i ∧ F i < 3329) (hG0 : ∀ i, i < 256 → 0 ≤ G i ∧ G i < 3329) :
    Calls Tryz.prog 107 #[.pointer (some ⟨b, 0, none⟩), .slice (some ⟨n, 0, none⟩) 2 2] w fun e w' => e = .returned (.agg (polyA .u16 (prodS F G))) ∧ w.grownBy w' none := by
  have n1 := new_alloc .u16 w (fun _ => 0) 160
  rw [← Tryz.zQ16] at n1
  go_enter Tryz.func107, Tryz.ntmps107
  go_wp2_with fail
  generalize w.alloc (.cells Tryz.zeroCells160 160) = w1 at *
  have g1 := n1.g
  have r1 := n1.r
  have L1 := run_hidLd16 w1.drew n 0 F (hF.new g1).drew
  have L2 := run_hidLd16 w1.drew n 256 G (hG.new g1).drew
  have HC := hid_of (prod16_any b F G w1.drew (hR.new g1).drew hF0 hG0)
  clear n1 hF hG hF0 hG0 hR
  go_region_with (first | (go_at_call 196; refine HC.out.mono ?_; rintro e w5 ⟨rfl, g5⟩; have st := run_hidSt16 w5 w.heap.size (prodS F G) _ (r1.drew.new g5)))
  all_goals (
    have p6 := put_cells .u16 w5 w.heap.size 0 (prodS F G) ((r1.drew.new g5).there .u16 _)
    have g7 := grown_new (grownBy_trans (grown_drew g1) g5) p6.g (Nat.le_refl _)
    generalize w5.setCells w.heap.size 0 (polyA .u16 (prodS F G)).toList = w7 at *
    clear st L1 L2
    go_wp2
    refine bodyPost_ret (res1 rfl .u16 _ w7 w.heap.size _ rfl p6.r Tryz.oQ16 Tryz.sQ16) rfl ⟨rfl, g7⟩)
set_option maxHeartbeats 1000000 in
set_option maxRecDepth 20000 in
theorem modC16_product (c n : Nat) (F G : Nat → Int) (w : World) (hc : w.cell? ⟨c, 0, none⟩ = some (.func (.func 107) #[] #[])) (hF : PRow .u16 w n 0 F) (hG : PRow .u16 w n 256 G) (hF0 : ∀ i, i < 256 → 0 ≤ F i ∧ F i < 3329) (hG0 : ∀ i, i < 256 → 0 ≤ G i ∧ G i < 3329) :
    Calls Tryz.prog 188 #[.slice (some ⟨n, 0, none⟩) 2 2, .pointer (some ⟨c, 0, none⟩)] w fun e w' => e = .returned (.agg (polyA .u16 (prodS F G))) ∧ w.grownBy w' none := by
  have n1 := new_alloc .u16 w (fun _ => 0) 160
  rw [← Tryz.zQ16] at n1
  have hc1 := n1.g.cell hc (by simp)
  have HF := hid_of hF0
  have HG := hid_of hG0
  go_enter Tryz.func188, Tryz.ntmps188
  go_wp2_with fail
  generalize w.alloc (.cells Tryz.zeroCells160 160) = w1 at *
  have g1 := n1.g
  have r1 := n1.r
  have hF1 := hF.new g1
  have hG1 := hG.new g1
  clear n1 hc hF0 hG0 hF hG
  go_region_with (first | (go_at_call 189; refine (ring16_any _).mono ?_; rintro e w5 ⟨rfl, g5, hR5⟩; have hc5 := g5.cell hc1 (by simp); have hR6 : Rg16 w5 w1.heap.size zetS 3303 := hR5; have hF5 := hF1.drew.new g5; have hG5 := hG1.drew.new g5; have z5 := r1.drew.new g5; clear hR5) | (go_at_call 107; refine (fn16_product w1.heap.size n F G w5 hR6 hF5 hG5 HF.out HG.out).mono ?_; rintro e w6 ⟨rfl, g6⟩; have st := run_hidSt16 w6 w.heap.size (prodS F G) _ (z5.new g6)))
  all_goals (
    have p6 := put_cells .u16 w6 w.heap.size 0 (prodS F G) ((z5.new g6).there .u16 _)
    have g7 := grown_new (grownBy_trans (grown_drew g1) (grownBy_trans g5 g6)) p6.g (Nat.le_refl _)
    generalize w6.setCells w.heap.size 0 (polyA .u16 (prodS F G)).toList = w7 at *
    clear st
    go_wp2
    refine bodyPost_ret (res1 rfl .u16 _ w7 w.heap.size _ rfl p6.r Tryz.oQ16 Tryz.sQ16) rfl ⟨rfl, g7⟩)
end
set_option maxHeartbeats 1000000 in
set_option maxRecDepth 20000 in
theorem modulo16_product (b : Nat) (F G : Nat → Int) (w : World) (hF : PRow .i64 w b (256 * 0) F) (hG : PRow .i64 w b (256 * 1) G) (hF0 : ∀ i, i < 256 → 0 ≤ F i ∧ F i < 3329) (hG0 : ∀ i, i < 256 → 0 ≤ G i ∧ G i < 3329) :
    Calls Tryz.prog 102 #[.int .i64 3329, .func (.func 107) #[] #[], .func (.func 108) #[] #[], .slice (some ⟨b, 0, none⟩) 2 2] w fun e w' => e = .returned (.tuple #[.agg (polyA .i64 (prodS F G)), .nilIface]) ∧ w.grownBy w' none := by
  have t1 := fns_boxed w (.func (.func 107) #[] #[]) (.func (.func 108) #[] #[]) 231 232 71
  rw [← Tryz.z24] at t1
  obtain ⟨g1, c1, c2, z1⟩ := t1
  have hF1 := hF.new g1
  have hG1 := hG.new g1
  go_enter Tryz.func102, Tryz.ntmps102
  go_wp2_with fail
  generalize ((w.alloc (.cells #[.func (.func 107) #[] #[]] 231)).alloc (.cells #[.func (.func 108) #[] #[]] 232)).alloc (.cells Tryz.zeroCells71 71) = w1 at *
  have HM : ∀ W c, w1.grownBy W none → (∀ s, s < 2 → PRow .u16 W c (256 * s) ((fun s => if s = 0 then F else G) s)) → Calls Tryz.prog 188 (#[.slice (some ⟨c, 0, none⟩) 2 2] ++ #[.pointer (some ⟨w.heap.size, 0, none⟩)]) W fun e W' => e = .returned (.agg (polyA .u16 (prodS F G))) ∧ W.grownBy W' none :=
    fun W c hg hrr => modC16_product w.heap.size c F G W (hg.cell c1 (by simp)) (hrr 0 (by omega)) (hrr 1 (by omega)) hF0 hG0
  have HR : ∀ s, s < 2 → PRow .i64 w1 b (256 * s) ((fun s => if s = 0 then F else G) s) := fun s hs => by
    rcases (show s = 0 ∨ s = 1 by omega) with rfl | rfl
    · exact hF1
    · exact hG1
  have H0 : ∀ i, i < 256 → 0 ≤ (prodS F G) i ∧ (prodS F G) i < 65536 := fun i hi => by
    have := prodS_range F G i
    exact ⟨this.1, Int.lt_trans this.2 (by decide)⟩
  have HLL : ∀ s, s < 2 → ∀ i, i < 256 → 0 ≤ (fun s => if s = 0 then F else G) s i ∧ (fun s => if s = 0 then F else G) s i < 3329 := fun s hs => by
    rcases (show s = 0 ∨ s = 1 by omega) with rfl | rfl
    · exact hF0
    · exact hG0
  refine (calc_modulo16 (fun s => if s = 0 then F else G) (prodS F G) 3329 b 2 #[.pointer (some ⟨w.heap.size, 0, none⟩)] w1 (by omega) (by omega) (by omega) HLL HR H0 HM).mono ?_
  rintro e w5 ⟨rfl, g5⟩
  go_wp2_with (first | (refine wpL_store rfl .i64 71 _ _ rfl (w.heap.size + 1 + 1) 0 rfl _ rfl .i64 _ (z1.new g5) Tryz.sP ?_; intro w6 p6))
  refine bodyPost_ret (res2 rfl .i64 _ w6 (w.heap.size + 1 + 1) _ _ rfl rfl p6.r ⟨_, Tryz.uP⟩ Tryz.sP) rfl ⟨rfl, grown_new (grownBy_trans g1 g5) p6.g (by omega)⟩
set_option maxHeartbeats 1000000 in
set_option maxRecDepth 20000 in
theorem call16_product (F G : Nat → Int) (w : World) (hF0 : ∀ i, i < 256 → 0 ≤ F i ∧ F i < 3329) (hG0 : ∀ i, i < 256 → 0 ≤ G i ∧ G i < 3329) :
    Calls Tryz.prog 55 #[.int .i64 3329, .agg (polyA .i64 F), .agg (polyA .i64 G)] w fun e w' => e = .returned (.tuple #[.agg (polyA .i64 (prodS F G)), .nilIface]) ∧ w.grownBy w' none := by
  have n1 := new_alloc .i64 w F 71
  have n2 := new_alloc .i64 (w.alloc (.cells (polyA .i64 F) 71)) G 71
  have n3 := new_alloc .i64 ((w.alloc (.cells (polyA .i64 F) 71)).alloc (.cells (polyA .i64 G) 71)) (fun _ => 0) 71
  rw [← Tryz.z24] at n3
  have f3 := (n1.r.new n2.g).new n3.g
  have h3 := n2.r.new n3.g
  rw [n1.s] at h3
  have z3 := n3.r
  rw [n2.s, n1.s] at z3
  have g3 := grownBy_trans n1.g (grownBy_trans n2.g n3.g)
  have s3 := n3.s
  rw [n2.s, n1.s] at s3
  clear n1 n2 n3
  go_enter Tryz.func55, Tryz.ntmps55
  go_wp2_with (first | (refine wpL_load rfl .i64 71 _ rfl w.heap.size 0 rfl _ f3 ⟨_, Tryz.uP⟩ Tryz.sP ?_) | (refine wpL_load rfl .i64 71 _ rfl (w.heap.size + 1) 0 rfl _ h3 ⟨_, Tryz.uP⟩ Tryz.sP ?_) | (refine wpL_bs2 rfl _ _ rfl F G rfl rfl ?_; intro w4 g4 a4 b4))
  rw [s3] at a4 b4
  refine (modulo16_product (w.heap.size + 1 + 1 + 1) F G w4 a4 b4 hF0 hG0).mono ?_
  rintro e w5 ⟨rfl, g5⟩
  go_wp2_with (first | (refine wpL_store rfl .i64 71 _ _ rfl (w.heap.size + 1 + 1) 0 rfl _ rfl .i64 _ ((z3.new g4).new g5) Tryz.sP ?_; intro w6 p6))
  refine bodyPost_ret (res2 rfl .i64 _ w6 (w.heap.size + 1 + 1) _ _ rfl rfl p6.r ⟨_, Tryz.uP⟩ Tryz.sP) rfl ⟨rfl, grown_new (grownBy_trans (grownBy_trans g3 g4) g5) p6.g (by omega)⟩

set_option maxHeartbeats 1000000 in
set_option maxRecDepth 20000 in
theorem prod32_any (b : Nat) (F G : Nat → Int) (w : World) (hR : Rg32 w b zetG 8347681) (hF0 : ∀ i, i < 256 → 0 ≤ F i ∧ F i < 8380417) (hG0 : ∀ i, i < 256 → 0 ≤ G i ∧ G i < 8380417) :
    Calls Tryz.prog 197 #[.pointer (some ⟨b, 0, none⟩), .agg (polyA .u32 F), .agg (polyA .u32 G)] w fun e w' => e = .returned (.agg (polyA .u32 (prodG F G))) ∧ w.grownBy w' none := by
  have n1 := new_alloc .u32 w F 166
  have n2 := new_alloc .u32 (w.alloc (.cells (polyA .u32 F) 166)) G 166
  have n3 := new_alloc .u32 ((w.alloc (.cells (polyA .u32 F) 166)).alloc (.cells (polyA .u32 G) 166)) (fun _ => 0) 166
  rw [← Tryz.zQ32] at n3
  have f3 := (n1.r.new n2.g).new n3.g
  have h3 := n2.r.new n3.g
  rw [n1.s] at h3
  have z3 := n3.r
  rw [n2.s, n1.s] at z3
  have g3 := grownBy_trans n1.g (grownBy_trans n2.g n3.g)
  have hR3 := hR.new g3
  have hl := hR3.leaf
  have HC := hid_of (fun W hW => place_any b zetG 8347681 F G W hW hF0 hG0)
  clear n1 n2 n3 hF0 hG0
  go_enter Tryz.func197, Tryz.ntmps197
  go_wp2_with (first | (refine wpL_load rfl .u32 166 _ rfl w.heap.size 0 rfl _ f3 Tryz.oQ32 Tryz.sQ32 ?_) | (refine wpL_load rfl .u32 166 _ rfl (w.heap.size + 1) 0 rfl _ h3 Tryz.oQ32 Tryz.sQ32 ?_) | (go_at_call 291; refine (HC.out _ hR3).mono ?_; rintro e w5 ⟨rfl, g5⟩) | (refine wpL_store rfl .u32 166 _ _ rfl (w.heap.size + 1 + 1) 0 rfl _ rfl .u32 _ (z3.new g5) Tryz.sQ32 ?_; intro w6 p6))
  refine bodyPost_ret (res1 rfl .u32 _ w6 (w.heap.size + 1 + 1) _ rfl p6.r Tryz.oQ32 Tryz.sQ32) rfl ⟨rfl, grown_new (grownBy_trans g3 g5) p6.g (by omega)⟩
def hidLd32 (p : Value) : Sem Value := Instr.loadAt 166 p
theorem ld_hide32 (p : Value) : Instr.loadAt 166 p = hidLd32 p := rfl
theorem run_hidLd32 (W : World) (b f : Nat) (L : Nat → Int) (hr : PRow .u32 W b f L) : (hidLd32 (.pointer (some ⟨b, f, none⟩))).run Tryz.prog W = .ok (.agg (polyA .u32 L)) W := by
  unfold hidLd32
  simp only [Instr.loadAt, Instr.sureAddr, Sem.run_bind, Sem.run_pure, Result.andThen_ok, run_loadRow .u32 W 166 b f L hr Tryz.oQ32 Tryz.sQ32]
section
attribute [local go_sem ↓] st_hide32 ld_hide32
set_option maxHeartbeats 1000000 in
set_option maxRecDepth 20000 in
theorem fn32_product (b n : Nat) (F G : Nat → Int) (w : World) (hR : Rg32 w b zetG 8347681) (hF : PRow .u32 w n 0 F) (hG : PRow .u32 w n 256 G) (hF0 : ∀ i, i < 256 → 0 ≤ F i ∧ F i < 8380417) (hG0 : ∀ i, i < 256 → 0 ≤ G i ∧ G i < 8380417) :
    Calls Tryz.prog 108 #[.pointer (some ⟨b, 0, none⟩), .slice (some ⟨n, 0, none⟩) 2 2] w fun e w' => e = .returned (.agg (polyA .u32 (prodG F G))) ∧ w.grownBy w' none := by
  have n1 := new_alloc .u32 w (fun _ => 0) 166
  rw [← Tryz.zQ32] at n1
  go_enter Tryz.func108, Tryz.ntmps108
  go_wp2_with fail
  generalize w.alloc (.cells Tryz.zeroCells166 166) = w1 at *
  have g1 := n1.g
  have r1 := n1.r
  have L1 := run_hidLd32 w1.drew n 0 F (hF.new g1).drew
  have L2 := run_hidLd32 w1.drew n 256 G (hG.new g1).drew
  have HC := hid_of (prod32_any b F G w1.drew (hR.new g1).drew hF0 hG0)
  clear n1 hF hG hF0 hG0 hR
  go_region_with (first | (go_at_call 197; refine HC.out.mono ?_; rintro e w5 ⟨rfl, g5⟩; have st := run_hidSt32 w5 w.heap.size (prodG F G) _ (r1.drew.new g5)))
  all_goals (
    have p6 := put_cells .u32 w5 w.heap.size 0 (prodG F G) ((r1.drew.new g5).there .u32 _)
    have g7 := grown_new (grownBy_trans (grown_drew g1) g5) p6.g (Nat.le_refl _)
    generalize w5.setCells w.heap.size 0 (polyA .u32 (prodG F G)).toList = w7 at *
    clear st L1 L2
    go_wp2
    refine bodyPost_ret (res1 rfl .u32 _ w7 w.heap.size _ rfl p6.r Tryz.oQ32 Tryz.sQ32) rfl ⟨rfl, g7⟩)
set_option maxHeartbeats 1000000 in
set_option maxRecDepth 20000 in
theorem modC32_product (c n : Nat) (F G : Nat → Int) (w : World) (hc : w.cell? ⟨c, 0, none⟩ = some (.func (.func 108) #[] #[])) (hF : PRow .u32 w n 0 F) (hG : PRow .u32 w n 256 G) (hF0 : ∀ i, i < 256 → 0 ≤ F i ∧ F i < 8380417) (hG0 : ∀ i, i < 256 → 0 ≤ G i ∧ G i < 8380417) :
    Calls Tryz.prog 190 #[.slice (some ⟨n, 0, none⟩) 2 2, .pointer (some ⟨c, 0, none⟩)] w fun e w' => e = .returned (.agg (polyA .u32 (prodG F G))) ∧ w.grownBy w' none := by
  have n1 := new_alloc .u32 w (fun _ => 0) 166
  rw [← Tryz.zQ32] at n1
  have hc1 := n1.g.cell hc (by simp)
  have HF := hid_of hF0
  have HG := hid_of hG0
  go_enter Tryz.func190, Tryz.ntmps190
  go_wp2_with fail
  generalize w.alloc (.cells Tryz.zeroCells166 166) = w1 at *
  have g1 := n1.g
  have r1 := n1.r
  have hF1 := hF.new g1
  have hG1 := hG.new g1
  clear n1 hc hF0 hG0 hF hG
  go_region_with (first | (go_at_call 191; refine (ring32_any _).mono ?_; rintro e w5 ⟨rfl, g5, hR5⟩; have hc5 := g5.cell hc1 (by simp); have hR6 : Rg32 w5 w1.heap.size zetG 8347681 := hR5; have hF5 := hF1.drew.new g5; have hG5 := hG1.drew.new g5; have z5 := r1.drew.new g5; clear hR5) | (go_at_call 108; refine (fn32_product w1.heap.size n F G w5 hR6 hF5 hG5 HF.out HG.out).mono ?_; rintro e w6 ⟨rfl, g6⟩; have st := run_hidSt32 w6 w.heap.size (prodG F G) _ (z5.new g6)))
  all_goals (
    have p6 := put_cells .u32 w6 w.heap.size 0 (prodG F G) ((z5.new g6).there .u32 _)
    have g7 := grown_new (grownBy_trans (grown_drew g1) (grownBy_trans g5 g6)) p6.g (Nat.le_refl _)
    generalize w6.setCells w.heap.size 0 (polyA .u32 (prodG F G)).toList = w7 at *
    clear st
    go_wp2
    refine bodyPost_ret (res1 rfl .u32 _ w7 w.heap.size _ rfl p6.r Tryz.oQ32 Tryz.sQ32) rfl ⟨rfl, g7⟩)
end
set_option maxHeartbeats 1000000 in
set_option maxRecDepth 20000 in
theorem modulo32_product (b : Nat) (F G : Nat → Int) (w : World) (hF : PRow .i64 w b (256 * 0) F) (hG : PRow .i64 w b (256 * 1) G) (hF0 : ∀ i, i < 256 → 0 ≤ F i ∧ F i < 8380417) (hG0 : ∀ i, i < 256 → 0 ≤ G i ∧ G i < 8380417) :
    Calls Tryz.prog 102 #[.int .i64 8380417, .func (.func 107) #[] #[], .func (.func 108) #[] #[], .slice (some ⟨b, 0, none⟩) 2 2] w fun e w' => e = .returned (.tuple #[.agg (polyA .i64 (prodG F G)), .nilIface]) ∧ w.grownBy w' none := by
  have t1 := fns_boxed w (.func (.func 107) #[] #[]) (.func (.func 108) #[] #[]) 231 232 71
  rw [← Tryz.z24] at t1
  obtain ⟨g1, c1, c2, z1⟩ := t1
  have hF1 := hF.new g1
  have hG1 := hG.new g1
  go_enter Tryz.func102, Tryz.ntmps102
  go_wp2_with fail
  generalize ((w.alloc (.cells #[.func (.func 107) #[] #[]] 231)).alloc (.cells #[.func (.func 108) #[] #[]] 232)).alloc (.cells Tryz.zeroCells71 71) = w1 at *
  have HM : ∀ W c, w1.grownBy W none → (∀ s, s < 2 → PRow .u32 W c (256 * s) ((fun s => if s = 0 then F else G) s)) → Calls Tryz.prog 190 (#[.slice (some ⟨c, 0, none⟩) 2 2] ++ #[.pointer (some ⟨(w.heap.size + 1), 0, none⟩)]) W fun e W' => e = .returned (.agg (polyA .u32 (prodG F G))) ∧ W.grownBy W' none :=
    fun W c hg hrr => modC32_product (w.heap.size + 1) c F G W (hg.cell c2 (by simp)) (hrr 0 (by omega)) (hrr 1 (by omega)) hF0 hG0
  have HR : ∀ s, s < 2 → PRow .i64 w1 b (256 * s) ((fun s => if s = 0 then F else G) s) := fun s hs => by
    rcases (show s = 0 ∨ s = 1 by omega) with rfl | rfl
    · exact hF1
    · exact hG1
  have H0 : ∀ i, i < 256 → 0 ≤ (prodG F G) i ∧ (prodG F G) i < 4294967296 := fun i hi => by
    have := (⟨Int.emod_nonneg (F i * G i) (by omega), Int.emod_lt_of_pos (F i * G i) (by omega)⟩ : 0 ≤ prodG F G i ∧ prodG F G i < 8380417)
    exact ⟨this.1, Int.lt_trans this.2 (by decide)⟩
  have HLL : ∀ s, s < 2 → ∀ i, i < 256 → 0 ≤ (fun s => if s = 0 then F else G) s i ∧ (fun s => if s = 0 then F else G) s i < 8380417 := fun s hs => by
    rcases (show s = 0 ∨ s = 1 by omega) with rfl | rfl
    · exact hF0
    · exact hG0
  refine (calc_modulo32 (fun s => if s = 0 then F else G) (prodG F G) 8380417 b 2 #[.pointer (some ⟨(w.heap.size + 1), 0, none⟩)] w1 (by omega) (by omega) (by omega) HLL HR H0 HM).mono ?_
  rintro e w5 ⟨rfl, g5⟩
  go_wp2_with (first | (refine wpL_store rfl .i64 71 _ _ rfl (w.heap.size + 1 + 1) 0 rfl _ rfl .i64 _ (z1.new g5) Tryz.sP ?_; intro w6 p6))
  refine bodyPost_ret (res2 rfl .i64 _ w6 (w.heap.size + 1 + 1) _ _ rfl rfl p6.r ⟨_, Tryz.uP⟩ Tryz.sP) rfl ⟨rfl, grown_new (grownBy_trans g1 g5) p6.g (by omega)⟩
set_option maxHeartbeats 1000000 in
set_option maxRecDepth 20000 in
theorem call32_product (F G : Nat → Int) (w : World) (hF0 : ∀ i, i < 256 → 0 ≤ F i ∧ F i < 8380417) (hG0 : ∀ i, i < 256 → 0 ≤ G i ∧ G i < 8380417) :
    Calls Tryz.prog 55 #[.int .i64 8380417, .agg (polyA .i64 F), .agg (polyA .i64 G)] w fun e w' => e = .returned (.tuple #[.agg (polyA .i64 (prodG F G)), .nilIface]) ∧ w.grownBy w' none := by
  have n1 := new_alloc .i64 w F 71
  have n2 := new_alloc .i64 (w.alloc (.cells (polyA .i64 F) 71)) G 71
  have n3 := new_alloc .i64 ((w.alloc (.cells (polyA .i64 F) 71)).alloc (.cells (polyA .i64 G) 71)) (fun _ => 0) 71
  rw [← Tryz.z24] at n3
  have f3 := (n1.r.new n2.g).new n3.g
  have h3 := n2.r.new n3.g
  rw [n1.s] at h3
  have z3 := n3.r
  rw [n2.s, n1.s] at z3
  have g3 := grownBy_trans n1.g (grownBy_trans n2.g n3.g)
  have s3 := n3.s
  rw [n2.s, n1.s] at s3
  clear n1 n2 n3
  go_enter Tryz.func55, Tryz.ntmps55
  go_wp2_with (first | (refine wpL_load rfl .i64 71 _ rfl w.heap.size 0 rfl _ f3 ⟨_, Tryz.uP⟩ Tryz.sP ?_) | (refine wpL_load rfl .i64 71 _ rfl (w.heap.size + 1) 0 rfl _ h3 ⟨_, Tryz.uP⟩ Tryz.sP ?_) | (refine wpL_bs2 rfl _ _ rfl F G rfl rfl ?_; intro w4 g4 a4 b4))
  rw [s3] at a4 b4
  refine (modulo32_product (w.heap.size + 1 + 1 + 1) F G w4 a4 b4 hF0 hG0).mono ?_
  rintro e w5 ⟨rfl, g5⟩
  go_wp2_with (first | (refine wpL_store rfl .i64 71 _ _ rfl (w.heap.size + 1 + 1) 0 rfl _ rfl .i64 _ ((z3.new g4).new g5) Tryz.sP ?_; intro w6 p6))
  refine bodyPost_ret (res2 rfl .i64 _ w6 (w.heap.size + 1 + 1) _ _ rfl rfl p6.r ⟨_, Tryz.uP⟩ Tryz.sP) rfl ⟨rfl, grown_new (grownBy_trans (grownBy_trans g3 g4) g5) p6.g (by omega)⟩
end Go.Proofs.YtkijpphmiogbbaaGreatDoor
