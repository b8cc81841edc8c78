import Derived.Test.YtkijpphmiogbbaaGreatDoorM35
import Derived.Test.YtkijpphmiogbbaaGreatDoorM44
import Derived.Test.YtkijpphmiogbbaaGreatDoorM28
namespace Go.Proofs.YtkijpphmiogbbaaGreatDoor.Z
open Go.RowKit

/-- What law.go's hinted and used give. -/
abbrev HiOK (d : Int) (L M : Nat → Int) (w : World) : Prop := ∃ X : Nat → Int, (∀ j, j < 256 → InI (X j)) ∧ Calls Tryz.prog 32 #[.int .i64 d, .agg (polyA .i64 L), .agg (polyA .i64 M)] w fun e w' => e = .returned (.tuple #[.agg (polyA .i64 X), .bool true]) ∧ w.grownBy w' none
abbrev UsOK (d : Int) (L M : Nat → Int) (w : World) : Prop := ∃ X : Nat → Int, (∀ j, j < 256 → InI (X j)) ∧ Calls Tryz.prog 33 #[.int .i64 d, .agg (polyA .i64 L), .agg (polyA .i64 M)] w fun e w' => e = .returned (.tuple #[.agg (polyA .i64 X), .bool true]) ∧ w.grownBy w' none
theorem ini_hint (g z r : Int) : InI (hintI g z r) := by
  have := hint_01 g z r
  unfold InI; omega
theorem ini_use {g h r : Int} (hg : g = 95232 ∨ g = 261888) (h0 : 0 ≤ r) (h1 : r < 8380417) : InI (useI g h r) := by
  have := use_bounds g h r hg h0 h1
  unfold InI; omega
theorem hinted_law (d : Int) (L M : Nat → Int) (w : World) (hE : Et w) : HiOK d L M w := by
  rcases sg_or d with ⟨s, hs, _⟩ | ⟨h1, h2, h3⟩
  · have hg := hs.is.1
    by_cases hL : InB L 8380417
    · by_cases hM : InB M 8380417
      · exact ⟨fun i => hintI s.g (L i) (M i), fun j _ => ini_hint _ _ _,
          hinted_k d L M s _ _ _ (fun _ _ => rfl) hL hM (fun W => rset_any d s W hs) (fun W => Hint_any L M d s.g s.k s.o W hs.set hL hM) (fun W => rhint_any s L M W (by omega) (by omega) hL hM) w⟩
      · exact ⟨fun _ => 0, fun _ _ => ini_zero, hinted_b2 d L M s hL hM (fun W => rset_any d s W hs) (fun W => Hint_bad L M d s.g s.k s.o W hs.set 1 (by omega) (fun _ => hL) (by simpa using bad_of hM)) w hE⟩
    · exact ⟨fun _ => 0, fun _ _ => ini_zero, hinted_b d L M s hL (fun W => rset_any d s W hs) (fun W => Hint_bad L M d s.g s.k s.o W hs.set 0 (by omega) (fun h => absurd h (by omega)) (by simpa using bad_of hL)) w hE⟩
  · exact ⟨fun _ => 0, fun _ _ => ini_zero, hinted_n d L M sg0 (fun W => rset_none d h1 h2 h3 W) (fun W => Hint_none L M d W h1 h2 h3) w hE⟩
theorem used_law (d : Int) (L M : Nat → Int) (w : World) (hE : Et w) : UsOK d L M w := by
  rcases sg_or d with ⟨s, hs, _⟩ | ⟨h1, h2, h3⟩
  · have hg := hs.is.1
    by_cases hL : InB L 2
    · by_cases hM : InB M 8380417
      · exact ⟨fun i => useI s.g (L i) (M i), fun j hj => ini_use hg (hM j hj).1 (hM j hj).2,
          used_k d L M s _ _ (fun _ _ => rfl) hL hM (fun W => rset_any d s W hs) (fun W => UseHint_any L M d s.g s.k s.o W hs.set hL hM) (fun W => ruse_any s L M W hg hL hM) w⟩
      · exact ⟨fun _ => 0, fun _ _ => ini_zero, used_b2 d L M s hL hM (fun W => rset_any d s W hs) (fun W => UseHint_badr L M d s.g s.k s.o W hs.set hL (bad_of hM)) w hE⟩
    · exact ⟨fun _ => 0, fun _ _ => ini_zero, used_b d L M s hL (fun W => rset_any d s W hs) (fun W => UseHint_badh L M d s.g s.k s.o W hs.set (bad_of hL)) w hE⟩
  · exact ⟨fun _ => 0, fun _ _ => ini_zero, used_n d L M sg0 (fun W => rset_none d h1 h2 h3 W) (fun W => UseHint_none L M d W h1 h2 h3) w hE⟩
theorem IsSg.nat {n : Int} {s : Sg} (h : IsSg n s) : ∃ k o : Nat, s.k = (k : Int) ∧ s.o = (o : Int) ∧ 4 ≤ k ∧ k ≤ 8 ∧ o ≤ 80 ∧ IsSet n s.g (k : Int) (o : Int) := by
  have hi := h.is
  refine ⟨s.k.toNat, s.o.toNat, by omega, by omega, by omega, by omega, by omega, ?_⟩
  rw [show ((s.k.toNat : Nat) : Int) = s.k by omega, show ((s.o.toNat : Nat) : Int) = s.o by omega]
  exact h.set
/-- The first list that is out of bounds. -/
theorem first_bad (Ls : Nat → Nat → Int) : ∀ n, (¬ ∀ j, j < n → InB (Ls j) 2) → ∃ s0, s0 < n ∧ (∀ s, s < s0 → InB (Ls s) 2) ∧ ¬ InB (Ls s0) 2
  | 0, h => absurd (fun j hj => absurd hj (by omega)) h
  | n + 1, h => by
    by_cases h1 : ∀ j, j < n → InB (Ls j) 2
    · refine ⟨n, by omega, h1, fun h2 => h (fun j hj => ?_)⟩
      by_cases e : j = n
      · rw [e]; exact h2
      · exact h1 j (by omega)
    · obtain ⟨s0, a, b, c⟩ := first_bad Ls n h1
      exact ⟨s0, by omega, b, c⟩
abbrev HpOK (d : Int) (a0 : Option Addr) (n cp : Nat) (w : World) : Prop := ∃ t : ByteArray, t.size ≤ 20000 ∧ Calls Tryz.prog 34 #[.int .i64 d, .slice a0 n cp] w fun e w' => e = .returned (.tuple #[.string t, .bool true]) ∧ w.grownBy w' none
theorem hpacked_law (d : Int) (a0 : Option Addr) (b n cp : Nat) (Ls : Nat → Nat → Int) (w : World) (hE : Et w) (hn : n ≤ 9) (ha : 0 < n → a0 = some ⟨b, 0, none⟩) (hr : ∀ k, k < n → PRow .i64 w b (256 * k) (Ls k)) : HpOK d a0 n cp w := by
  have HX : Hid (∀ k, k < n → ∀ W, (Instr.indexAt 31 (.slice a0 n cp) (.int .i64 (k : Int))).run Tryz.prog W = .ok (.pointer (some ⟨b, 256 * k, none⟩)) W) := fun k hk W => by rw [ha (by omega)]; exact ixRefs b n cp k hk W
  have z0 : ByteArray.empty.size ≤ 20000 := by decide
  rcases sg_or d with ⟨s, hs, _⟩ | ⟨h1, h2, h3⟩
  · obtain ⟨k, o, hk, ho, k4, k8, o80, hset⟩ := hs.nat
    by_cases hnk : n = k
    · subst hnk
      obtain rfl := ha (by omega)
      by_cases hL : ∀ j, j < n → InB (Ls j) 2
      · by_cases ht : tot Ls n ≤ o
        · have key : ∃ t : ByteArray, t.size ≤ 20000 ∧ ∀ B, Pck Ls n o B → strH B (o + n) = t := by
            by_cases hB : ∃ B, Pck Ls n o B
            · obtain ⟨B, hB⟩ := hB
              exact ⟨strH B (o + n), by rw [strH_size]; omega, fun C hC => strH_ext _ (fun p hp => Pck.one hC hB p hp)⟩
            · exact ⟨ByteArray.empty, z0, fun B h => absurd ⟨B, h⟩ hB⟩
          obtain ⟨t, htz, hone⟩ := key
          refine ⟨t, htz, hpk_k d _ b n cp Ls s t w hn hk.symm hL HX hr (fun W => rset_any d s W hs) (fun I W hI => (PackHint_all Ls n o d s.g I (n + 1) W hset hL hI).mono ?_) (fun W hW => (rpack_any Ls s n o b cp W hk ho k8 o80 (fun k hk => (hr k hk).new hW)).mono ?_)⟩
          · rintro e w' ⟨⟨_, B, hB, _, rfl⟩ | ⟨hlt, _⟩, hg⟩
            · rw [hone B hB]; exact ⟨rfl, hg⟩
            · omega
          · rintro e w' ⟨⟨_, B, hB, _, rfl⟩ | ⟨hlt, _⟩, hg⟩
            · rw [hone B hB]; exact ⟨rfl, hg⟩
            · omega
        · refine ⟨ByteArray.empty, z0, hpk_h d _ b n cp Ls s w hn hk.symm hL HX hr (fun W => rset_any d s W hs) (fun I W hI => (PackHint_all Ls n o d s.g I (n + 1) W hset hL hI).mono ?_) (fun W hW => (rpack_any Ls s n o b cp W hk ho k8 o80 (fun k hk => (hr k hk).new hW)).mono ?_) hE⟩
          · rintro e w' ⟨⟨hle, _⟩ | ⟨_, rfl⟩, hg⟩
            · omega
            · exact ⟨rfl, hg⟩
          · rintro e w' ⟨⟨hle, _⟩ | ⟨_, rfl⟩, hg⟩
            · omega
            · exact ⟨rfl, hg⟩
      · obtain ⟨s0, a1, a2, a3⟩ := first_bad Ls n hL
        exact ⟨ByteArray.empty, z0, hpk_b d _ b n cp Ls s w hn hk.symm hL HX hr (fun W => rset_any d s W hs) (fun I W hI => PackHint_bad Ls n o d s.g I (n + 1) W hset s0 a1 a2 (bad_of a3) hI) hE⟩
    · exact ⟨ByteArray.empty, z0, hpk_l d a0 b n cp Ls s w hn (by omega) HX hr (fun W => rset_any d s W hs) (fun I W _ => PackHint_len (some ⟨I, 0, none⟩) n (n + 1) k o d s.g W hset hnk (by omega)) hE⟩
  · exact ⟨ByteArray.empty, z0, hpk_n d a0 b n cp Ls sg0 w hn HX hr (fun W => rset_none d h1 h2 h3 W) (fun I W _ => PackHint_none _ d W h1 h2 h3) hE⟩
/-- What law.go's hintsUnpacked gives: nothing, or a list of its own. -/
abbrev HuOK (d : Int) (t : ByteArray) (w : World) : Prop := Calls Tryz.prog 35 #[.int .i64 d, .string t] w fun e w' => (e = .returned (.tuple #[.slice none 0 0, .bool true]) ∨ ∃ (N k : Nat) (Rs : Nat → Nat → Int), 0 < k ∧ k ≤ 8 ∧ e = .returned (.tuple #[.slice (some ⟨N, 0, none⟩) k k, .bool true]) ∧ w.heap.size ≤ N ∧ ∀ s, s < k → PRow .i64 w' N (256 * s) (Rs s)) ∧ w.grownBy w' none
theorem hunpacked_law (d : Int) (t : ByteArray) (w : World) (hE : Et w) (ht : t.size ≤ 20000) : HuOK d t w := by
  rcases sg_or d with ⟨s, hs, _⟩ | ⟨h1, h2, h3⟩
  · obtain ⟨k, o, hk, ho, k4, k8, o80, hset⟩ := hs.nat
    by_cases hz : t.size = o + k
    · by_cases hg : rgood (txH t) k o
      · refine (hun_k d t s k (fun j => rdL (txH t) o j) w ht (by omega) (by omega) k8 (fun W => rset_any d s W hs) (fun W => (UnpackHint_all k o d s.g t W hset hz).mono ?_) (fun W => (runpack_any s k o t W hk ho k8 o80 hz).mono ?_)).mono ?_
        · rintro e w' ⟨⟨_, N, rfl, h4, h5⟩ | ⟨hb, _⟩, h6⟩
          · exact ⟨N, rfl, h4, h5, h6⟩
          · exact absurd hg hb
        · rintro e w' ⟨⟨_, N, rfl, h5⟩ | ⟨hb, _⟩, h6⟩
          · exact ⟨N, rfl, h5, h6⟩
          · exact absurd hg hb
        · rintro e w' ⟨N, rfl, h4, h5, h6⟩
          exact ⟨Or.inr ⟨N, k, _, by omega, k8, rfl, h4, h5⟩, h6⟩
      · refine (hun_h d t s w ht (by omega) (by omega) (fun W => rset_any d s W hs) (fun W => (UnpackHint_all k o d s.g t W hset hz).mono ?_) (fun W => (runpack_any s k o t W hk ho k8 o80 hz).mono ?_) hE).mono ?_
        · rintro e w' ⟨⟨hb, _⟩ | ⟨_, rfl⟩, h6⟩
          · exact absurd hb hg
          · exact ⟨rfl, h6⟩
        · rintro e w' ⟨⟨hb, _⟩ | ⟨_, rfl⟩, h6⟩
          · exact absurd hb hg
          · exact ⟨rfl, h6⟩
        · rintro e w' ⟨rfl, h6⟩
          exact ⟨Or.inl rfl, h6⟩
    · refine (hun_l d t s w ht (by omega) (by omega) (fun W => rset_any d s W hs) (fun W => UnpackHint_len k o d s.g t W hset hz (by omega)) hE).mono ?_
      rintro e w' ⟨rfl, h6⟩
      exact ⟨Or.inl rfl, h6⟩
  · refine (hun_n d t sg0 w ht (fun W => rset_none d h1 h2 h3 W) (fun W => UnpackHint_none t d W h1 h2 h3) hE).mono ?_
    rintro e w' ⟨rfl, h6⟩
    exact ⟨Or.inl rfl, h6⟩
end Go.Proofs.YtkijpphmiogbbaaGreatDoor.Z

namespace Go.Proofs.YtkijpphmiogbbaaGreatDoor.Z
open Go.RowKit
attribute [local go_sem ↓] Go.wp_at_zero Go.wp_at_succ
variable {X : Side} {B c : Nat} {w : World}
attribute [local go_sem ↓] ld_hide st_hide bs_hide ap_hide
set_option maxHeartbeats 4000000 in
set_option maxRecDepth 20000 in
theorem ring_19 (hX : X.Local) (HE : Hid (∀ W c, SW X B c W → Et W)) (hc : c ≤ 40000) (o : OpV) (ho : OpOK o) (hk : Hid (o.kind = 19)) (h : SW X B c w) :
    Calls Tryz.prog 17 #[.pointer (some ⟨B, 0, none⟩), opVal o] w fun e w' => e = .returned (.bool true) ∧ SW X B (c + 2) w' := by
  go_enter Tryz.func17, Tryz.ntmps17
  go_wp2_with fail
  obtain ⟨vT, vP, vS, ts, nP, ps, Φ, h⟩ := h
  have hO := opAt_new w o
  have h1 : SWd X B c vT vP vS ts nP ps Φ (opBox w o) := h.keep hX (World.grownBy_alloc w _ none)
  refine (poly_any hX hc _ ho.x h1).mono ?_
  rintro e w1 ⟨F, rfl, hF, hg1⟩
  have h2 := h1.keep hX hg1
  have hO1 := hO.far hg1 (by simp)
  have blt : w.heap.size < w1.heap.size := Nat.lt_of_lt_of_le (by simp) hg1.size
  generalize w.heap.size = b at *
  clear h h1 hO hg1
  have n1 := new_alloc .i64 w1 (fun _ => 0) 43
  rw [← Tryz.zY] at n1
  go_wp2_with (first | (refine wpL_store rfl .i64 43 _ _ rfl w1.heap.size 0 rfl _ rfl .i64 _ n1.r Tryz.sY ?_; intro w2 p2; have g2 := grown_new n1.g p2.g (Nat.le_refl _); have hO2 := hO1.far g2 (by simp); have qy := hO2.y; clear hO1))
  have h3 := h2.keep hX g2
  refine (poly_any hX hc _ ho.y h3).mono ?_
  rintro e w3 ⟨G, rfl, hG, hg3⟩
  have h4 := h3.keep hX hg3
  have hO3 := hO2.far hg3 (by simp)
  have rF := p2.r.new hg3
  have lF := rF.lt
  obtain ⟨p, hp⟩ : ∃ p, p = w1.heap.size := ⟨_, rfl⟩
  rw [← hp] at rF lF blt ⊢
  clear hp n1 p2 g2 qy h2 h3 hO2 hg3
  have n4 := new_alloc .i64 w3 (fun _ => 0) 43
  rw [← Tryz.zY] at n4
  have rF4 := rF.new n4.g
  have hO4 := hO3.far n4.g (by simp)
  go_wp2_with (first | (refine wpL_store rfl .i64 43 _ _ rfl w3.heap.size 0 rfl _ rfl .i64 _ n4.r Tryz.sY ?_; intro w4 p4; have s4 := p4.s; rw [n4.s] at s4; have n5 := new_alloc .i64 w4 (fun _ => 0) 43; rw [← Tryz.zY] at n5; have z5 := n5.r; rw [s4] at z5; have rF5 := (rF4.far p4.g (by simp; omega)).new n5.g; have rG5 := p4.r.new n5.g; have hO5 := (hO4.far p4.g (by simp; omega)).far n5.g (by simp); have g5 := grownBy_trans (grown_new n4.g p4.g (Nat.le_refl _)) n5.g) | (refine wpL_store rfl .i64 43 _ _ rfl (w3.heap.size + 1) 0 rfl _ (congrArg Value.agg Tryz.zY) .i64 _ z5 Tryz.sY ?_; intro w6 p6; have ri : Rin w6 b p w3.heap.size (w3.heap.size + 1) o F G := ⟨hO5.far p6.g (by simp; omega), rF5.far p6.g (by simp; omega), rG5.far p6.g (by simp), p6.r, blt, lF, Nat.lt_succ_self _⟩; have g6 := grown_new g5 p6.g (by omega); have qk := ri.op.kind; rw [hk.out] at qk; have qa := ri.op.a) | (refine wpL_load rfl .i64 43 _ rfl p 0 rfl F ri.f ⟨_, Tryz.uY⟩ Tryz.sY ?_) | (refine wpL_load rfl .i64 43 _ rfl w3.heap.size 0 rfl G ri.g ⟨_, Tryz.uY⟩ Tryz.sY ?_))
  have h6 := h4.keep hX g6
  have HSS : Hid (∀ W M, w6.grownBy W none → SWd X B c vT vP vS ts nP ps Φ (W.setCells (w3.heap.size + 1) 0 (polyA .i64 M).toList) ∧ PRow .i64 (W.setCells (w3.heap.size + 1) 0 (polyA .i64 M).toList) (w3.heap.size + 1) 0 M) := fun W M hg => by
    have p9 := put_cells .i64 W (w3.heap.size + 1) 0 M ((ri.h.new hg).there .i64 _)
    exact ⟨h4.keep hX (grown_new (grownBy_trans g6 hg) p9.g (by omega)), p9.r⟩
  obtain ⟨q, hq⟩ : ∃ q, q = w3.heap.size := ⟨_, rfl⟩
  rw [← hq] at ri HSS ⊢
  clear hq rF hO3 n4 rF4 hO4 p4 s4 n5 z5 rF5 rG5 hO5 g5 p6 g6 h4
  have hE6 : Et w6 := HE.out w6 c ⟨_, _, _, _, _, _, _, h6⟩
  obtain ⟨M, hM, HC⟩ := hinted_law o.a F G w6 hE6
  refine HC.mono ?_
  rintro e w8 ⟨rfl, y8⟩
  obtain ⟨hw, rM⟩ := HSS.out w8 M y8
  have st := run_hidSt w8 (q + 1) M _ (ri.h.new y8)
  clear HC qa hE6 HE HSS h6 ri y8 qk
  go_wp2_with fail
  generalize w8.setCells (q + 1) 0 (polyA .i64 M).toList = W9 at *
  clear st
  have hS : SWd X B c vT vP vS ts nP ps Φ W9.drew := hw.keep hX (grown_drew (World.grownBy.refl _ _))
  obtain ⟨g9, cap9, w99, hap, d1, d2, HF, gw⟩ := app_poly2 hX (by omega) hS M hM
  have ld := run_hidLd W9.drew (q + 1) 0 M rM.drew
  have bs := run_hidBS M
  have c1 : W9.cell? ⟨B, 1, none⟩ = some vP := hS.c1
  have c2 : (W9.alloc (.cells (polyA .i64 M) 43)).cell? ⟨B, 1, none⟩ = some vP := (World.grownBy_alloc W9 _ none).cell c1 (by simp)
  have hap2 : (hidAp #[vP, .slice (some ⟨W9.heap.size, 0, none⟩) 1 1]).run Tryz.prog (W9.alloc (.cells (polyA .i64 M) 43)).drew = .ok (.slice (some ⟨g9, 0, none⟩) (nP + 1) cap9) w99 := hap
  clear hS hw rM hM gw
  go_wp2
  go_region
  clear hap hap2 ld bs c1 c2 d1 d2
  go_wp2
  go_ret
  exact ⟨rfl, SW.more hX HF.out (by omega)⟩
set_option maxHeartbeats 4000000 in
set_option maxRecDepth 20000 in
theorem ring_20 (hX : X.Local) (HE : Hid (∀ W c, SW X B c W → Et W)) (hc : c ≤ 40000) (o : OpV) (ho : OpOK o) (hk : Hid (o.kind = 20)) (h : SW X B c w) :
    Calls Tryz.prog 17 #[.pointer (some ⟨B, 0, none⟩), opVal o] w fun e w' => e = .returned (.bool true) ∧ SW X B (c + 2) w' := by
  go_enter Tryz.func17, Tryz.ntmps17
  go_wp2_with fail
  obtain ⟨vT, vP, vS, ts, nP, ps, Φ, h⟩ := h
  have hO := opAt_new w o
  have h1 : SWd X B c vT vP vS ts nP ps Φ (opBox w o) := h.keep hX (World.grownBy_alloc w _ none)
  refine (poly_any hX hc _ ho.x h1).mono ?_
  rintro e w1 ⟨F, rfl, hF, hg1⟩
  have h2 := h1.keep hX hg1
  have hO1 := hO.far hg1 (by simp)
  have blt : w.heap.size < w1.heap.size := Nat.lt_of_lt_of_le (by simp) hg1.size
  generalize w.heap.size = b at *
  clear h h1 hO hg1
  have n1 := new_alloc .i64 w1 (fun _ => 0) 43
  rw [← Tryz.zY] at n1
  go_wp2_with (first | (refine wpL_store rfl .i64 43 _ _ rfl w1.heap.size 0 rfl _ rfl .i64 _ n1.r Tryz.sY ?_; intro w2 p2; have g2 := grown_new n1.g p2.g (Nat.le_refl _); have hO2 := hO1.far g2 (by simp); have qy := hO2.y; clear hO1))
  have h3 := h2.keep hX g2
  refine (poly_any hX hc _ ho.y h3).mono ?_
  rintro e w3 ⟨G, rfl, hG, hg3⟩
  have h4 := h3.keep hX hg3
  have hO3 := hO2.far hg3 (by simp)
  have rF := p2.r.new hg3
  have lF := rF.lt
  obtain ⟨p, hp⟩ : ∃ p, p = w1.heap.size := ⟨_, rfl⟩
  rw [← hp] at rF lF blt ⊢
  clear hp n1 p2 g2 qy h2 h3 hO2 hg3
  have n4 := new_alloc .i64 w3 (fun _ => 0) 43
  rw [← Tryz.zY] at n4
  have rF4 := rF.new n4.g
  have hO4 := hO3.far n4.g (by simp)
  go_wp2_with (first | (refine wpL_store rfl .i64 43 _ _ rfl w3.heap.size 0 rfl _ rfl .i64 _ n4.r Tryz.sY ?_; intro w4 p4; have s4 := p4.s; rw [n4.s] at s4; have n5 := new_alloc .i64 w4 (fun _ => 0) 43; rw [← Tryz.zY] at n5; have z5 := n5.r; rw [s4] at z5; have rF5 := (rF4.far p4.g (by simp; omega)).new n5.g; have rG5 := p4.r.new n5.g; have hO5 := (hO4.far p4.g (by simp; omega)).far n5.g (by simp); have g5 := grownBy_trans (grown_new n4.g p4.g (Nat.le_refl _)) n5.g) | (refine wpL_store rfl .i64 43 _ _ rfl (w3.heap.size + 1) 0 rfl _ (congrArg Value.agg Tryz.zY) .i64 _ z5 Tryz.sY ?_; intro w6 p6; have ri : Rin w6 b p w3.heap.size (w3.heap.size + 1) o F G := ⟨hO5.far p6.g (by simp; omega), rF5.far p6.g (by simp; omega), rG5.far p6.g (by simp), p6.r, blt, lF, Nat.lt_succ_self _⟩; have g6 := grown_new g5 p6.g (by omega); have qk := ri.op.kind; rw [hk.out] at qk; have qa := ri.op.a) | (refine wpL_load rfl .i64 43 _ rfl p 0 rfl F ri.f ⟨_, Tryz.uY⟩ Tryz.sY ?_) | (refine wpL_load rfl .i64 43 _ rfl w3.heap.size 0 rfl G ri.g ⟨_, Tryz.uY⟩ Tryz.sY ?_))
  have h6 := h4.keep hX g6
  have HSS : Hid (∀ W M, w6.grownBy W none → SWd X B c vT vP vS ts nP ps Φ (W.setCells (w3.heap.size + 1) 0 (polyA .i64 M).toList) ∧ PRow .i64 (W.setCells (w3.heap.size + 1) 0 (polyA .i64 M).toList) (w3.heap.size + 1) 0 M) := fun W M hg => by
    have p9 := put_cells .i64 W (w3.heap.size + 1) 0 M ((ri.h.new hg).there .i64 _)
    exact ⟨h4.keep hX (grown_new (grownBy_trans g6 hg) p9.g (by omega)), p9.r⟩
  obtain ⟨q, hq⟩ : ∃ q, q = w3.heap.size := ⟨_, rfl⟩
  rw [← hq] at ri HSS ⊢
  clear hq rF hO3 n4 rF4 hO4 p4 s4 n5 z5 rF5 rG5 hO5 g5 p6 g6 h4
  have hE6 : Et w6 := HE.out w6 c ⟨_, _, _, _, _, _, _, h6⟩
  obtain ⟨M, hM, HC⟩ := used_law o.a F G w6 hE6
  refine HC.mono ?_
  rintro e w8 ⟨rfl, y8⟩
  obtain ⟨hw, rM⟩ := HSS.out w8 M y8
  have st := run_hidSt w8 (q + 1) M _ (ri.h.new y8)
  clear HC qa hE6 HE HSS h6 ri y8 qk
  go_wp2_with fail
  generalize w8.setCells (q + 1) 0 (polyA .i64 M).toList = W9 at *
  clear st
  have hS : SWd X B c vT vP vS ts nP ps Φ W9.drew := hw.keep hX (grown_drew (World.grownBy.refl _ _))
  obtain ⟨g9, cap9, w99, hap, d1, d2, HF, gw⟩ := app_poly2 hX (by omega) hS M hM
  have ld := run_hidLd W9.drew (q + 1) 0 M rM.drew
  have bs := run_hidBS M
  have c1 : W9.cell? ⟨B, 1, none⟩ = some vP := hS.c1
  have c2 : (W9.alloc (.cells (polyA .i64 M) 43)).cell? ⟨B, 1, none⟩ = some vP := (World.grownBy_alloc W9 _ none).cell c1 (by simp)
  have hap2 : (hidAp #[vP, .slice (some ⟨W9.heap.size, 0, none⟩) 1 1]).run Tryz.prog (W9.alloc (.cells (polyA .i64 M) 43)).drew = .ok (.slice (some ⟨g9, 0, none⟩) (nP + 1) cap9) w99 := hap
  clear hS hw rM hM gw
  go_wp2
  go_region
  clear hap hap2 ld bs c1 c2 d1 d2
  go_wp2
  go_ret
  exact ⟨rfl, SW.more hX HF.out (by omega)⟩
set_option maxHeartbeats 4000000 in
set_option maxRecDepth 20000 in
theorem ring_18 (hX : X.Local) (HE : Hid (∀ W c, SW X B c W → Et W)) (hc : c + 1 ≤ 40000) (o : OpV) (ho : OpOK o) (hk : Hid (o.kind = 18)) (h : SW X B c w) :
    Calls Tryz.prog 17 #[.pointer (some ⟨B, 0, none⟩), opVal o] w fun e w' => e = .returned (.bool true) ∧ SW X B (c + 2) w' := by
  go_enter Tryz.func17, Tryz.ntmps17
  go_wp2_with fail
  obtain ⟨vT, vP, vS, ts, nP, ps, Φ, h⟩ := h
  have hO := opAt_new w o
  have h1 : SWd X B c vT vP vS ts nP ps Φ (opBox w o) := h.keep hX (World.grownBy_alloc w _ none)
  refine (poly_any hX (by omega) _ ho.x h1).mono ?_
  rintro e w1 ⟨F, rfl, hF, hg1⟩
  have h2 := h1.keep hX hg1
  have hO1 := hO.far hg1 (by simp)
  have blt : w.heap.size < w1.heap.size := Nat.lt_of_lt_of_le (by simp) hg1.size
  generalize w.heap.size = b at *
  clear h h1 hO hg1
  have n1 := new_alloc .i64 w1 (fun _ => 0) 43
  rw [← Tryz.zY] at n1
  go_wp2_with (first | (refine wpL_store rfl .i64 43 _ _ rfl w1.heap.size 0 rfl _ rfl .i64 _ n1.r Tryz.sY ?_; intro w2 p2; have g2 := grown_new n1.g p2.g (Nat.le_refl _); have hO2 := hO1.far g2 (by simp); have qy := hO2.y; clear hO1))
  have h3 := h2.keep hX g2
  refine (poly_any hX (by omega) _ ho.y h3).mono ?_
  rintro e w3 ⟨G, rfl, hG, hg3⟩
  have h4 := h3.keep hX hg3
  have hO3 := hO2.far hg3 (by simp)
  have rF := p2.r.new hg3
  have lF := rF.lt
  obtain ⟨p, hp⟩ : ∃ p, p = w1.heap.size := ⟨_, rfl⟩
  rw [← hp] at rF lF blt ⊢
  clear hp n1 p2 g2 qy h2 h3 hO2 hg3
  have n4 := new_alloc .i64 w3 (fun _ => 0) 43
  rw [← Tryz.zY] at n4
  have rF4 := rF.new n4.g
  have hO4 := hO3.far n4.g (by simp)
  go_wp2_with (first | (refine wpL_store rfl .i64 43 _ _ rfl w3.heap.size 0 rfl _ rfl .i64 _ n4.r Tryz.sY ?_; intro w4 p4; have s4 := p4.s; rw [n4.s] at s4; have n5 := new_alloc .i64 w4 (fun _ => 0) 43; rw [← Tryz.zY] at n5; have z5 := n5.r; rw [s4] at z5; have rF5 := (rF4.far p4.g (by simp; omega)).new n5.g; have rG5 := p4.r.new n5.g; have hO5 := (hO4.far p4.g (by simp; omega)).far n5.g (by simp); have g5 := grownBy_trans (grown_new n4.g p4.g (Nat.le_refl _)) n5.g) | (refine wpL_store rfl .i64 43 _ _ rfl (w3.heap.size + 1) 0 rfl _ (congrArg Value.agg Tryz.zY) .i64 _ z5 Tryz.sY ?_; intro w6 p6; have ri : Rin w6 b p w3.heap.size (w3.heap.size + 1) o F G := ⟨hO5.far p6.g (by simp; omega), rF5.far p6.g (by simp; omega), rG5.far p6.g (by simp), p6.r, blt, lF, Nat.lt_succ_self _⟩; have g6 := grown_new g5 p6.g (by omega); have qk := ri.op.kind; rw [hk.out] at qk; have n7 := new_alloc .i64 w6 (fun _ => 0) 43; rw [← Tryz.zY] at n7; have ri7 := ri.new n7.g; have qa := ri7.op.a) | (refine wpL_load rfl .i64 43 _ rfl p 0 rfl F ri7.f ⟨_, Tryz.uY⟩ Tryz.sY ?_))
  have g7 := grownBy_trans g6 n7.g
  have h7 := h4.keep hX g7
  have l7 := ri.h.lt
  have r7 := n7.r
  have hE7 : Et _ := HE.out _ c ⟨_, _, _, _, _, _, _, h7⟩
  have hPo := h4.ownP.lt
  have hB4 := h4.Blt
  obtain ⟨x, hx⟩ : ∃ x, x = w6.heap.size := ⟨_, rfl⟩
  rw [← hx] at r7 l7 ⊢
  generalize w6.alloc (.cells Tryz.zeroCells43 43) = w7 at *
  obtain ⟨q, hq⟩ : ∃ q, q = w3.heap.size := ⟨_, rfl⟩
  rw [← hq] at ri7 l7 hB4 ⊢
  have lq : w3.heap.size ≤ q := by omega
  have hPo : ∀ g, vP.ownBlock = some g → g < q := fun g hg => by have := (hPo g hg).2; omega
  clear hq hx rF hO3 n4 rF4 hO4 p4 s4 n5 z5 rF5 rG5 hO5 g5 p6 g6 n7 ri
  obtain ⟨X1, Z, hM, hZ, HC⟩ := halved_law o.a F w7 hE7
  refine HC.mono ?_
  rintro e w8 ⟨rfl, y8⟩
  have rx := r7.new y8
  have rz := ri7.h.new y8
  have g8 := grownBy_trans g7 y8
  clear HC qa hE7 HE h7 ri7 y8 r7 g7 qk
  go_wp2_with (first | (refine wpL_store rfl .i64 43 _ _ rfl x 0 rfl _ rfl .i64 _ rx Tryz.sY ?_; intro v9 p9; have g9 := grown_new g8 p9.g (by omega); have rz9 := rz.far p9.g (by simp; omega)) | (refine wpL_store rfl .i64 43 _ _ rfl (q + 1) 0 rfl _ rfl .i64 _ rz9 Tryz.sY ?_; intro v10 p10; have g10 := grown_new g9 p10.g (by omega); have rM := p9.r.far p10.g (by simp; omega); have rZ := p10.r))
  have hw := h4.keep hX g10
  clear h4 g8 g9 g10 rx rz rz9 p9 p10
  have hS : SWd X B c vT vP vS ts nP ps Φ v10.drew := hw.keep hX (grown_drew (World.grownBy.refl _ _))
  obtain ⟨g9, cap9, w99, hap, d1, d2, HF, gw⟩ := app_poly2 hX (by omega) hS X1 hM
  have ld := run_hidLd v10.drew x 0 X1 rM.drew
  have bs := run_hidBS X1
  have c1 : v10.cell? ⟨B, 1, none⟩ = some vP := hS.c1
  have c2 : (v10.alloc (.cells (polyA .i64 X1) 43)).cell? ⟨B, 1, none⟩ = some vP := (World.grownBy_alloc v10 _ none).cell c1 (by simp)
  have hap2 : (hidAp #[vP, .slice (some ⟨v10.heap.size, 0, none⟩) 1 1]).run Tryz.prog (v10.alloc (.cells (polyA .i64 X1) 43)).drew = .ok (.slice (some ⟨g9, 0, none⟩) (nP + 1) cap9) w99 := hap
  have hPl := hS.ownP.lt
  have hBl := hS.Blt
  have rZ2 : PRow .i64 (w99.setCell ⟨B, 1, none⟩ (.slice (some ⟨g9, 0, none⟩) (nP + 1) cap9)) (q + 1) 0 Z := (((rZ.drew.new (World.grownBy_alloc _ _ _)).far gw (fun e => by have := hPo (q + 1) e.symm; omega))).set_other (by show B ≠ q + 1; omega) _
  clear hPl hBl
  clear hS hw rM hM gw
  go_wp2
  go_region
  clear hap hap2 ld bs c1 c2 d1 d2
  have hF := HF.out
  clear HF
  generalize w99.setCell ⟨B, 1, none⟩ (.slice (some ⟨g9, 0, none⟩) (nP + 1) cap9) = W11 at *
  clear rZ hPo
  have rM := rZ2
  have hM := hZ
  clear rZ2 hZ
  obtain ⟨vT, vP, vS, ts, nP, ps, Φ, hw⟩ := hF
  have hS : SWd X B (c + 1) vT vP vS ts nP ps Φ W11.drew := hw.keep hX (grown_drew (World.grownBy.refl _ _))
  obtain ⟨g9, cap9, w99, hap, d1, d2, HF, gw⟩ := app_poly2 hX (by omega) hS Z hM
  have ld := run_hidLd W11.drew (q + 1) 0 Z rM.drew
  have bs := run_hidBS Z
  have c1 : W11.cell? ⟨B, 1, none⟩ = some vP := hS.c1
  have c2 : (W11.alloc (.cells (polyA .i64 Z) 43)).cell? ⟨B, 1, none⟩ = some vP := (World.grownBy_alloc W11 _ none).cell c1 (by simp)
  have hap2 : (hidAp #[vP, .slice (some ⟨W11.heap.size, 0, none⟩) 1 1]).run Tryz.prog (W11.alloc (.cells (polyA .i64 Z) 43)).drew = .ok (.slice (some ⟨g9, 0, none⟩) (nP + 1) cap9) w99 := hap
  clear hS hw rM hM gw
  go_wp2
  go_region
  clear hap hap2 ld bs c1 c2 d1 d2
  go_wp2
  go_ret
  exact ⟨rfl, HF.out⟩
end Go.Proofs.YtkijpphmiogbbaaGreatDoor.Z
