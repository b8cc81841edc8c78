import Derived.Test.YtkijpphmiogbbaaGreatDoorK43
import Derived.Test.YtkijpphmiogbbaaGreatDoorK47
import Derived.Test.YtkijpphmiogbbaaGreatDoorK46
namespace Go.Proofs.YtkijpphmiogbbaaGreatDoor.Z
open Go.RowKit
attribute [local go_sem ↓] Go.wp_at_zero Go.wp_at_succ
variable {X : Side} {B c : Nat} {w : World}
attribute [local go_sem ↓] ld_hide st_hide bs_hide ap_hide
set_option maxHeartbeats 4000000 in
set_option maxRecDepth 20000 in
theorem ring_13 (hX : X.Local) (HE : Hid (∀ W c, SW X B c W → Et W)) (hc : c ≤ 40000) (o : OpV) (ho : OpOK o) (hk : Hid (o.kind = 13)) (h : SW X B c w) :
    Calls Tryz.prog 17 #[.pointer (some ⟨B, 0, none⟩), opVal o] w fun e w' => e = .returned (.bool true) ∧ SW X B (c + 1) w' := by
  go_enter Tryz.func17, Tryz.ntmps17
  go_wp2_with fail
  obtain ⟨vT, vP, vS, ts, nP, ps, Φ, h⟩ := h
  have hO := opAt_new w o
  have h1 : SWd X B c vT vP vS ts nP ps Φ (opBox w o) := h.keep hX (World.grownBy_alloc w _ none)
  refine (poly_any hX hc _ ho.x h1).mono ?_
  rintro e w1 ⟨F, rfl, hF, hg1⟩
  have h2 := h1.keep hX hg1
  have hO1 := hO.far hg1 (by simp)
  have blt : w.heap.size < w1.heap.size := Nat.lt_of_lt_of_le (by simp) hg1.size
  generalize w.heap.size = b at *
  clear h h1 hO hg1
  have n1 := new_alloc .i64 w1 (fun _ => 0) 43
  rw [← Tryz.zY] at n1
  go_wp2_with (first | (refine wpL_store rfl .i64 43 _ _ rfl w1.heap.size 0 rfl _ rfl .i64 _ n1.r Tryz.sY ?_; intro w2 p2; have g2 := grown_new n1.g p2.g (Nat.le_refl _); have hO2 := hO1.far g2 (by simp); have qy := hO2.y; clear hO1))
  have h3 := h2.keep hX g2
  refine (poly_any hX hc _ ho.y h3).mono ?_
  rintro e w3 ⟨G, rfl, hG, hg3⟩
  have h4 := h3.keep hX hg3
  have hO3 := hO2.far hg3 (by simp)
  have rF := p2.r.new hg3
  have lF := rF.lt
  obtain ⟨p, hp⟩ : ∃ p, p = w1.heap.size := ⟨_, rfl⟩
  rw [← hp] at rF lF blt ⊢
  clear hp n1 p2 g2 qy h2 h3 hO2 hg3
  have n4 := new_alloc .i64 w3 (fun _ => 0) 43
  rw [← Tryz.zY] at n4
  have rF4 := rF.new n4.g
  have hO4 := hO3.far n4.g (by simp)
  go_wp2_with (first | (refine wpL_store rfl .i64 43 _ _ rfl w3.heap.size 0 rfl _ rfl .i64 _ n4.r Tryz.sY ?_; intro w4 p4; have s4 := p4.s; rw [n4.s] at s4; have n5 := new_alloc .i64 w4 (fun _ => 0) 43; rw [← Tryz.zY] at n5; have z5 := n5.r; rw [s4] at z5; have rF5 := (rF4.far p4.g (by simp; omega)).new n5.g; have rG5 := p4.r.new n5.g; have hO5 := (hO4.far p4.g (by simp; omega)).far n5.g (by simp); have g5 := grownBy_trans (grown_new n4.g p4.g (Nat.le_refl _)) n5.g) | (refine wpL_store rfl .i64 43 _ _ rfl (w3.heap.size + 1) 0 rfl _ (congrArg Value.agg Tryz.zY) .i64 _ z5 Tryz.sY ?_; intro w6 p6; have ri : Rin w6 b p w3.heap.size (w3.heap.size + 1) o F G := ⟨hO5.far p6.g (by simp; omega), rF5.far p6.g (by simp; omega), rG5.far p6.g (by simp), p6.r, blt, lF, Nat.lt_succ_self _⟩; have g6 := grown_new g5 p6.g (by omega); have qk := ri.op.kind; rw [hk.out] at qk; have qa := ri.op.a) | (refine wpL_load rfl .i64 43 _ rfl p 0 rfl F ri.f ⟨_, Tryz.uY⟩ Tryz.sY ?_))
  have h6 := h4.keep hX g6
  have HSS : Hid (∀ W M, w6.grownBy W none → SWd X B c vT vP vS ts nP ps Φ (W.setCells (w3.heap.size + 1) 0 (polyA .i64 M).toList) ∧ PRow .i64 (W.setCells (w3.heap.size + 1) 0 (polyA .i64 M).toList) (w3.heap.size + 1) 0 M) := fun W M hg => by
    have p9 := put_cells .i64 W (w3.heap.size + 1) 0 M ((ri.h.new hg).there .i64 _)
    exact ⟨h4.keep hX (grown_new (grownBy_trans g6 hg) p9.g (by omega)), p9.r⟩
  obtain ⟨q, hq⟩ : ∃ q, q = w3.heap.size := ⟨_, rfl⟩
  rw [← hq] at ri HSS ⊢
  clear hq rF hO3 n4 rF4 hO4 p4 s4 n5 z5 rF5 rG5 hO5 g5 p6 g6 h4
  have hE6 : Et w6 := HE.out w6 c ⟨_, _, _, _, _, _, _, h6⟩
  obtain ⟨t, ht, HC⟩ := packed_law o.a F w6 hE6
  refine HC.mono ?_
  rintro e w8 ⟨rfl, y8⟩
  have h8 := h6.keep hX y8
  clear HC h6 ri qk qa HSS hE6 HE y8
  go_wp2_with fail
  refine (add_any hX hc t h8 (by omega)).mono ?_
  rintro e w9 ⟨rfl, h9⟩
  have HF : Hid (SW X B (c + 1) w9) := h9
  clear h8 h9
  go_wp2
  go_ret
  exact ⟨rfl, HF.out⟩
set_option maxHeartbeats 4000000 in
set_option maxRecDepth 20000 in
theorem ring_14 (hX : X.Local) (HE : Hid (∀ W c, SW X B c W → Et W)) (hc : c ≤ 40000) (o : OpV) (ho : OpOK o) (hk : Hid (o.kind = 14)) (h : SW X B c w) :
    Calls Tryz.prog 17 #[.pointer (some ⟨B, 0, none⟩), opVal o] w fun e w' => e = .returned (.bool true) ∧ SW X B (c + 1) w' := by
  go_enter Tryz.func17, Tryz.ntmps17
  go_wp2_with fail
  obtain ⟨vT, vP, vS, ts, nP, ps, Φ, h⟩ := h
  have hO := opAt_new w o
  have h1 : SWd X B c vT vP vS ts nP ps Φ (opBox w o) := h.keep hX (World.grownBy_alloc w _ none)
  refine (poly_any hX hc _ ho.x h1).mono ?_
  rintro e w1 ⟨F, rfl, hF, hg1⟩
  have h2 := h1.keep hX hg1
  have hO1 := hO.far hg1 (by simp)
  have blt : w.heap.size < w1.heap.size := Nat.lt_of_lt_of_le (by simp) hg1.size
  generalize w.heap.size = b at *
  clear h h1 hO hg1
  have n1 := new_alloc .i64 w1 (fun _ => 0) 43
  rw [← Tryz.zY] at n1
  go_wp2_with (first | (refine wpL_store rfl .i64 43 _ _ rfl w1.heap.size 0 rfl _ rfl .i64 _ n1.r Tryz.sY ?_; intro w2 p2; have g2 := grown_new n1.g p2.g (Nat.le_refl _); have hO2 := hO1.far g2 (by simp); have qy := hO2.y; clear hO1))
  have h3 := h2.keep hX g2
  refine (poly_any hX hc _ ho.y h3).mono ?_
  rintro e w3 ⟨G, rfl, hG, hg3⟩
  have h4 := h3.keep hX hg3
  have hO3 := hO2.far hg3 (by simp)
  have rF := p2.r.new hg3
  have lF := rF.lt
  obtain ⟨p, hp⟩ : ∃ p, p = w1.heap.size := ⟨_, rfl⟩
  rw [← hp] at rF lF blt ⊢
  clear hp n1 p2 g2 qy h2 h3 hO2 hg3
  have n4 := new_alloc .i64 w3 (fun _ => 0) 43
  rw [← Tryz.zY] at n4
  have rF4 := rF.new n4.g
  have hO4 := hO3.far n4.g (by simp)
  go_wp2_with (first | (refine wpL_store rfl .i64 43 _ _ rfl w3.heap.size 0 rfl _ rfl .i64 _ n4.r Tryz.sY ?_; intro w4 p4; have s4 := p4.s; rw [n4.s] at s4; have n5 := new_alloc .i64 w4 (fun _ => 0) 43; rw [← Tryz.zY] at n5; have z5 := n5.r; rw [s4] at z5; have rF5 := (rF4.far p4.g (by simp; omega)).new n5.g; have rG5 := p4.r.new n5.g; have hO5 := (hO4.far p4.g (by simp; omega)).far n5.g (by simp); have g5 := grownBy_trans (grown_new n4.g p4.g (Nat.le_refl _)) n5.g) | (refine wpL_store rfl .i64 43 _ _ rfl (w3.heap.size + 1) 0 rfl _ (congrArg Value.agg Tryz.zY) .i64 _ z5 Tryz.sY ?_; intro w6 p6; have ri : Rin w6 b p w3.heap.size (w3.heap.size + 1) o F G := ⟨hO5.far p6.g (by simp; omega), rF5.far p6.g (by simp; omega), rG5.far p6.g (by simp), p6.r, blt, lF, Nat.lt_succ_self _⟩; have g6 := grown_new g5 p6.g (by omega); have qk := ri.op.kind; rw [hk.out] at qk; have qx := ri.op.x))
  have h6 := h4.keep hX g6
  have HSS : Hid (∀ W M, w6.grownBy W none → SWd X B c vT vP vS ts nP ps Φ (W.setCells (w3.heap.size + 1) 0 (polyA .i64 M).toList) ∧ PRow .i64 (W.setCells (w3.heap.size + 1) 0 (polyA .i64 M).toList) (w3.heap.size + 1) 0 M) := fun W M hg => by
    have p9 := put_cells .i64 W (w3.heap.size + 1) 0 M ((ri.h.new hg).there .i64 _)
    exact ⟨h4.keep hX (grown_new (grownBy_trans g6 hg) p9.g (by omega)), p9.r⟩
  obtain ⟨q, hq⟩ : ∃ q, q = w3.heap.size := ⟨_, rfl⟩
  rw [← hq] at ri HSS ⊢
  clear hq rF hO3 n4 rF4 hO4 p4 s4 n5 z5 rF5 rG5 hO5 g5 p6 g6 h4
  refine (text_any hc _ ho.x h6).mono ?_
  rintro e w7 ⟨t, rfl, ht, hg7⟩
  have h7 := h6.keep hX hg7
  have r7 := ri.new hg7
  clear qk qx h6 ri
  have qa := r7.op.a
  have hE7 : Et w7 := HE.out w7 c ⟨_, _, _, _, _, _, _, h7⟩
  obtain ⟨M, hM, HC⟩ := unpacked_law o.a t ht w7 hE7
  go_wp2_with fail
  refine HC.mono ?_
  rintro e w8 ⟨rfl, y8⟩
  obtain ⟨hw, rM⟩ := HSS.out w8 M (grownBy_trans hg7 y8)
  have st := run_hidSt w8 (q + 1) M _ (r7.h.new y8)
  clear HC qa hE7 HE HSS h7 r7 hg7 y8
  go_wp2_with fail
  generalize w8.setCells (q + 1) 0 (polyA .i64 M).toList = W9 at *
  clear st
  have hS : SWd X B c vT vP vS ts nP ps Φ W9.drew := hw.keep hX (grown_drew (World.grownBy.refl _ _))
  obtain ⟨g9, cap9, w99, hap, d1, d2, HF⟩ := app_poly hX hc hS M hM
  have ld := run_hidLd W9.drew (q + 1) 0 M rM.drew
  have bs := run_hidBS M
  have c1 : W9.cell? ⟨B, 1, none⟩ = some vP := hS.c1
  have c2 : (W9.alloc (.cells (polyA .i64 M) 43)).cell? ⟨B, 1, none⟩ = some vP := (World.grownBy_alloc W9 _ none).cell c1 (by simp)
  have hap2 : (hidAp #[vP, .slice (some ⟨W9.heap.size, 0, none⟩) 1 1]).run Tryz.prog (W9.alloc (.cells (polyA .i64 M) 43)).drew = .ok (.slice (some ⟨g9, 0, none⟩) (nP + 1) cap9) w99 := hap
  clear hS hw rM hM
  go_wp2
  go_region
  clear hap hap2 ld bs c1 c2 d1 d2
  go_wp2
  go_ret
  exact ⟨rfl, HF.out⟩
end Go.Proofs.YtkijpphmiogbbaaGreatDoor.Z

namespace Go.Proofs.YtkijpphmiogbbaaGreatDoor.Z
open Go.RowKit
attribute [local go_sem ↓] Go.wp_at_zero Go.wp_at_succ
variable {X : Side} {B c : Nat} {w : World}

/-- A script that came in. -/
structure Scr (w : World) (a0 : Option Addr) (len cap : Nat) (ops : Nat → OpV) (adr : Nat → Addr) : Prop where
  ix : ∀ i W, i < len → (Instr.indexAt 22 (.slice a0 len cap) (.int .i64 (i : Int))).run Tryz.prog W = .ok (.pointer (some (adr i))) W
  cell : ∀ i k v, i < len → (opL (ops i))[k]? = some v → w.cell? ((adr i).add k) = some v
  ok : ∀ i, i < len → InI (ops i).kind ∧ InI (ops i).x ∧ InI (ops i).y ∧ InI (ops i).z ∧ InI (ops i).w ∧ InI (ops i).a ∧ InI (ops i).b ∧ (ops i).s.size ≤ 9223372036854775807
  len : len ≤ 9223372036854775807

set_option maxHeartbeats 2000000 in
set_option maxRecDepth 20000 in
theorem small_any (a0 : Option Addr) (len cap : Nat) (ops : Nat → OpV) (adr : Nat → Addr) (h : Scr w a0 len cap ops adr) :
    Calls Tryz.prog 12 #[.slice a0 len cap] w fun e w' => w' = w ∧ (e = .returned (.bool false) ∨ (e = .returned (.bool true) ∧ len ≤ 16384)) := by
  have hl := h.len
  by_cases hbig : 16384 < len
  · have b0 : (16384 : Int) < (len : Int) := by omega
    clear h
    go_enter Tryz.func12, Tryz.ntmps12
    go_wp2
    go_ret
    exact ⟨rfl, Or.inl rfl⟩
  · have b0 : ¬ (16384 : Int) < (len : Int) := by omega
    have b1 : (len : Int) ≤ 16384 := by omega
    have H : Hid (Scr w a0 len cap ops adr) := h
    clear h hbig
    go_enter Tryz.func12, Tryz.ntmps12
    go_wp2
    go_loopw [3, 4] (fun n i wr => ∃ (k : Nat) (m : Int), k ≤ len ∧ i = .int .i64 k ∧ n = .int .i64 m ∧ wr = w) (fun _ i _ => len - (intOf i).toNat)
    case atStart => exact ⟨0, len, by omega, rfl, rfl, rfl⟩
    case round =>
      obtain ⟨k, m, hk, rfl, rfl, rfl⟩ := hrel
      by_cases hlt : k < len
      · have k0 : (k : Int) < (len : Int) := by omega
        have hx := fun W => H.out.ix k W hlt
        have cs : wr.cell? ⟨(adr k).block, (adr k).off + 7, none⟩ = some (.string (ops k).s) := H.out.cell k 7 _ hlt rfl
        by_cases hs : 16384 < IntKind.i64.wrap (m + ((ops k).s.size : Int))
        · have w1 : (16384 : Int) < wrap64 (m + ((ops k).s.size : Int)) := by rw [← IntWalk.i64_left]; exact hs
          have w2 : (16384 : Int) < IntKind.i64.wrap (m + ((ops k).s.size : Int)) := hs
          clear hs
          go_wp2
          go_ret
          exact ⟨rfl, Or.inl rfl⟩
        · have w1 : ¬ (16384 : Int) < wrap64 (m + ((ops k).s.size : Int)) := by rw [← IntWalk.i64_left]; exact hs
          have w2 : ¬ (16384 : Int) < IntKind.i64.wrap (m + ((ops k).s.size : Int)) := hs
          clear hs
          go_wp2
          go_roundw
          case rel => exact ⟨k + 1, _, by omega, by go_num, rfl, trivial⟩
          case measure => simp [intOf]; omega
      · have hkl : len = k := by omega
        subst hkl
        go_wp2
        go_ret
        exact ⟨rfl, Or.inr ⟨rfl, by omega⟩⟩
end Go.Proofs.YtkijpphmiogbbaaGreatDoor.Z

namespace Go.Proofs.YtkijpphmiogbbaaGreatDoor.Z
open Go.RowKit
attribute [local go_sem ↓] Go.wp_at_zero Go.wp_at_succ
variable {X : Side} {B c : Nat} {w : World}

def flat (ops : List OpV) : List Value := ops.flatMap opL
theorem flat_len (ops : List OpV) : (flat ops).length = ops.length * 8 := by
  unfold flat
  induction ops with
  | nil => rfl
  | cons o r ih => rw [List.flatMap_cons, List.length_append, ih, List.length_cons]; show 8 + _ = _; omega
theorem flat_at : ∀ (ops : List OpV) (k j : Nat) (h : k < ops.length), j < 8 → (flat ops)[k * 8 + j]? = (opL ops[k])[j]?
  | o :: r, 0, j, _, hj => by
    unfold flat
    rw [List.flatMap_cons, List.getElem?_append_left (by show 0 * 8 + j < 8; omega)]
    simp
  | o :: r, k + 1, j, h, hj => by
    have h1 : k < r.length := by simpa using h
    have e : (k + 1) * 8 + j = 8 + (k * 8 + j) := by omega
    unfold flat
    rw [List.flatMap_cons, List.getElem?_append_right (by show 8 ≤ _; omega)]
    show (List.flatMap opL r)[(k + 1) * 8 + j - 8]? = _
    rw [show (k + 1) * 8 + j - 8 = k * 8 + j by omega]
    exact flat_at r k j h1 hj
theorem own_op {base : Nat} {v : Value} {ops : List OpV} (h : w.ownsRow base 28 8 v ops.length (flat ops)) (k : Nat) (hk : k < ops.length) {g cap : Nat} (hv : v = .slice (some ⟨g, 0, none⟩) ops.length cap) (j : Nat) (hj : j < 8) (u : Value) (hu : (opL ops[k])[j]? = some u) : w.cell? ⟨g, k * 8 + j, none⟩ = some u := by
  have hc := h.cells (g := g) (by rw [hv]; rfl) (k * 8 + j) u (by rw [flat_at ops k j hk hj]; exact hu)
  have hadd : (⟨g, 0, none⟩ : Addr).add (k * 8 + j) = ⟨g, k * 8 + j, none⟩ := by unfold Addr.add; split <;> simp_all
  rwa [hadd] at hc

abbrev newW (w : World) : World := w.alloc (.cells #[.slice none 0 0, .slice none 0 0, .slice none 0 0, .slice none 0 0, .slice none 0 0, .int .i64 0] 35)
set_option maxHeartbeats 2000000 in
set_option maxRecDepth 20000 in
theorem upTo_any (v : Value) (ops : List OpV) (base : Nat) (hn : ops.length ≤ 16384) (hown : w.ownsRow base 28 8 v ops.length (flat ops))
    (hlow : ∀ W c, SW X w.heap.size c W → ∀ k, k < w.heap.size → W.heap[k]? = w.heap[k]?) (hinit : SW X w.heap.size 0 (newW w))
    (hstep : ∀ o ∈ ops, ∀ c W, c + 1 ≤ 40000 → SW X w.heap.size c W → Calls Tryz.prog 14 #[.pointer (some ⟨w.heap.size, 0, none⟩), opVal o] W fun e W' => e = .returned (.bool true) ∧ SW X w.heap.size (c + 2) W') :
    Calls Tryz.prog 13 #[v] w fun e w' => e = .returned (.int .i64 (-1)) ∧ SW X w.heap.size (2 * ops.length) w' := by
  rcases own_forms hown with ⟨hv, hn0, hx⟩ | ⟨g, cap, hv, hcell⟩
  · subst hv
    rw [hn0]
    go_enter Tryz.func13, Tryz.ntmps13
    go_wp2
    refine wp_loop_rounds 1 ?_
    rw [rounds_succ]
    go_wp2
    go_ret
    exact ⟨rfl, hinit⟩
  · have HC : Hid (∀ k W c, k < ops.length → SW X w.heap.size c W → ∀ j u, j < 8 → (opL (ops[k]?.getD ⟨0, 0, 0, 0, 0, 0, 0, ByteArray.empty⟩))[j]? = some u → W.cell? ⟨g, k * 8 + j, none⟩ = some u) := fun k W c hk hW j u hj hu => by
      rw [List.getElem?_eq_getElem hk] at hu
      have h1 := own_op hown k hk hv j hj u hu
      have hg : g < w.heap.size := cell_lt h1
      rw [World.cell?_of_block (a := ⟨g, k * 8 + j, none⟩) (hlow W c hW g hg)]; exact h1
    have HS : Hid (∀ o ∈ ops, ∀ c W, c + 1 ≤ 40000 → SW X w.heap.size c W → Calls Tryz.prog 14 #[.pointer (some ⟨w.heap.size, 0, none⟩), opVal o] W fun e W' => e = .returned (.bool true) ∧ SW X w.heap.size (c + 2) W') := hstep
    obtain ⟨n, hn9⟩ : ∃ n, n = ops.length := ⟨_, rfl⟩
    have HN : Hid (n = ops.length) := hn9
    rw [← hn9] at hv hn
    subst hv
    clear hcell hstep hown hlow hn9
    go_enter Tryz.func13, Tryz.ntmps13
    go_wp2
    go_loopw [4] (fun i wr => ∃ k : Nat, k ≤ n ∧ i = .int .i64 k ∧ SW X w.heap.size (2 * k) wr) (fun i _ => n - (intOf i).toNat)
    case atStart => exact ⟨0, by omega, rfl, hinit⟩
    case round =>
      clear hinit
      obtain ⟨k, hk, rfl, hW⟩ := hrel
      by_cases hlt : k < n
      · have k0 : (k : Int) < (n : Int) := by omega
        have n0 : (n : Int) ≤ 16384 := by omega
        have hkn : k < ops.length := by rw [← HN.out]; exact hlt
        obtain ⟨o, ho9⟩ : ∃ o, o = ops[k]?.getD ⟨0, 0, 0, 0, 0, 0, 0, ByteArray.empty⟩ := ⟨_, rfl⟩
        have hmem : o ∈ ops := by rw [ho9, List.getElem?_eq_getElem hkn]; exact List.getElem_mem hkn
        have cc := HC.out k wr _ hkn hW
        rw [← ho9] at cc
        have e0 : wr.cell? ⟨g, k * 8, none⟩ = some (.int .i64 o.kind) := cc 0 _ (by omega) rfl
        have e1 := cc 1 _ (by omega) rfl
        have e2 := cc 2 _ (by omega) rfl
        have e3 := cc 3 _ (by omega) rfl
        have e4 := cc 4 _ (by omega) rfl
        have e5 := cc 5 _ (by omega) rfl
        have e6 := cc 6 _ (by omega) rfl
        have e7 := cc 7 _ (by omega) rfl
        clear cc ho9
        go_wp2_with fail
        refine (HS.out o hmem (2 * k) wr (by omega) hW).mono ?_
        rintro e w1 ⟨rfl, h1⟩
        clear e0 e1 e2 e3 e4 e5 e6 e7
        go_wp2
        go_roundw
        case rel => exact ⟨k + 1, by omega, by go_num, h1⟩
        case measure => simp [intOf]; omega
      · have hkn : n = k := by omega
        subst hkn
        go_wp2
        go_ret
        refine ⟨rfl, ?_⟩
        rw [← HN.out]; exact hW
end Go.Proofs.YtkijpphmiogbbaaGreatDoor.Z
