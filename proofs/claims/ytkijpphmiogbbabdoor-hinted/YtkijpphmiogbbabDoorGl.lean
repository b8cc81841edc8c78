import Derived.Test.YtkijpphmiogbbabDoorGj
import Derived.Test.YtkijpphmiogbbabDoorGe
import Derived.Test.YtkijpphmiogbbabDoorGk
import Derived.Test.YtkijpphmiogbbabDoorLh
import Derived.Deep.DeepAppendWide
namespace Go.Proofs.YtkijpphmiogbbabDoor
open Go.RowKit
attribute [local go_sem ↓] Go.wp_at_zero Go.wp_at_succ
attribute [local go_sem] Tryd.zv24 Tryd.zv51

theorem hid_mkH {p : Prop} (h : p) : Hid p := h
theorem wrap64_in (x : Int) : -9223372036854775808 ≤ wrap64 x ∧ wrap64 x ≤ 9223372036854775807 := by
  unfold wrap64
  omega
def zI (g x : Int) : Int := (x - g + 8380417) % 8380417
theorem zI_fine (g x : Int) (hg : g = 95232 ∨ g = 261888) (h0 : 0 ≤ x) (h1 : x < 2 * g + 1) : 0 ≤ zI g x ∧ zI g x < 8380417 ∧ (zI g x ≤ g ∨ 8380417 - g ≤ zI g x) := by
  unfold zI
  rcases hg with rfl | rfl <;> omega
/-- Polynomials one behind the other. -/
def flat (Ls : Nat → Nat → Int) (n : Nat) : List Value := (List.range n).flatMap (fun s => polyL .i64 (Ls s))
theorem flat_succ (Ls : Nat → Nat → Int) (n : Nat) : flat Ls (n + 1) = flat Ls n ++ polyL .i64 (Ls n) := by
  unfold flat; rw [List.range_succ, List.flatMap_append]; simp
theorem flat_len (Ls : Nat → Nat → Int) (n : Nat) : (flat Ls n).length = n * 256 := by
  induction n with
  | zero => rfl
  | succ n ih => rw [flat_succ, List.length_append, ih, polyL_len]; omega
theorem flat_at (Ls : Nat → Nat → Int) (n s i : Nat) (hs : s < n) (hi : i < 256) : (flat Ls n)[256 * s + i]? = some (.int .i64 (Ls s i)) := by
  induction n with
  | zero => omega
  | succ n ih =>
    rw [flat_succ]
    by_cases e : s = n
    · subst e
      rw [List.getElem?_append_right (by rw [flat_len]; omega), flat_len, show 256 * s + i - s * 256 = i by omega]
      exact polyL_at _ _ i hi
    · rw [List.getElem?_append_left (by rw [flat_len]; omega)]
      exact ih (by omega)
theorem flat_ext {Ls Ms : Nat → Nat → Int} (n : Nat) (h : ∀ s, s < n → Ls s = Ms s) : flat Ls n = flat Ms n := by
  induction n with
  | zero => rfl
  | succ n ih => rw [flat_succ, flat_succ, ih (fun s hs => h s (by omega)), h n (by omega)]
theorem own_rows {W : World} {base n : Nat} {T : TypeId} {v : Value} {Ls : Nat → Nat → Int} (hn : 0 < n) (h : W.ownsRow base T 256 v n (flat Ls n)) : ∃ b cp, v = .slice (some ⟨b, 0, none⟩) n cp ∧ base ≤ b ∧ ∀ s, s < n → PRow .i64 W b (256 * s) (Ls s) := by
  rcases h.2 with ⟨_, h0⟩ | ⟨b, cp, cur, rfl, hb, hh, h1, h2, h3, h4⟩
  · omega
  refine ⟨b, cp, rfl, hb, fun s hs i hi => ?_⟩
  have hx := flat_at Ls n s i hs hi
  rw [← h4, List.getElem?_take, if_pos (by omega)] at hx
  constructor
  · simp only [World.cell?, hh]
    simpa using hx
  · simp [World.frozen?, hh]
theorem hint_trio (n g : Int) (k o : Nat) (X R : Nat → Int) (hs : IsSet n g k o) (hX : ∀ i, i < 256 → 0 ≤ X i ∧ X i < 2 * g + 1) (hR : ∀ i, i < 256 → 0 ≤ R i ∧ R i < 8380417) :
    ∃ (Hf Wf Vf : Nat → Int) (c : Int), 0 ≤ c ∧ c ≤ 256 ∧
      (∀ W, Calls Tryd.prog 7 #[.int .i64 n, .agg (polyA .i64 (fun i => zI g (X i))), .agg (polyA .i64 R)] W fun e w' => e = .returned (.tuple #[.agg (polyA .i64 Hf), .int .i64 c, .nilIface]) ∧ W.grownBy w' none) ∧
      (∀ W, Calls Tryd.prog 8 #[.int .i64 n, .agg (polyA .i64 Hf), .agg (polyA .i64 R)] W fun e w' => e = .returned (.tuple #[.agg (polyA .i64 Wf), .nilIface]) ∧ W.grownBy w' none) ∧
      (∀ W, Calls Tryd.prog 9 #[.int .i64 n, .agg (polyA .i64 (fun i => (R i + zI g (X i)) % 8380417))] W fun e w' => e = .returned (.tuple #[.agg (polyA .i64 Wf), .agg (polyA .i64 Vf), .nilIface]) ∧ W.grownBy w' none) := by
  have hz := fun i hi => zI_fine g (X i) hs.gam (hX i hi).1 (hX i hi).2
  refine ⟨fun i => hintI g (zI g (X i)) (R i), fun i => decH g ((R i + zI g (X i)) % 8380417), fun i => decL g ((R i + zI g (X i)) % 8380417), (cnt (fun i => hintI g (zI g (X i)) (R i)) 256 : Nat), by omega, ?_, fun W => ?_, fun W => ?_, fun W => ?_⟩
  · have := cnt_le (fun i => hintI g (zI g (X i)) (R i)) 256; omega
  · exact Hint_any (fun i => zI g (X i)) R n g k o W hs (fun i hi => ⟨(hz i hi).1, (hz i hi).2.1⟩) hR
  · have h := UseHint_any (fun i => hintI g (zI g (X i)) (R i)) R n g k o W hs (fun i _ => hint_01 _ _ _) hR
    rw [polyA_ext .i64 (fun i hi => hint_math g (zI g (X i)) (R i) hs.gam (hR i hi).1 (hR i hi).2 (hz i hi).1 (hz i hi).2.1 (hz i hi).2.2)] at h
    exact h
  · exact Decompose_any (fun i => (R i + zI g (X i)) % 8380417) n g k o W hs (fun i _ => ⟨Int.emod_nonneg _ (by omega), Int.emod_lt_of_pos _ (by omega)⟩)
theorem grown_ownH {w w1 w2 : World} {r : Option Nat} (h : w.grownBy w1 none) (k : w1.grownBy w2 r) (hb : ∀ b, r = some b → w.heap.size ≤ b) : w.grownBy w2 none :=
  ⟨k.os.trans h.os, k.tape.trans h.tape, k.output.trans h.output, Nat.le_trans h.size k.size, fun i hi _ => (k.block i (Nat.lt_of_lt_of_le hi h.size) (fun e => by have := hb i e.symm; omega)).trans (h.block i hi (by simp))⟩
/-- A load of a whole polynomial, kept from being laid open. -/
def hidLdH (p : Value) : Sem Value := Instr.loadAt 24 p
theorem ldH_hide (p : Value) : Instr.loadAt 24 p = hidLdH p := rfl
theorem run_hidLdH (W : World) (b f : Nat) (L : Nat → Int) (hr : PRow .i64 W b f L) : (hidLdH (.pointer (some ⟨b, f, none⟩))).run Tryd.prog W = .ok (.agg (polyA .i64 L)) W := by
  unfold hidLdH
  simp only [Instr.loadAt, Instr.sureAddr, Sem.run_bind, Sem.run_pure, Result.andThen_ok, run_loadRow .i64 W 24 b f L hr ⟨_, Tryd.uP⟩ Tryd.sP]
attribute [local go_sem ↓] ldH_hide
set_option maxHeartbeats 2000000 in
set_option maxRecDepth 20000 in
theorem hinted_any (s a b : Int) (w : World) (hs : -9223372036854775808 ≤ s) (hs' : s ≤ 9223372036854775807) (ha : -9223372036854775808 ≤ a) (ha' : a ≤ 9223372036854775807) (hb : -9223372036854775808 ≤ b) (hb' : b ≤ 9223372036854775807) :
    Calls Tryd.prog 3 #[.int .i64 s, .int .i64 a, .int .i64 b] w fun e w' => e = .returned (.bool true) ∧ w.grownBy w' none := by
  obtain ⟨p, hp⟩ : ∃ p, pickI s 3 = p := ⟨_, rfl⟩
  have hp3 : p < 3 := by have := pickI_lt s 3 (by omega); omega
  obtain ⟨n, g, k, o, hset⟩ := pset_ex p hp3
  have hgm := hset.is.gam
  have gl : 0 < g ∧ g ≤ 261888 := by omega
  have g0 := gl.1
  have g1 := gl.2
  have HS : Hid (PSet p n g k o) := hset
  have HSg : Hid (∀ W, Calls Tryd.prog 4 #[.int .i64 s] W fun e w' => e = .returned (.int .i64 n) ∧ W.grownBy w' none) := fun W => signing_det s p n g k o W hs hs' hp hset
  have HG : Hid (∀ W, Calls Tryd.prog 5 #[.int .i64 n] W fun e w' => e = .returned (.int .i64 g) ∧ w' = W) := fun W => gamma_det n g k o W hset.is
  have HP3 : Hid (∀ W, Calls Tryd.prog 10 #[.int .i64 s, .int .i64 3] W fun e w' => e = .returned (.int .i64 p) ∧ w' = W) := fun W => by
    have h := pick_det s 3 W hs hs' (by omega) (by omega)
    rw [hp] at h; exact h
  have HGm : Hid (g = 95232 ∨ g = 261888) := hgm
  clear hset hgm gl hp
  go_enter Tryd.func3, Tryd.ntmps3
  go_wp2_with (first | (go_at_call 4; refine (HSg.out _).mono ?_; rintro e w1 ⟨rfl, q1⟩) | (go_at_call 5; refine (HG.out _).mono ?_; rintro e w' ⟨rfl, hw⟩; rw [hw]; clear hw w'))
  clear HSg HG
  refine (drawn_any a (2 * g + 1) _ ha ha' (by omega) (by omega)).mono ?_
  rintro e w2 ⟨X, hX, rfl, g2⟩
  have q2 := grownBy_trans q1 g2
  have HX : Hid (∀ i, i < 256 → 0 ≤ X i ∧ X i < 2 * g + 1) := hX
  clear hX g2 q1
  have n3 := new_alloc .i64 w2 (fun _ => 0) 24
  rw [← Tryd.z24] at n3
  go_wp2_with (first | (refine wpL_store rfl .i64 24 _ _ rfl w2.heap.size 0 rfl _ rfl .i64 _ n3.r Tryd.sP ?_; intro w4 p4))
  have x4 := p4.r
  have q4 := grown_new (grownBy_trans q2 n3.g) p4.g q2.size
  have l2 := q2.size
  clear n3 p4 q2
  refine (drawn_any b 8380417 _ hb hb' (by omega) (by omega)).mono ?_
  rintro e w5 ⟨R, hR, rfl, g5⟩
  have HR : Hid (∀ i, i < 256 → 0 ≤ R i ∧ R i < 8380417) := hR
  have x5 := x4.new g5
  have q5 := grownBy_trans q4 g5
  have l25 := x5.lt
  have l5 := q5.size
  clear hR g5 q4 x4
  have n6 := new_alloc .i64 w5 (fun _ => 0) 24
  rw [← Tryd.z24] at n6
  go_wp2_with (first | (refine wpL_store rfl .i64 24 _ _ rfl w5.heap.size 0 rfl _ rfl .i64 _ n6.r Tryd.sP ?_; intro w7 p7))
  have x7 := (x5.new n6.g).far p7.g (by simp; omega)
  have r7 := p7.r
  have q7 := grown_new (grownBy_trans q5 n6.g) p7.g l5
  have s7 := p7.s
  rw [n6.s] at s7
  clear n6 p7 x5 q5
  have n8 := new_alloc .i64 w7 (fun _ => 0) 24
  rw [← Tryd.z24] at n8
  have x8 := x7.new n8.g
  have r8 := r7.new n8.g
  have t8 := n8.r
  have q8 := grownBy_trans q7 n8.g
  generalize w7.alloc (.cells Tryd.zeroCells24 24) = w8 at *
  obtain ⟨C, hC⟩ : ∃ C, C = w7.heap.size := ⟨_, rfl⟩
  rw [← hC] at t8 s7 ⊢
  obtain ⟨D, hD⟩ : ∃ D, D = w5.heap.size := ⟨_, rfl⟩
  rw [← hD] at r8 s7 l25 l5 ⊢
  obtain ⟨A, hA⟩ : ∃ A, A = w2.heap.size := ⟨_, rfl⟩
  rw [← hA] at x8 l2 l25 ⊢
  have hCD : D < C := by omega
  clear hC hD hA n8 x7 r7 q7 s7
  go_loopw [12] (fun i wr => ∃ j : Nat, j ≤ 256 ∧ i = .int .i64 j ∧ w.grownBy wr none ∧ PRow .i64 wr A 0 (fun i => if i < j then zI g (X i) else X i) ∧ PRow .i64 wr D 0 R ∧ PRow .i64 wr C 0 (fun i => if i < j then (R i + zI g (X i)) % 8380417 else 0)) (fun i _ => 256 - (intOf i).toNat)
  case atStart => exact ⟨0, by omega, rfl, q8, x8.ext (fun i _ => by simp), r8, t8.ext (fun i _ => by simp)⟩
  case round =>
    clear q8 x8 r8 t8
    obtain ⟨j, hj, rfl, hg, hx, hr, ht⟩ := hrel
    by_cases hlt : j < 256
    · have b0 : (0 : Int) ≤ (j : Int) := by omega
      have b1 : (j : Int) < 256 := by omega
      have x0 := (HX.out j hlt).1
      have x1 := (HX.out j hlt).2
      have r0 := (HR.out j hlt).1
      have r1 := (HR.out j hlt).2
      have zf := zI_fine g (X j) HGm.out x0 x1
      have z0 := zf.1
      have z1 := zf.2.1
      have cx := (hx.at0 j hlt).1
      have fx := (hx.at0 j hlt).2
      have ei : (if j < j then zI g (X j) else X j) = X j := if_neg (by omega)
      rw [ei] at cx
      have zt : (X j - g + 8380417).tmod 8380417 = zI g (X j) := by unfold zI; exact Int.tmod_eq_emod_of_nonneg (by omega)
      have ze : (X j - g + 8380417) % 8380417 = zI g (X j) := rfl
      have HZ : Hid (∀ j, zI g (X j) = zI g (X j)) := fun _ => rfl
      clear zf ei
      have hx' := (hx.set0 hlt (zI g (X j))).ext (fun i _ => mix_step (fun i => zI g (X i)) X j i)
      have hr' : PRow .i64 (wr.setCell ⟨A, j, none⟩ (.int .i64 (zI g (X j)))) D 0 R := hr.set_other (by simp; omega) _
      have ht' : PRow .i64 (wr.setCell ⟨A, j, none⟩ (.int .i64 (zI g (X j)))) C 0 (fun i => if i < j then (R i + zI g (X i)) % 8380417 else 0) := ht.set_other (by simp; omega) _
      have hg' : w.grownBy (wr.setCell ⟨A, j, none⟩ (.int .i64 (zI g (X j)))) none := grown_setNew hg (by simp; omega) _
      have ez : (if j < j + 1 then zI g (X j) else X j) = zI g (X j) := if_pos (by omega)
      have cz := (hx'.at0 j hlt).1
      rw [ez] at cz
      have cr := (hr'.at0 j hlt).1
      have ct := (ht'.at0 j hlt).1
      have ft := (ht'.at0 j hlt).2
      obtain ⟨z, hz⟩ : ∃ z, z = zI g (X j) := ⟨_, rfl⟩
      obtain ⟨u, hu⟩ : ∃ u, u = (R j + z) % 8380417 := ⟨_, rfl⟩
      rw [← hz] at z0 z1 zt ze cz cr ct ft hx' hr' ht' hg'
      have ut : (R j + z).tmod 8380417 = u := by rw [hu]; exact Int.tmod_eq_emod_of_nonneg (by omega)
      have HU : Hid (u = (R j + zI g (X j)) % 8380417) := by show _ = _; rw [hu, hz]
      have cz' : (wr.setCell ⟨A, j, none⟩ (.int .i64 z)).drew.cell? ⟨A, j, none⟩ = _ := cz
      have cr' : (wr.setCell ⟨A, j, none⟩ (.int .i64 z)).drew.cell? ⟨D, j, none⟩ = _ := cr
      have ct' : (wr.setCell ⟨A, j, none⟩ (.int .i64 z)).drew.cell? ⟨C, j, none⟩ = _ := ct
      have ft' : (wr.setCell ⟨A, j, none⟩ (.int .i64 z)).drew.frozen? ⟨C, j, none⟩ = _ := ft
      have HK : Hid (w.grownBy (wr.setCell ⟨A, j, none⟩ (.int .i64 z)) none ∧ PRow .i64 (wr.setCell ⟨A, j, none⟩ (.int .i64 z)) A 0 (fun i => if i < j + 1 then zI g (X i) else X i) ∧ PRow .i64 (wr.setCell ⟨A, j, none⟩ (.int .i64 z)) D 0 R ∧ PRow .i64 (wr.setCell ⟨A, j, none⟩ (.int .i64 z)) C 0 (fun i => if i < j then (R i + zI g (X i)) % 8380417 else 0)) := ⟨hg', hx', hr', ht'⟩
      clear hx hr ht hg hx' hr' ht' hg' cz cr ct ft ez hz hu ze HZ
      go_wp2_with fail
      go_region
      go_wp2
      go_roundw
      case rel =>
        obtain ⟨hg, hx, hr, ht⟩ := HK.out
        have hu := HU.out
        have ht2 : PRow .i64 ((wr.setCell ⟨A, j, none⟩ (.int .i64 z)).setCell ⟨C, j, none⟩ (.int .i64 u)) C 0 (fun i => if i < j + 1 then (R i + zI g (X i)) % 8380417 else 0) := by
          rw [hu]; exact (ht.set0 hlt _).ext (fun i _ => mix_step (fun i => (R i + zI g (X i)) % 8380417) (fun _ => 0) j i)
        have hx2 := hx.set_other (p := ⟨C, j, none⟩) (show C ≠ A by omega) (.int .i64 u)
        have hr2 := hr.set_other (p := ⟨C, j, none⟩) (show C ≠ D by omega) (.int .i64 u)
        have hg2 := grown_setNew hg (p := ⟨C, j, none⟩) (by show w.heap.size ≤ C; omega) (.int .i64 u)
        exact ⟨j + 1, by omega, by go_num, ⟨hg2.os, hg2.tape, hg2.output, hg2.size, hg2.block⟩, hx2, hr2, ht2⟩
      case measure => simp [intOf]; omega
    · have hj6 : j = 256 := by omega
      subst hj6
      have hx' : PRow .i64 wr A 0 (fun i => zI g (X i)) := hx.ext (fun i hi => by simp [hi])
      have ht' : PRow .i64 wr C 0 (fun i => (R i + zI g (X i)) % 8380417) := ht.ext (fun i hi => by simp [hi])
      clear hx ht
      obtain ⟨Hf, Wf, Vf, cn, cn0, cn1, H1, H2, H3⟩ := hint_trio n g k o X R HS.out.is HX.out HR.out
      have HH := hid_mkH H1
      have HU := hid_mkH H2
      have HD := hid_mkH H3
      clear H1 H2 H3 HX HR HGm
      obtain ⟨Z, hZ⟩ : ∃ Z, Z = (fun i => zI g (X i)) := ⟨_, rfl⟩
      obtain ⟨Sm, hSm⟩ : ∃ Sm, Sm = (fun i => (R i + zI g (X i)) % 8380417) := ⟨_, rfl⟩
      rw [← hZ] at hx' HH
      rw [← hSm] at ht' HD
      clear hZ hSm
      have lC := ht'.lt
      have lw := hg.size
      go_wp2_with (first | (refine wpL_load rfl .i64 24 _ rfl A 0 rfl Z hx' ⟨_, Tryd.uP⟩ Tryd.sP ?_) | (refine wpL_load rfl .i64 24 _ rfl D 0 rfl R hr ⟨_, Tryd.uP⟩ Tryd.sP ?_))
      refine (HH.out _).mono ?_
      rintro e v1 ⟨rfl, y1⟩
      have r1 := hr.new y1
      have t1 := ht'.new y1
      have q1 := grownBy_trans hg y1
      have m1 := t1.lt
      have m0 := y1.size
      clear hx' hr ht' hg y1 HH
      have n1 := new_alloc .i64 v1 (fun _ => 0) 24
      rw [← Tryd.z24] at n1
      go_wp2_with (first | (refine wpL_store rfl .i64 24 _ _ rfl v1.heap.size 0 rfl _ rfl .i64 _ n1.r Tryd.sP ?_; intro v2 p2; have r2 := (r1.new n1.g).far p2.g (by simp; omega)) | (refine wpL_load rfl .i64 24 _ rfl v1.heap.size 0 rfl Hf p2.r ⟨_, Tryd.uP⟩ Tryd.sP ?_) | (refine wpL_load rfl .i64 24 _ rfl D 0 rfl R r2 ⟨_, Tryd.uP⟩ Tryd.sP ?_))
      refine (HU.out _).mono ?_
      rintro e v3 ⟨rfl, y3⟩
      have t3 := ((t1.new n1.g).far p2.g (by simp; omega)).new y3
      have q3 := grownBy_trans (grown_new (grownBy_trans q1 n1.g) p2.g q1.size) y3
      have m3 := t3.lt
      have k3 := q3.size
      clear r1 t1 q1 n1 p2 r2 y3 HU
      have n3 := new_alloc .i64 v3 (fun _ => 0) 24
      rw [← Tryd.z24] at n3
      go_wp2_with (first | (refine wpL_store rfl .i64 24 _ _ rfl v3.heap.size 0 rfl _ rfl .i64 _ n3.r Tryd.sP ?_; intro v4 p4; have t4 := (t3.new n3.g).far p4.g (by simp; omega)) | (refine wpL_load rfl .i64 24 _ rfl C 0 rfl Sm t4 ⟨_, Tryd.uP⟩ Tryd.sP ?_))
      refine (HD.out _).mono ?_
      rintro e v5 ⟨rfl, y5⟩
      have u5 := p4.r.new y5
      have q5 := grownBy_trans (grown_new (grownBy_trans q3 n3.g) p4.g q3.size) y5
      have m5 := u5.lt
      have k5 := q5.size
      clear t3 q3 n3 p4 t4 y5 HD
      have n5 := new_alloc .i64 v5 (fun _ => 0) 24
      rw [← Tryd.z24] at n5
      have n6 := new_alloc .i64 (v5.alloc (.cells Tryd.zeroCells24 24)) (fun _ => 0) 24
      rw [← Tryd.z24] at n6
      have a5 := n5.r.new n6.g
      have a6 := n6.r
      rw [n5.s] at a6
      have e1 : decide (cn < 0) = false := by simp; omega
      have e2 : decide (256 < cn) = false := by simp; omega
      go_wp2_with (first | (refine wpL_store rfl .i64 24 _ _ rfl v5.heap.size 0 rfl _ rfl .i64 _ a5 Tryd.sP ?_; intro v6 p6) | (refine wpL_store rfl .i64 24 _ _ rfl (v5.heap.size + 1) 0 rfl _ rfl .i64 _ (a6.far p6.g (by simp)) Tryd.sP ?_; intro v7 p7; have g7 := (((u5.new n5.g).new n6.g).far p6.g (by simp; omega)).far p7.g (by simp; omega); have w7 := p6.r.far p7.g (by simp)) | (refine wpG_load rfl .i64 24 _ rfl v3.heap.size 0 rfl _ g7 ⟨_, Tryd.uP⟩ Tryd.sP ?_) | (refine wpG_load rfl .i64 24 _ rfl v5.heap.size 0 rfl _ w7 ⟨_, Tryd.uP⟩ Tryd.sP ?_) | (refine wpG_neq rfl _ _ _ rfl _ rfl rfl ?_))
      refine (HP3.out _).mono ?_
      rintro e w' ⟨rfl, hw⟩
      rw [hw]
      clear hw w'
      have q7 := grown_new (grown_new (grownBy_trans q5 (grownBy_trans n5.g n6.g)) p6.g (by omega)) p7.g (by omega)
      have g8 := World.grownBy_alloc v7 (.cells #[.int .i64 4, .int .i64 6, .int .i64 8] 3) none
      have q8 := grownBy_trans q7 g8
      have ck := kay_at p n g k o HS.out v7 3
      have pb : (p : Int) < 3 := by omega
      have pa : (0 : Int) ≤ (p : Int) := by omega
      clear n5 n6 p6 p7 g7 w7 a5 a6 u5 q5 q7 g8 e1 e2 HP3
      have HPa : Hid (∀ W, Calls Tryd.prog 10 #[.int .i64 a, .int .i64 7] W fun e w' => e = .returned (.int .i64 (pickI a 7)) ∧ w' = W) := fun W => pick_det a 7 W ha ha' (by omega) (by omega)
      have hA7 : pickI a 7 ≤ 6 := by have := pickI_lt a 7 (by omega); omega
      obtain ⟨A7, hA7e⟩ : ∃ A7, A7 = pickI a 7 := ⟨_, rfl⟩
      rw [← hA7e] at HPa hA7
      clear hA7e
      have hk8 : 4 ≤ k ∧ k ≤ 8 := by have := HS.out; unfold PSet at this; omega
      have k4 := hk8.1
      have k8 := hk8.2
      clear hk8
      go_wp2
      generalize v7.alloc (.cells #[.int .i64 4, .int .i64 6, .int .i64 8] 3) = v8 at *
      clear ck
      have hO0 : v8.ownsRow w.heap.size 24 256 (.slice none 0 0) 0 (flat (fun _ _ => 0) 0) := World.ownsRow_nil v8 w.heap.size 24 256
      go_loopw [22, 23, 24, 25] (fun v i _ _ wr => ∃ (u : Nat) (Ls : Nat → Nat → Int), u ≤ k ∧ i = .int .i64 u ∧ w.grownBy wr none ∧ wr.ownsRow w.heap.size 24 256 v u (flat Ls u) ∧ Hid (∀ s, s < u → (∀ i, i < 256 → 0 ≤ Ls s i ∧ Ls s i < 2) ∧ cnt (Ls s) 256 ≤ 6)) (fun _ i _ _ _ => k - (intOf i).toNat)
      case atStart => exact ⟨0, fun _ _ => 0, by omega, rfl, q8, hO0, fun s hs => absurd hs (by omega)⟩
      case round =>
        clear q8 hO0
        obtain ⟨u, Ls, hu, rfl, hg, hO, HLs⟩ := hrel
        by_cases hlt : u < k
        · have a0 : (0 : Int) ≤ (u : Int) := by omega
          have a1 : (u : Int) < (k : Int) := by omega
          have a2 : (u : Int) ≤ 8 := by omega
          have n1 := new_alloc .i64 wr (fun _ => 0) 24
          rw [← Tryd.z24] at n1
          go_wp2
          have lw2 := hg.size
          have hO1 := hO.alloc (.cells Tryd.zeroCells24 24)
          have f1 := n1.r
          have q1 := grownBy_trans hg n1.g
          have hvF : ∀ x, u22.ownBlock = some x → x < wr.heap.size := fun x hx => (hO.lt x hx).2
          obtain ⟨F, hF⟩ : ∃ F, F = wr.heap.size := ⟨_, rfl⟩
          rw [← hF] at f1 lw2 hvF ⊢
          have HvF : Hid (∀ x, u22.ownBlock = some x → x < F) := hvF
          have HvB : Hid (∀ x, u22.ownBlock = some x → w.heap.size ≤ x) := fun x hx => (hO.lt x hx).1
          generalize wr.alloc (.cells Tryd.zeroCells24 24) = wa at *
          clear hF n1 hO hg hvF
          have hf0 : ∀ i, i < 256 → (0 : Int) ≤ (fun _ : Nat => (0 : Int)) i ∧ (fun _ : Nat => (0 : Int)) i < 2 := fun i _ => by show (0 : Int) ≤ 0 ∧ (0 : Int) < 2; omega
          go_loopw [25] (fun i wr => ∃ (j : Nat) (f : Nat → Int), j ≤ A7 ∧ i = .int .i64 j ∧ w.grownBy wr none ∧ PRow .i64 wr F 0 f ∧ wr.ownsRow w.heap.size 24 256 u22 u (flat Ls u) ∧ Hid ((∀ i, i < 256 → 0 ≤ f i ∧ f i < 2) ∧ cnt f 256 ≤ j)) (fun i _ => A7 - (intOf i).toNat)
          case atStart => exact ⟨0, fun _ => 0, by omega, rfl, q1, f1, hO1, hf0, by rw [cnt_none]; exact Nat.le_refl _⟩
          case round =>
            clear q1 f1 hO1 hf0
            obtain ⟨j, f, hj, rfl, hg, hf, hO, Hf2⟩ := hrel
            by_cases hl2 : j < A7
            · have b0 : (0 : Int) ≤ (j : Int) := by omega
              have b1 : (j : Int) < (A7 : Int) := by omega
              have b2 : (j : Int) ≤ 6 := by omega
              go_wp2_with fail
              refine (HPa.out _).mono ?_
              rintro e w' ⟨rfl, hw⟩
              rw [hw]
              clear hw w'
              go_wp2_with fail
              refine (pick_any _ 256 _ (wrap64_in _).1 (wrap64_in _).2 (by omega) (by omega)).mono ?_
              rintro e w' ⟨q, hq, rfl, hw⟩
              rw [hw]
              clear hw w'
              have c0 : (0 : Int) ≤ (q : Int) := by omega
              have hq' : q < 256 := by omega
              have cc := (hf.at0 q hq').1
              have ff := (hf.at0 q hq').2
              have HK : Hid (w.grownBy wr none ∧ PRow .i64 wr F 0 f ∧ wr.ownsRow w.heap.size 24 256 u22 u (flat Ls u)) := ⟨hg, hf, hO⟩
              clear hg hf hO
              go_wp2
              go_roundw
              case rel =>
                obtain ⟨hg, hf, hO⟩ := HK.out
                have hne : u22.ownBlock ≠ some F := fun e => by have := HvF.out F e; omega
                refine ⟨j + 1, upd f q 1, by omega, by go_num, grown_setNew hg (by show w.heap.size ≤ F; omega) _, hf.set0 hq' 1, hO.kept (row := some F) ⟨rfl, rfl, rfl, by simp, fun k _ hr => Below.heap_setCell _ _ _ _ (fun e => hr (by rw [e]))⟩ (Or.inr hne), fun i hi => ?_, ?_⟩
                · unfold upd
                  split
                  · omega
                  · exact Hf2.out.1 i hi
                · have h1 := cnt_upd f q 1 256
                  have h2 := Hf2.out.2
                  omega
              case measure => simp [intOf]; omega
            · have b1 : ¬ (j : Int) < (A7 : Int) := by omega
              have d1 : decide ((j : Int) < (A7 : Int)) = false := by simp; omega
              have d1' : decide (j < A7) = false := by simp; omega
              go_wp2_with fail
              refine (HPa.out _).mono ?_
              rintro e w' ⟨rfl, hw⟩
              rw [hw]
              clear hw w'
              have lF := hf.lt
              have lwr := hg.size
              have HK : Hid (w.grownBy wr none ∧ wr.ownsRow w.heap.size 24 256 u22 u (flat Ls u)) := ⟨hg, hO⟩
              clear hg hO
              have HO0 : Hid (∀ wb, wr.grownBy wb none → wb.ownsRow w.heap.size 24 256 u22 u (flat Ls u)) := fun wb h => HK.out.2.kept h (by cases hv : u22.ownBlock <;> simp)
              obtain ⟨i0, hi0, hz0, hz1, hz2⟩ := info_parts Tryd.infoP
              have HI : Hid (Tryd.prog.info? 24 = some i0) := hi0
              clear hi0
              go_wp2_with (first | (refine wpL_load rfl .i64 24 _ rfl F 0 rfl f hf ⟨_, Tryd.uP⟩ Tryd.sP ?_) | (refine wpL_bs1 rfl _ rfl f rfl ?_; intro wb nb) | (at_builtin; refine wpList_append_own_wide _ rfl _ _ 36 rfl w.heap.size 24 i0 _ 256 2048 Tryd.uPs HI.out hz0 hz1 hz2 (polyA_size _ _) (by decide) u22 u (flat Ls u) rfl (HO0.out _ nb.g) ⟨wr.heap.size, 0, none⟩ 1 1 (polyL .i64 f) rfl (polyL_len _ _) ?c1 ?c2 ?c3 ?c4 ?c5 ?_))
              case c1 =>
                intro j u hj
                have h1 := nb.r.range j u hj
                have hadd : (⟨wr.heap.size, 0, none⟩ : Addr).add j = ⟨wr.heap.size, 0 + j, none⟩ := by unfold Addr.add; split <;> simp_all
                rw [hadd]; exact h1
              case c2 =>
                intro u hu
                unfold polyL at hu
                obtain ⟨i, _, rfl⟩ := List.mem_map.1 hu
                rfl
              case c3 => unfold maxLen; omega
              case c4 => omega
              case c5 => have := nb.g.size; omega
              intro v' w2 ho hg2 _
              have HF : Hid (w.grownBy w2 none ∧ w2.ownsRow w.heap.size 24 256 v' (u + 1) (flat Ls u ++ polyL .i64 f)) := ⟨grown_ownH (grownBy_trans HK.out.1 nb.g) hg2 (fun b e => HvB.out b e), ho⟩
              clear ho hg2 nb HO0 HI hz0 hz1 hz2 hf HK
              go_wp2
              go_roundw
              case rel =>
                have e9 : flat (fun s => if s = u then f else Ls s) (u + 1) = flat Ls u ++ polyL .i64 f := by
                  rw [flat_succ, if_pos rfl]
                  congr 1
                  exact flat_ext u (fun s hs => if_neg (by omega))
                refine ⟨u + 1, fun s => if s = u then f else Ls s, by omega, by go_num, HF.out.1, by rw [e9]; exact HF.out.2, fun s hs => ?_⟩
                show (∀ i, i < 256 → 0 ≤ (if s = u then f else Ls s) i ∧ (if s = u then f else Ls s) i < 2) ∧ cnt (if s = u then f else Ls s) 256 ≤ 6
                by_cases es : s = u
                · rw [if_pos es]; exact ⟨Hf2.out.1, by have := Hf2.out.2; omega⟩
                · rw [if_neg es]; exact HLs.out s (by omega)
              case measure => simp [intOf]; omega
        · have hu6 : u = k := by omega
          subst hu6
          obtain ⟨bl, cp, hv, hbl, hrows⟩ := own_rows (by omega) hO
          have HR : Hid (∀ s, s < u → PRow .i64 wr bl (256 * s) (Ls s)) := hrows
          have h01 : ∀ s, s < u → ∀ i, i < 256 → 0 ≤ Ls s i ∧ Ls s i < 2 := fun s hs => (HLs.out s hs).1
          have htt : ∀ m, m ≤ u → tot Ls m ≤ 6 * m := fun m => by
            induction m with
            | zero => exact fun _ => Nat.le_refl _
            | succ m ih =>
              intro hm
              have h1 := ih (by omega)
              have h2 := (HLs.out m (by omega)).2
              show tot Ls m + cnt (Ls m) 256 ≤ _
              omega
          have htot : tot Ls u ≤ o := by
            have h1 := htt u (Nat.le_refl _)
            have h2 := HS.out
            unfold PSet at h2
            omega
          have HPk : Hid (∀ W, (∀ s, s < u → PRow .i64 W bl (256 * s) (Ls s)) → Calls Tryd.prog 11 #[.int .i64 n, .slice (some ⟨bl, 0, none⟩) u cp] W fun e w' => ∃ B : Nat → Int, Pck Ls u o B ∧ (∀ p, 0 ≤ B p ∧ B p < 256) ∧ e = .returned (.tuple #[.string (strH B (o + u)), .nilIface]) ∧ W.grownBy w' none) := fun W hr => PackHint_any Ls u o n g bl cp W HS.out.is h01 htot hr
          have HUn : Hid (∀ W B, Pck Ls u o B → (∀ p, 0 ≤ B p ∧ B p < 256) → Calls Tryd.prog 12 #[.int .i64 n, .string (strH B (o + u))] W fun e w' => ∃ N, e = .returned (.tuple #[.slice (some ⟨N, 0, none⟩) u u, .nilIface]) ∧ (∀ s, s < u → PRow .i64 w' N (256 * s) (Ls s)) ∧ W.grownBy w' none) := fun W B h1 h2 => UnpackHint_any Ls u o n g B W HS.out.is h01 htot h1 h2
          subst hv
          clear hO hrows h01 htt htot HLs HPa HS
          go_wp2_with fail
          refine (HPk.out _ HR.out).mono ?_
          rintro e w1 ⟨Bf, hB, hBB, rfl, g1⟩
          have HR1 : Hid (∀ s, s < u → PRow .i64 w1 bl (256 * s) (Ls s)) := fun s hs => (HR.out s hs).new g1
          have q1 := grownBy_trans hg g1
          have HBB : Hid (Pck Ls u o Bf ∧ ∀ p, 0 ≤ Bf p ∧ Bf p < 256) := ⟨hB, hBB⟩
          clear hB hBB g1 hg HR HPk
          go_wp2_with fail
          refine (HUn.out _ Bf HBB.out.1 HBB.out.2).mono ?_
          rintro e w2 ⟨N, rfl, hN, g2⟩
          have HR2 : Hid (∀ s, s < u → PRow .i64 w2 bl (256 * s) (Ls s)) := fun s hs => (HR1.out s hs).new g2
          have HN2 : Hid (∀ s, s < u → PRow .i64 w2 N (256 * s) (Ls s)) := hN
          have q2 := grownBy_trans q1 g2
          clear hN g2 q1 HR1 HUn HBB
          go_wp2
          go_loopw [30] (fun i wr => ∃ j : Nat, j ≤ u ∧ i = .int .i64 j ∧ w.grownBy wr none ∧ Hid (∀ s, s < u → PRow .i64 wr bl (256 * s) (Ls s)) ∧ Hid (∀ s, s < u → PRow .i64 wr N (256 * s) (Ls s))) (fun i _ => u - (intOf i).toNat)
          case atStart => exact ⟨0, by omega, rfl, q2, HR2.out, HN2.out⟩
          case round =>
            clear q2 HR2 HN2
            obtain ⟨j, hj, rfl, hg, HR, HN⟩ := hrel
            by_cases hl2 : j < u
            · have b0 : (0 : Int) ≤ (j : Int) := by omega
              have b1 : (j : Int) < (u : Int) := by omega
              have ix := fun W => ixPolysc bl u cp j hl2 W
              have ix2 := fun W => ixPolysc N u u j hl2 W
              have hr := HR.out j hl2
              have hn := HN.out j hl2
              have ld1 := run_hidLdH wr.drew bl (256 * j) _ hr.drew
              have ld2 := run_hidLdH wr.drew N (256 * j) _ hn.drew
              have nq := fun W => neq_poly (Ls j) W
              have gp := Tryd.guardP
              have hg9 := grown_drew hg
              clear hr hn
              go_wp2_with fail
              go_region
              clear ld1 ld2 nq gp
              go_wp2
              go_roundw
              case rel => exact ⟨j + 1, by omega, by go_num, hg9, fun s hs => (HR.out s hs).drew, fun s hs => (HN.out s hs).drew⟩
              case measure => simp [intOf]; omega
            · have hj6 : j = u := by omega
              subst hj6
              go_wp2
              go_ret
              exact ⟨rfl, hg⟩
end Go.Proofs.YtkijpphmiogbbabDoor
