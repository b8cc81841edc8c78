import Derived.Test.YtkijpphmiogbbaaGreatDoorM29
namespace Go.Proofs.YtkijpphmiogbbaaGreatDoor
open Go.RowKit
attribute [local go_sem ↓] Go.wp_at_zero Go.wp_at_succ

theorem res_set {P : Program} {fn : Func} {p s : Tmp} {ty : TypeId} (h : fn.results = #[.cell p ty, .tmp s]) (tmps : Array Value) (w : World) (b : Nat) (g k o : Int) (v : Value)
    (hp : tmps.getD p undef = .pointer (some ⟨b, 0, none⟩)) (hs : tmps.getD s undef = v) (h0 : w.cell? ⟨b, 0, none⟩ = some (.int .i64 g)) (h1 : w.cell? ⟨b, 1, none⟩ = some (.int .i64 k)) (h2 : w.cell? ⟨b, 2, none⟩ = some (.int .i64 o))
    (hu : ∃ d, P.underlying ty = some d ∧ d.isRow = true) (hi : (P.info? ty).map (·.size) = some 3) :
    (results fn tmps).run P w = .ok (.tuple #[.agg #[.int .i64 g, .int .i64 k, .int .i64 o], v]) w := by
  have hp' : tmps[p]?.getD undef = .pointer (some ⟨b, 0, none⟩) := by simpa using hp
  have hs' : tmps[s]?.getD undef = v := by simpa using hs
  obtain ⟨d, hu, hd⟩ := hu
  have hl := run_loadVar_mid (P := P) w b 0 ty [.int .i64 g, .int .i64 k, .int .i64 o] d (set_load h0 h1 h2) hu hd hi
  simp [results, h, hp', hs', asAddr, hl]
set_option maxHeartbeats 400000 in
theorem new44 (w : World) : Calls Tryz.prog 129 #[.int .i64 44] w fun e w' => e = .returned (.tuple #[.agg #[.int .i64 95232, .int .i64 4, .int .i64 80], .nilIface]) ∧ w.grownBy w' none := by
  go_enter Tryz.func129, Tryz.ntmps129
  go_wp2
  refine bodyPost_ret (res_set rfl _ _ w.heap.size 95232 4 80 _ rfl rfl (by rw [World.cell?_alloc_new]; rfl) (by rw [World.cell?_alloc_new]; rfl) (by rw [World.cell?_alloc_new]; rfl) ⟨_, Tryz.underlying176, rfl⟩ (by kernel_rfl)) rfl ⟨rfl, World.grownBy_alloc _ _ _⟩
set_option maxHeartbeats 400000 in
theorem new65 (w : World) : Calls Tryz.prog 129 #[.int .i64 65] w fun e w' => e = .returned (.tuple #[.agg #[.int .i64 261888, .int .i64 6, .int .i64 55], .nilIface]) ∧ w.grownBy w' none := by
  go_enter Tryz.func129, Tryz.ntmps129
  go_wp2
  refine bodyPost_ret (res_set rfl _ _ w.heap.size 261888 6 55 _ rfl rfl (by rw [World.cell?_alloc_new]; rfl) (by rw [World.cell?_alloc_new]; rfl) (by rw [World.cell?_alloc_new]; rfl) ⟨_, Tryz.underlying176, rfl⟩ (by kernel_rfl)) rfl ⟨rfl, World.grownBy_alloc _ _ _⟩
set_option maxHeartbeats 400000 in
theorem new87 (w : World) : Calls Tryz.prog 129 #[.int .i64 87] w fun e w' => e = .returned (.tuple #[.agg #[.int .i64 261888, .int .i64 8, .int .i64 75], .nilIface]) ∧ w.grownBy w' none := by
  go_enter Tryz.func129, Tryz.ntmps129
  go_wp2
  refine bodyPost_ret (res_set rfl _ _ w.heap.size 261888 8 75 _ rfl rfl (by rw [World.cell?_alloc_new]; rfl) (by rw [World.cell?_alloc_new]; rfl) (by rw [World.cell?_alloc_new]; rfl) ⟨_, Tryz.underlying176, rfl⟩ (by kernel_rfl)) rfl ⟨rfl, World.grownBy_alloc _ _ _⟩
/-- The sets of parameters: number, GAMMA, polynomials, hints. -/
def IsSet (n g k o : Int) : Prop := (n = 44 ∧ g = 95232 ∧ k = 4 ∧ o = 80) ∨ (n = 65 ∧ g = 261888 ∧ k = 6 ∧ o = 55) ∨ (n = 87 ∧ g = 261888 ∧ k = 8 ∧ o = 75)
theorem IsSet.gam {n g k o : Int} (h : IsSet n g k o) : g = 95232 ∨ g = 261888 := by unfold IsSet at h; omega
theorem New_any (n g k o : Int) (w : World) (h : IsSet n g k o) : Calls Tryz.prog 129 #[.int .i64 n] w fun e w' => e = .returned (.tuple #[.agg #[.int .i64 g, .int .i64 k, .int .i64 o], .nilIface]) ∧ w.grownBy w' none := by
  rcases h with ⟨rfl, rfl, rfl, rfl⟩ | ⟨rfl, rfl, rfl, rfl⟩ | ⟨rfl, rfl, rfl, rfl⟩
  · exact new44 w
  · exact new65 w
  · exact new87 w
set_option maxHeartbeats 1000000 in
set_option maxRecDepth 20000 in
theorem Decompose_any (L : Nat → Int) (n g k o : Int) (w : World) (hs : IsSet n g k o) (hL : ∀ i, i < 256 → 0 ≤ L i ∧ L i < 8380417) :
    Calls Tryz.prog 66 #[.int .i64 n, .agg (polyA .i64 L)] w fun e w' => e = .returned (.tuple #[.agg (polyA .i64 (fun i => decH g (L i))), .agg (polyA .i64 (fun i => decL g (L i))), .nilIface]) ∧ w.grownBy w' none := by
  have hg := hs.gam
  have hb : ∀ i, i < 256 → (0 ≤ decH g (L i) ∧ decH g (L i) < 4294967296) ∧ -261888 ≤ decL g (L i) ∧ decL g (L i) ≤ 261888 := fun i hi => by
    have h := dec_bounds g (L i) hg (hL i hi).1 (hL i hi).2
    rcases hg with rfl | rfl <;> omega
  have HC : Hid (∀ W, Calls Tryz.prog 127 #[.func (.func 130) #[.agg #[.int .i64 g, .int .i64 k, .int .i64 o]] #[], .agg (polyA .i64 L)] W fun e w' => e = .returned (.tuple #[.agg (polyA .i64 (fun i => decH g (L i))), .agg (polyA .i64 (fun i => decL g (L i))), .nilIface]) ∧ W.grownBy w' none) := fun W =>
    lparted_dec L _ (fun i => decL g (L i) % 8380417) _ g k o W hL (fun i hi => (hb i hi).1) (fun i _ => ⟨Int.emod_nonneg _ (by omega), Int.lt_trans (Int.emod_lt_of_pos _ (by omega)) (by omega)⟩) (fun i hi => cen_back _ (hb i hi).2.1 (hb i hi).2.2) (fun W' => pDecompose_any L g k o W' hg hL)
  have HN : Hid (∀ W, Calls Tryz.prog 129 #[.int .i64 n] W fun e w' => e = .returned (.tuple #[.agg #[.int .i64 g, .int .i64 k, .int .i64 o], .nilIface]) ∧ W.grownBy w' none) := fun W => New_any n g k o W hs
  clear hL hg hb hs
  have t1 := thr_mk w 71 .i64 L
  rw [← Tryz.z24] at t1
  go_enter Tryz.func66, Tryz.ntmps66
  go_wp2_with fail
  refine (HN.out _).mono ?_
  rintro e w2 ⟨rfl, g2⟩
  have g3 := World.grownBy_alloc w2 (.cells #[.int .i64 g, .int .i64 k, .int .i64 o] 176) none
  have r3 := (t1.r.new g2).new g3
  have z3 := (t1.z.new g2).new g3
  have z3' := (t1.z'.new g2).new g3
  have hg3 := grownBy_trans (grownBy_trans t1.g g2) g3
  clear t1 g2 g3
  go_wp2_with (first | (refine wpL_load rfl .i64 71 _ rfl w.heap.size 0 rfl L r3 ⟨_, Tryz.uP⟩ Tryz.sP ?_) | (go_at_call 127; refine (HC.out _).mono ?_; rintro e w5 ⟨rfl, g5⟩) | (refine wpL_store rfl .i64 71 _ _ rfl (w.heap.size + 1) 0 rfl _ rfl .i64 _ (z3.new g5) Tryz.sP ?_; intro w6 p6) | (refine wpL_store rfl .i64 71 _ _ rfl (w.heap.size + 1 + 1) 0 rfl _ rfl .i64 _ ((z3'.new g5).far p6.g (by simp)) Tryz.sP ?_; intro w7 p7))
  refine bodyPost_ret (res3 rfl .i64 _ w7 (w.heap.size + 1) (w.heap.size + 1 + 1) _ _ _ rfl rfl rfl (p6.r.far p7.g (by simp)) p7.r ⟨_, Tryz.uP⟩ Tryz.sP) rfl ⟨rfl, grown_new (grown_new (grownBy_trans hg3 g5) p6.g (by omega)) p7.g (by omega)⟩
end Go.Proofs.YtkijpphmiogbbaaGreatDoor

namespace Go.Proofs.YtkijpphmiogbbaaGreatDoor
open Go.RowKit
attribute [local go_sem ↓] Go.wp_at_zero Go.wp_at_succ

set_option maxHeartbeats 400000 in
theorem halve1_any (a : Int) (w : World) (ha : 0 ≤ a) (ha' : a ≤ 4294967296) :
    Calls Tryz.prog 209 #[.int .i64 a] w fun e w' => e = .returned (.tuple #[.int .i64 ((a - cenI a 8192) / 8192), .int .i64 (cenI a 8192)]) ∧ w' = w := by
  have HC : Hid (∀ W, Calls Tryz.prog 210 #[.int .i64 a, .int .i64 8192] W fun e w' => e = .returned (.tuple #[.int .i64 ((a - cenI a 8192) / 8192), .int .i64 (cenI a 8192)]) ∧ w' = W) := fun W => nearest_any a 8192 W ha ha' (by omega) (by omega)
  generalize (a - cenI a 8192) / 8192 = h at *
  generalize cenI a 8192 = l at *
  go_enter Tryz.func209, Tryz.ntmps209
  go_wp2_with (first | (go_at_call 210; refine (HC.out _).mono ?_; rintro e w' ⟨rfl, hw⟩; rw [hw]; clear hw w'))
  go_ret2
  exact ⟨rfl, rfl⟩
def halH (a : Int) : Int := (a - cenI a 8192) / 8192
theorem hal_bounds (a : Int) (ha : 0 ≤ a) (ha' : a < 8380417) : 0 ≤ halH a ∧ halH a ≤ 1023 ∧ -4096 < cenI a 8192 ∧ cenI a 8192 ≤ 4096 ∧ halH a * 8192 + cenI a 8192 = a := by
  unfold halH cenI
  split <;> omega

section
attribute [local go_sem ↓] d32Ld_hide d32St_hide
set_option maxHeartbeats 2000000 in
set_option maxRecDepth 20000 in
theorem parted_halve (L H D M : Nat → Int) (w : World) (hL : ∀ i, i < 256 → 0 ≤ L i ∧ L i < 4294967296) (hH : ∀ i, i < 256 → 0 ≤ H i ∧ H i < 4294967296) (hD : ∀ i, i < 256 → -8380417 < D i ∧ D i < 8380417) (hDM : ∀ i, i < 256 → (D i + 8380417) % 8380417 = M i)
    (hM : ∀ i W, i < 256 → w.grownBy W none → Calls Tryz.prog 209 #[.int .i64 (L i)] W fun e W' => e = .returned (.tuple #[.int .i64 (H i), .int .i64 (D i)]) ∧ W.grownBy W' none) :
    Calls Tryz.prog 208 #[.agg (polyA .u32 L), .func (.func 209) #[] #[]] w fun e w' => e = .returned (.tuple #[.agg (polyA .u32 H), .agg (polyA .u32 M)]) ∧ w.grownBy w' none := by
  have HM : Hid (∀ i W, i < 256 → w.grownBy W none → Calls Tryz.prog 209 #[.int .i64 (L i)] W fun e W' => e = .returned (.tuple #[.int .i64 (H i), .int .i64 (D i)]) ∧ W.grownBy W' none) := hM
  have HL : Hid (∀ i, i < 256 → 0 ≤ L i ∧ L i < 4294967296) := hL
  have HH : Hid (∀ i, i < 256 → 0 ≤ H i ∧ H i < 4294967296) := hH
  have HD : Hid (∀ i, i < 256 → -8380417 < D i ∧ D i < 8380417) := hD
  have HDM : Hid (∀ i, i < 256 → (D i + 8380417) % 8380417 = M i) := hDM
  clear hM hL hH hD hDM
  have n1 := new_alloc .u32 w L 166
  have n2 := new_alloc .u32 (w.alloc (.cells (polyA .u32 L) 166)) (fun _ => 0) 166
  rw [← Tryz.zQ32] at n2
  have n3 := new_alloc .u32 ((w.alloc (.cells (polyA .u32 L) 166)).alloc (.cells Tryz.zeroCells166 166)) (fun _ => 0) 166
  rw [← Tryz.zQ32] at n3
  go_enter Tryz.func208, Tryz.ntmps208
  go_wp2
  generalize ((w.alloc (.cells (polyA .u32 L) 166)).alloc (.cells Tryz.zeroCells166 166)).alloc (.cells Tryz.zeroCells166 166) = w3 at *
  generalize (w.alloc (.cells (polyA .u32 L) 166)).alloc (.cells Tryz.zeroCells166 166) = w2 at *
  have hR : PRow .u32 w3 w.heap.size 0 L := (n1.r.new n2.g).new n3.g
  have hA : PRow .u32 w3 (w.heap.size + 1) 0 (fun _ => 0) := by have := n2.r.new n3.g; rw [n1.s] at this; exact this
  have hZ : PRow .u32 w3 (w.heap.size + 2) 0 (fun _ => 0) := by have := n3.r; rw [n2.s, n1.s] at this; exact this
  have hg : w.grownBy w3 none := grownBy_trans n1.g (grownBy_trans n2.g n3.g)
  clear n1 n2 n3
  obtain ⟨B, hB⟩ : ∃ B, B = w.heap.size := ⟨_, rfl⟩
  rw [← hB] at hA hR hZ ⊢
  have hB' : w.heap.size ≤ B := by omega
  clear hB
  go_loopw [6, 7, 8, 9] (fun _ _ _ i wr => ∃ k : Nat, k ≤ 256 ∧ i = .int .i64 k ∧ w.grownBy wr none ∧ PRow .u32 wr B 0 L ∧ PRow .u32 wr (B + 1) 0 (fun j => if j < k then H j else 0) ∧ PRow .u32 wr (B + 1 + 1) 0 (fun j => if j < k then M j else 0)) (fun _ _ _ i _ => 256 - (intOf i).toNat)
  case atStart => exact ⟨0, by omega, rfl, hg, hR, hA.ext (fun j _ => by simp), hZ.ext (fun j _ => by simp)⟩
  case round =>
    clear hA hR hZ hg
    obtain ⟨k, hk, rfl, hg, hR, hA, hZ⟩ := hrel
    by_cases hlt : k < 256
    · have b0 : (0 : Int) ≤ (k : Int) := by omega
      have b1 : (k : Int) < 256 := by omega
      have l0 := (HL.out k hlt).1
      have l1 := (HL.out k hlt).2
      have h0 := (HH.out k hlt).1
      have h1 := (HH.out k hlt).2
      have d0 := (HD.out k hlt).1
      have d1 := (HD.out k hlt).2
      have dm := HDM.out k hlt
      have dt : (D k + 8380417).tmod 8380417 = M k := by rw [Int.tmod_eq_emod_of_nonneg (by omega)]; exact dm
      have cL := (hR.at0 k hlt).1
      have cv : IntKind.i64.wrap (L k) = L k := by rw [IntKind.wrap_i64] <;> omega
      have ch : IntKind.u32.wrap (H k) = H k := by rw [IntKind.wrap_u32]; omega
      have cm : IntKind.u32.wrap (M k) = M k := by rw [IntKind.wrap_u32]; omega
      go_wp2_with (first | (go_at_call 209; refine (HM.out k wr hlt hg).mono ?_; rintro e w5 ⟨rfl, g5⟩; have ca := ((hA.new g5).at0 k hlt).1; have fa := ((hA.new g5).at0 k hlt).2; have cz := ((hZ.new g5).at0 k hlt).1; have fz := ((hZ.new g5).at0 k hlt).2))
      go_roundw
      case rel =>
        have hA5 := (((hA.new g5).set0 hlt (H k)).ext (fun j _ => mix_step H (fun _ => 0) k j)).set_other (p := ⟨B + 1 + 1, k, none⟩) (by simp <;> omega) (.int .u32 (M k))
        have hZ5 := (((hZ.new g5).set_other (p := ⟨B + 1, k, none⟩) (by simp <;> omega) (.int .u32 (H k))).set0 hlt (M k)).ext (fun j _ => mix_step M (fun _ => 0) k j)
        exact ⟨k + 1, by omega, by go_num, grown_setNew (grown_setNew (grownBy_trans hg g5) (by simp; omega) _) (by simp; omega) _, ((hR.new g5).set_other (by simp <;> omega) _).set_other (by simp <;> omega) _, hA5, hZ5⟩
      case measure => simp [intOf]; omega
    · have hk6 : k = 256 := by omega
      subst hk6
      have hA' : PRow .u32 wr (B + 1) 0 H := hA.ext (fun j hj => by simp [hj])
      have hZ' : PRow .u32 wr (B + 1 + 1) 0 M := hZ.ext (fun j hj => by simp [hj])
      clear hA hZ
      have ld1 := run_d32Ld wr.drew (B + 1) H hA'.drew
      have ld2 := run_d32Ld wr.drew (B + 1 + 1) M hZ'.drew
      have st1 := run_d32St wr.drew (B + 1) H _ hA'.drew
      have p4 := put_cells .u32 wr.drew (B + 1) 0 H (hA'.drew.there .u32 H)
      have hZ4 := hZ'.drew.far p4.g (by simp)
      have st2 := run_d32St _ (B + 1 + 1) M _ hZ4
      have ld3 := run_d32Ld _ (B + 1 + 1) M hZ4
      have p5 := put_cells .u32 _ (B + 1 + 1) 0 M (hZ4.there .u32 M)
      go_wp2_with fail
      go_region
      clear ld1 ld2 ld3 st1 st2
      generalize (wr.drew.setCells (B + 1) 0 (polyA .u32 H).toList).setCells (B + 1 + 1) 0 (polyA .u32 M).toList = w6 at *
      go_wp2
      refine bodyPost_ret (res22 rfl .u32 _ w6 (B + 1) (B + 1 + 1) H M rfl rfl (p4.r.far p5.g (by simp)) p5.r Tryz.oQ32 Tryz.sQ32) rfl ⟨rfl, grown_new (grown_new (grown_drew hg) p4.g (by omega)) p5.g (by omega)⟩
end
set_option maxHeartbeats 1000000 in
set_option maxRecDepth 20000 in
theorem pHalve_any (L : Nat → Int) (w : World) (hL : ∀ i, i < 256 → 0 ≤ L i ∧ L i < 8380417) :
    Calls Tryz.prog 128 #[.agg (polyA .u32 L)] w fun e w' => e = .returned (.tuple #[.agg (polyA .u32 (fun i => halH (L i))), .agg (polyA .u32 (fun i => cenI (L i) 8192 % 8380417))]) ∧ w.grownBy w' none := by
  have HC : Hid (∀ W, Calls Tryz.prog 208 #[.agg (polyA .u32 L), .func (.func 209) #[] #[]] W fun e w' => e = .returned (.tuple #[.agg (polyA .u32 (fun i => halH (L i))), .agg (polyA .u32 (fun i => cenI (L i) 8192 % 8380417))]) ∧ W.grownBy w' none) := fun W =>
    parted_halve L (fun i => halH (L i)) (fun i => cenI (L i) 8192) _ W (fun i hi => ⟨(hL i hi).1, by have := (hL i hi).2; omega⟩) (fun i hi => by have := hal_bounds (L i) (hL i hi).1 (hL i hi).2; omega) (fun i hi => by have := hal_bounds (L i) (hL i hi).1 (hL i hi).2; omega) (fun _ _ => Int.add_emod_right ..)
      (fun i W' hi _ => (halve1_any (L i) W' (hL i hi).1 (by have := (hL i hi).2; omega)).mono (by rintro e w' ⟨rfl, rfl⟩; exact ⟨rfl, World.grownBy.refl _ _⟩))
  clear hL
  have t1 := thr_mk w 166 .u32 L
  rw [← Tryz.zQ32] at t1
  go_enter Tryz.func128, Tryz.ntmps128
  go_wp2_with (first | (refine wpL_load rfl .u32 166 _ rfl w.heap.size 0 rfl L t1.r Tryz.oQ32 Tryz.sQ32 ?_) | (go_at_call 208; refine (HC.out _).mono ?_; rintro e w5 ⟨rfl, g5⟩) | (refine wpL_store rfl .u32 166 _ _ rfl (w.heap.size + 1) 0 rfl _ rfl .u32 _ (t1.z.new g5) Tryz.sQ32 ?_; intro w6 p6) | (refine wpL_store rfl .u32 166 _ _ rfl (w.heap.size + 1 + 1) 0 rfl _ rfl .u32 _ ((t1.z'.new g5).far p6.g (by simp)) Tryz.sQ32 ?_; intro w7 p7))
  refine bodyPost_ret (res22 rfl .u32 _ w7 (w.heap.size + 1) (w.heap.size + 1 + 1) _ _ rfl rfl (p6.r.far p7.g (by simp)) p7.r Tryz.oQ32 Tryz.sQ32) rfl ⟨rfl, grown_new (grown_new (grownBy_trans t1.g g5) p6.g (by omega)) p7.g (by omega)⟩

section
attribute [local go_sem ↓] d32Ld_hide d64St_hide
set_option maxHeartbeats 2000000 in
set_option maxRecDepth 20000 in
theorem lparted_halve (L H M D : Nat → Int) (w : World) (hL : ∀ i, i < 256 → 0 ≤ L i ∧ L i < 8380417) (hH : ∀ i, i < 256 → 0 ≤ H i ∧ H i < 4294967296) (hM0 : ∀ i, i < 256 → 0 ≤ M i ∧ M i < 4294967296) (hD : ∀ i, i < 256 → cenI (M i) 8380417 = D i)
    (hM : ∀ W, Calls Tryz.prog 128 #[.agg (polyA .u32 L)] W fun e W' => e = .returned (.tuple #[.agg (polyA .u32 H), .agg (polyA .u32 M)]) ∧ W.grownBy W' none) :
    Calls Tryz.prog 127 #[.func (.func 128) #[] #[], .agg (polyA .i64 L)] w fun e w' => e = .returned (.tuple #[.agg (polyA .i64 H), .agg (polyA .i64 D), .nilIface]) ∧ w.grownBy w' none := by
  have HM : Hid (∀ W, Calls Tryz.prog 128 #[.agg (polyA .u32 L)] W fun e W' => e = .returned (.tuple #[.agg (polyA .u32 H), .agg (polyA .u32 M)]) ∧ W.grownBy W' none) := hM
  have HN : Hid (∀ W, Calls Tryz.prog 122 #[.agg (polyA .i64 L), .int .i64 8380417] W fun e w' => e = .returned (.tuple #[.agg (polyA .u32 L), .nilIface]) ∧ W.grownBy w' none) := fun W => narrow32_ok L 8380417 W hL (by omega)
  have HW : Hid (∀ W, Calls Tryz.prog 125 #[.agg (polyA .u32 H)] W fun e w' => e = .returned (.agg (polyA .i64 H)) ∧ W.grownBy w' none) := fun W => wide32_any H W hH
  have HC : Hid (∀ W, Calls Tryz.prog 207 #[.agg (polyA .u32 M)] W fun e w' => e = .returned (.agg (polyA .i64 D)) ∧ W.grownBy w' none) := fun W => Centred_any M D W hM0 hD
  clear hL hH hM0 hD hM
  have t1 := thr_mk w 71 .i64 L
  rw [← Tryz.z24] at t1
  go_enter Tryz.func127, Tryz.ntmps127
  go_wp2_with (first | (refine wpL_load rfl .i64 71 _ rfl w.heap.size 0 rfl L t1.r ⟨_, Tryz.uP⟩ Tryz.sP ?_))
  refine (HN.out _).mono ?_
  rintro e w2 ⟨rfl, g2⟩
  have hg2 := grownBy_trans t1.g g2
  have z2 := t1.z.new g2
  have z2' := t1.z'.new g2
  clear t1 g2
  have n3 := new_alloc .u32 w2 (fun _ => 0) 166
  rw [← Tryz.zQ32] at n3
  go_wp2_with (first | (refine wpL_store rfl .u32 166 _ _ rfl w2.heap.size 0 rfl _ rfl .u32 _ n3.r Tryz.sQ32 ?_; intro w3 p3) | (refine wpL_load rfl .u32 166 _ rfl w2.heap.size 0 rfl L p3.r Tryz.oQ32 Tryz.sQ32 ?_))
  refine (HM.out _).mono ?_
  rintro e w4 ⟨rfl, g4⟩
  have l2 := hg2.size
  have zl := z2.lt
  have zl' := z2'.lt
  have z4 := ((z2.new n3.g).far p3.g (by simp; omega)).new g4
  have z4' := ((z2'.new n3.g).far p3.g (by simp; omega)).new g4
  have hg4 := grownBy_trans (grown_new (grownBy_trans hg2 n3.g) p3.g (by omega)) g4
  clear n3 p3 g4 z2 z2' hg2 zl zl'
  have n5 := new_alloc .u32 w4 (fun _ => 0) 166
  rw [← Tryz.zQ32] at n5
  have n6 := new_alloc .u32 (w4.alloc (.cells Tryz.zeroCells166 166)) (fun _ => 0) 166
  rw [← Tryz.zQ32] at n6
  have r5 := n5.r.new n6.g
  have r6 := n6.r
  rw [n5.s] at r6
  go_wp2_with (first | (refine wpL_store rfl .u32 166 _ _ rfl w4.heap.size 0 rfl _ rfl .u32 _ r5 Tryz.sQ32 ?_; intro w7 p7) | (refine wpL_store rfl .u32 166 _ _ rfl (w4.heap.size + 1) 0 rfl _ rfl .u32 _ (r6.far p7.g (by simp)) Tryz.sQ32 ?_; intro w8 p8))
  have l4 := hg4.size
  have zl := z4.lt
  have zl' := z4'.lt
  have z8 := (((((z4.new n5.g).new n6.g).far p7.g (by simp; omega)).far p8.g (by simp; omega))).drew
  have z8' := (((((z4'.new n5.g).new n6.g).far p7.g (by simp; omega)).far p8.g (by simp; omega))).drew
  have hg8 := grown_drew (grown_new (grown_new (grownBy_trans hg4 (grownBy_trans n5.g n6.g)) p7.g (by omega)) p8.g (by omega))
  have a8 := (p7.r.far p8.g (by simp)).drew
  have b8 := p8.r.drew
  clear n5 n6 p7 p8 r5 r6 z4 z4' hg4
  have ld1 := run_d32Ld w8.drew w4.heap.size H a8
  have ld2 := run_d32Ld w8.drew (w4.heap.size + 1) M b8
  obtain ⟨X, hX⟩ : ∃ X, X = w8.drew := ⟨_, rfl⟩
  rw [← hX] at z8 z8' a8 b8 hg8
  go_region_with (first | (go_at_call 125; refine (HW.out _).mono ?_; rintro e w9 ⟨rfl, g9⟩; rw [← hX] at g9; have ld3 := run_d32Ld w9 (w4.heap.size + 1) M (b8.new g9)) | (go_at_call 207; refine (HC.out _).mono ?_; rintro e wa ⟨rfl, ga⟩; have st1 := run_d64St wa (w.heap.size + 1) H _ ((z8.new g9).new ga); have pb := put_cells .i64 wa (w.heap.size + 1) 0 H (((z8.new g9).new ga).there .i64 H); have st2 := run_d64St _ (w.heap.size + 1 + 1) D _ (((z8'.new g9).new ga).far pb.g (by simp))))
  all_goals (
    have zb := ((z8'.new g9).new ga).far pb.g (by simp)
    have pc := put_cells .i64 _ (w.heap.size + 1 + 1) 0 D (zb.there .i64 D)
    clear st1 st2 ld3
    generalize (wa.setCells (w.heap.size + 1) 0 (polyA .i64 H).toList).setCells (w.heap.size + 1 + 1) 0 (polyA .i64 D).toList = wd at *
    go_wp2
    refine bodyPost_ret (res3 rfl .i64 _ wd (w.heap.size + 1) (w.heap.size + 1 + 1) H D _ rfl rfl rfl (pb.r.far pc.g (by simp)) pc.r ⟨_, Tryz.uP⟩ Tryz.sP) rfl ⟨rfl, grown_new (grown_new (grownBy_trans (grownBy_trans hg8 g9) ga) pb.g (by omega)) pc.g (by omega)⟩)
end
set_option maxHeartbeats 1000000 in
set_option maxRecDepth 20000 in
theorem Halve_any (L : Nat → Int) (w : World) (hL : ∀ i, i < 256 → 0 ≤ L i ∧ L i < 8380417) :
    Calls Tryz.prog 65 #[.agg (polyA .i64 L)] w fun e w' => e = .returned (.tuple #[.agg (polyA .i64 (fun i => halH (L i))), .agg (polyA .i64 (fun i => cenI (L i) 8192)), .nilIface]) ∧ w.grownBy w' none := by
  have HC : Hid (∀ W, Calls Tryz.prog 127 #[.func (.func 128) #[] #[], .agg (polyA .i64 L)] W fun e w' => e = .returned (.tuple #[.agg (polyA .i64 (fun i => halH (L i))), .agg (polyA .i64 (fun i => cenI (L i) 8192)), .nilIface]) ∧ W.grownBy w' none) := fun W =>
    lparted_halve L _ (fun i => cenI (L i) 8192 % 8380417) _ W hL (fun i hi => by have := hal_bounds (L i) (hL i hi).1 (hL i hi).2; omega) (fun i _ => ⟨Int.emod_nonneg _ (by omega), Int.lt_trans (Int.emod_lt_of_pos _ (by omega)) (by omega)⟩) (fun i hi => by have := hal_bounds (L i) (hL i hi).1 (hL i hi).2; exact cen_back _ (by omega) (by omega)) (fun W' => pHalve_any L W' hL)
  clear hL
  have t1 := thr_mk w 71 .i64 L
  rw [← Tryz.z24] at t1
  go_enter Tryz.func65, Tryz.ntmps65
  go_wp2_with (first | (refine wpL_load rfl .i64 71 _ rfl w.heap.size 0 rfl L t1.r ⟨_, Tryz.uP⟩ Tryz.sP ?_) | (go_at_call 127; refine (HC.out _).mono ?_; rintro e w5 ⟨rfl, g5⟩) | (refine wpL_store rfl .i64 71 _ _ rfl (w.heap.size + 1) 0 rfl _ rfl .i64 _ (t1.z.new g5) Tryz.sP ?_; intro w6 p6) | (refine wpL_store rfl .i64 71 _ _ rfl (w.heap.size + 1 + 1) 0 rfl _ rfl .i64 _ ((t1.z'.new g5).far p6.g (by simp)) Tryz.sP ?_; intro w7 p7))
  refine bodyPost_ret (res3 rfl .i64 _ w7 (w.heap.size + 1) (w.heap.size + 1 + 1) _ _ _ rfl rfl rfl (p6.r.far p7.g (by simp)) p7.r ⟨_, Tryz.uP⟩ Tryz.sP) rfl ⟨rfl, grown_new (grown_new (grownBy_trans t1.g g5) p6.g (by omega)) p7.g (by omega)⟩
end Go.Proofs.YtkijpphmiogbbaaGreatDoor
