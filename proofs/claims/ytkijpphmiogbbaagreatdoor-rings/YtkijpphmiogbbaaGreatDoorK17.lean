import Derived.Test.YtkijpphmiogbbaaGreatDoorK16
import Derived.Test.YtkijpphmiogbbaaGreatDoorK15
import Derived.Laws.MakeOwn
namespace Go.Proofs.YtkijpphmiogbbaaGreatDoor
open Go.RowKit
attribute [local go_sem ↓] Go.wp_at_zero Go.wp_at_succ

theorem PRow.there256 {k : IntKind} {w : World} {b o : Nat} {L : Nat → Int} (h : PRow k w b o L) : w.there b o 256 := fun i hi => ⟨by rw [(h i hi).1]; rfl, (h i hi).2⟩
theorem polyL_one (k : IntKind) (L : Nat → Int) : ∀ v ∈ polyL k L, v.oneCell' = true := by
  intro v hv
  unfold polyL at hv
  simp at hv
  obtain ⟨i, _, rfl⟩ := hv
  rfl
theorem there_new {W W' : World} {b o n : Nat} (h : W.there b o n) (hg : W.grownBy W' none) : W'.there b o n := fun i hi => by
  obtain ⟨v, hv⟩ := Option.isSome_iff_exists.1 (h i hi).1
  exact ⟨by rw [hg.cell hv (by simp)]; rfl, by rw [hg.frozen_far ⟨b, o + i, none⟩ (cell_lt hv) (by simp)]; exact (h i hi).2⟩
theorem range_new {W W' : World} {b o : Nat} {cs : List Value} (h : W.rangeAt b o cs) (hg : W.grownBy W' none) : W'.rangeAt b o cs := fun j v hv => hg.cell (h j v hv) (by simp)
theorem keepG {W W' : World} {b c B : Nat} {cs : List Value} {v : Value} (h : W.rangeAt b 0 cs ∧ W.cell? ⟨c, 0, none⟩ = some v ∧ W.there B 0 256) (hg : W.grownBy W' none) : W'.rangeAt b 0 cs ∧ W'.cell? ⟨c, 0, none⟩ = some v ∧ W'.there B 0 256 :=
  ⟨range_new h.1 hg, hg.cell h.2.1 (by simp), there_new h.2.2 hg⟩
theorem keepS {W : World} {b c B : Nat} {cs vs : List Value} {v : Value} (h : W.rangeAt b 0 cs ∧ W.cell? ⟨c, 0, none⟩ = some v ∧ W.there B 0 256) (hb : b ≠ B) (hc : c ≠ B) (hv : vs.length = 256) :
    (W.setCells B 0 vs).rangeAt b 0 cs ∧ (W.setCells B 0 vs).cell? ⟨c, 0, none⟩ = some v ∧ (W.setCells B 0 vs).there B 0 256 := by
  refine ⟨World.rangeAt_setCells_apart h.1 B 0 vs (Or.inl hb), ?_, fun i hi => ⟨?_, by rw [World.frozen?_setCells]; exact (h.2.2 i hi).2⟩⟩
  · rw [World.cell?_setCells_out B vs 0 W ⟨c, 0, none⟩ (fun e _ => absurd e hc)]; exact h.2.1
  · rw [World.cell?_setCells_in B vs 0 W (fun j hj => (h.2.2 j (by omega)).1) i (by omega)]; rfl

set_option maxHeartbeats 1000000 in
set_option maxRecDepth 20000 in
theorem compressC_any (L : Nat → Nat) (d b c : Nat) (w : World) (hL : ∀ i, i < 256 → L i < 3329) (hd0 : 1 ≤ d) (hd1 : d ≤ 11) (hr : PRow .u16 w b 0 (fun i => (L i : Int))) (hc : w.cell? ⟨c, 0, none⟩ = some (.int .i64 (d : Int))) :
    Calls Tryz.prog 110 #[.slice (some ⟨b, 0, none⟩) 1 1, .pointer (some ⟨c, 0, none⟩)] w fun e w' => e = .returned (.agg (polyA .u16 (fun i => ((compI d (L i) : Nat) : Int)))) ∧ w.grownBy w' none := by
  have n1 := new_alloc .u16 w (fun _ => 0) 160
  rw [← Tryz.zQ16] at n1
  have c1 := n1.g.cell hc (by simp)
  have r1 := (hr.new n1.g).drew.range
  have t1 : (w.alloc (.cells Tryz.zeroCells160 160)).drew.there w.heap.size 0 256 := n1.r.drew.there256
  have hu := Tryz.uQ16
  have hi : (Tryz.prog.info? 160).map (·.size) = some (polyL .u16 (fun i => (L i : Int))).length := by rw [polyL_len]; exact Tryz.sQ16
  have hi2 : (Tryz.prog.info? 160).map (·.size) = some (polyL .u16 (fun i => ((compI d (L i) : Nat) : Int))).length := by rw [polyL_len]; exact Tryz.sQ16
  have hl2 : (polyL .u16 (fun i => ((compI d (L i) : Nat) : Int))).length = 256 := polyL_len _ _
  have ho2 : ∀ v ∈ polyL .u16 (fun i => ((compI d (L i) : Nat) : Int)), v.oneCell' = true := polyL_one _ _
  have hbw : b ≠ w.heap.size := by have := hr.lt; omega
  have hcw : c ≠ w.heap.size := by have := cell_lt hc; simp at this; omega
  go_enter Tryz.func110, Tryz.ntmps110
  go_wp2_with fail
  go_region_held3 (fun W => W.rangeAt b 0 (polyL .u16 (fun i => (L i : Int))) ∧ W.cell? ⟨c, 0, none⟩ = some (.int .i64 (d : Int)) ∧ W.there w.heap.size 0 256) (first | go_keep | exact keepG (by assumption) (by assumption) | exact keepS (by assumption) hbw hcw hl2) (first | (go_at_call 111; refine (ringCompress_any L d _ hL hd0 hd1).mono ?_; rintro e w5 ⟨rfl, g5⟩; unfold polyA))
  have p6 := put_cells .u16 w5 w.heap.size 0 (fun i => ((compI d (L i) : Nat) : Int)) ((n1.r.drew.new g5).there .u16 _)
  have e6 : (polyA .u16 (fun i => ((compI d (L i) : Nat) : Int))).toList = polyL .u16 (fun i => ((compI d (L i) : Nat) : Int)) := by simp [polyA]
  rw [e6] at p6
  generalize w5.setCells w.heap.size 0 (polyL .u16 (fun i => ((compI d (L i) : Nat) : Int))) = w6 at *
  go_wp2
  refine bodyPost_ret (res1 rfl .u16 _ w6 w.heap.size _ rfl p6.r Tryz.oQ16 Tryz.sQ16) rfl ⟨rfl, grown_new (grownBy_trans (grown_drew n1.g) g5) p6.g (by omega)⟩

set_option maxHeartbeats 1000000 in
set_option maxRecDepth 20000 in
theorem decompressC_any (L : Nat → Nat) (d b c : Nat) (w : World) (hL : ∀ i, i < 256 → L i < 2 ^ d) (hd0 : 1 ≤ d) (hd1 : d ≤ 11) (hr : PRow .u16 w b 0 (fun i => (L i : Int))) (hc : w.cell? ⟨c, 0, none⟩ = some (.int .i64 (d : Int))) :
    Calls Tryz.prog 112 #[.slice (some ⟨b, 0, none⟩) 1 1, .pointer (some ⟨c, 0, none⟩)] w fun e w' => e = .returned (.agg (polyA .u16 (fun i => ((decI d (L i) : Nat) : Int)))) ∧ w.grownBy w' none := by
  have n1 := new_alloc .u16 w (fun _ => 0) 160
  rw [← Tryz.zQ16] at n1
  have c1 := n1.g.cell hc (by simp)
  have r1 := (hr.new n1.g).drew.range
  have t1 : (w.alloc (.cells Tryz.zeroCells160 160)).drew.there w.heap.size 0 256 := n1.r.drew.there256
  have hu := Tryz.uQ16
  have hi : (Tryz.prog.info? 160).map (·.size) = some (polyL .u16 (fun i => (L i : Int))).length := by rw [polyL_len]; exact Tryz.sQ16
  have hi2 : (Tryz.prog.info? 160).map (·.size) = some (polyL .u16 (fun i => ((decI d (L i) : Nat) : Int))).length := by rw [polyL_len]; exact Tryz.sQ16
  have hl2 : (polyL .u16 (fun i => ((decI d (L i) : Nat) : Int))).length = 256 := polyL_len _ _
  have ho2 : ∀ v ∈ polyL .u16 (fun i => ((decI d (L i) : Nat) : Int)), v.oneCell' = true := polyL_one _ _
  have hbw : b ≠ w.heap.size := by have := hr.lt; omega
  have hcw : c ≠ w.heap.size := by have := cell_lt hc; simp at this; omega
  go_enter Tryz.func112, Tryz.ntmps112
  go_wp2_with fail
  go_region_held3 (fun W => W.rangeAt b 0 (polyL .u16 (fun i => (L i : Int))) ∧ W.cell? ⟨c, 0, none⟩ = some (.int .i64 (d : Int)) ∧ W.there w.heap.size 0 256) (first | go_keep | exact keepG (by assumption) (by assumption) | exact keepS (by assumption) hbw hcw hl2) (first | (go_at_call 113; refine (ringDecompress_any L d _ hL hd0 hd1).mono ?_; rintro e w5 ⟨rfl, g5⟩; unfold polyA))
  have p6 := put_cells .u16 w5 w.heap.size 0 (fun i => ((decI d (L i) : Nat) : Int)) ((n1.r.drew.new g5).there .u16 _)
  have e6 : (polyA .u16 (fun i => ((decI d (L i) : Nat) : Int))).toList = polyL .u16 (fun i => ((decI d (L i) : Nat) : Int)) := by simp [polyA]
  rw [e6] at p6
  generalize w5.setCells w.heap.size 0 (polyL .u16 (fun i => ((decI d (L i) : Nat) : Int))) = w6 at *
  go_wp2
  refine bodyPost_ret (res1 rfl .u16 _ w6 w.heap.size _ rfl p6.r Tryz.oQ16 Tryz.sQ16) rfl ⟨rfl, grown_new (grownBy_trans (grown_drew n1.g) g5) p6.g (by omega)⟩
end Go.Proofs.YtkijpphmiogbbaaGreatDoor

namespace Go.Proofs.YtkijpphmiogbbaaGreatDoor
open Go.RowKit
attribute [local go_sem ↓] Go.wp_at_zero Go.wp_at_succ

theorem made_at (k : IntKind) (n i : Nat) (h : i < n) : (madeCells (polyA k (fun _ => 0)) n)[i]? = some (.int k 0) := by
  unfold madeCells
  rw [Array.getElem?_map, Array.getElem?_range]
  simp only [h, if_true, Option.map_some]
  have hp := polyA_at k (fun _ => 0) (i % 256) (Nat.mod_lt _ (by omega))
  rw [polyA_size, getElem!_def, hp]
theorem made_rows (k : IntKind) (W : World) (m : Nat) (T : TypeId) (s : Nat) (hs : s < m) : PRow k (W.alloc (.cells (madeCells (polyA k (fun _ => 0)) (m * 256)) T)) W.heap.size (256 * s) (fun _ => 0) := fun i hi =>
  ⟨by rw [World.cell?_alloc_new]; exact made_at k _ _ (by omega), World.frozen?_alloc_at _ _ _ _ rfl⟩
theorem run_indexPolys {P : Program} (T : TypeId) (b m cp k : Nat) (hk : k < m) (hT : P.underlying T = some (.slice (P.elem T))) (hs : ∀ W, (sizeOf (P.elem T)).run P W = .ok 256 W) (W : World) :
    (Instr.indexAt T (.slice (some ⟨b, 0, none⟩) m cp) (.int .i64 (k : Int))).run P W = .ok (.pointer (some ⟨b, 256 * k, none⟩)) W := by
  rw [run_indexAt_slice W T _ m cp .i64 k hT, if_pos ⟨by omega, by omega⟩, hs]
  simp [Result.andThen, Addr.add_mid, Nat.mul_comm]
/-- The narrow ones: the first t of m are laid. -/
structure Nar (k : IntKind) (W : World) (N m t : Nat) (Ls : Nat → Nat → Int) : Prop where
  done : ∀ s, s < t → PRow k W N (256 * s) (Ls s)
  left : ∀ s, t ≤ s → s < m → PRow k W N (256 * s) (fun _ => 0)
theorem Nar.new {k : IntKind} {W W' : World} {N m t : Nat} {Ls : Nat → Nat → Int} (h : Nar k W N m t Ls) (hg : W.grownBy W' none) : Nar k W' N m t Ls := ⟨fun s hs => (h.done s hs).new hg, fun s h1 h2 => (h.left s h1 h2).new hg⟩
theorem Nar.far {k : IntKind} {W W' : World} {N m t : Nat} {r : Option Nat} {Ls : Nat → Nat → Int} (h : Nar k W N m t Ls) (hg : W.grownBy W' r) (hne : some N ≠ r) : Nar k W' N m t Ls := ⟨fun s hs => (h.done s hs).far hg hne, fun s h1 h2 => (h.left s h1 h2).far hg hne⟩
theorem PRow.apart {k j : IntKind} {w w' : World} {b o f : Nat} {L M : Nat → Int} (h : PRow k w b o L) (p : Put j w w' b f M) (hap : o + 256 ≤ f ∨ f + 256 ≤ o) : PRow k w' b o L := fun i hi =>
  ⟨by rw [p.out (o + i) (by omega)]; exact (h i hi).1, by rw [p.fz]; exact (h i hi).2⟩
theorem Nar.step {k : IntKind} {W W' : World} {N m t : Nat} {Ls : Nat → Nat → Int} (h : Nar k W N m t Ls) (p : Put k W W' N (256 * t) (Ls t)) : Nar k W' N m (t + 1) Ls := by
  refine ⟨fun s hs => ?_, fun s h1 h2 => (h.left s (by omega) h2).apart p (by omega)⟩
  by_cases e : s = t
  · subst e; exact p.r
  · exact (h.done s (by omega)).apart p (by omega)
end Go.Proofs.YtkijpphmiogbbaaGreatDoor

namespace Go.Proofs.YtkijpphmiogbbaaGreatDoor
open Go.RowKit
attribute [local go_sem ↓] Go.wp_at_zero Go.wp_at_succ

theorem mk16 (m : Nat) (hm : m ≤ 8) (W : World) : (Instr.makeSlice 158 (.int .i64 (m : Int)) (.int .i64 (m : Int))).run Tryz.prog W = .ok (.slice (some ⟨W.heap.size, 0, none⟩) m m) (W.alloc (.cells (madeCells (polyA .u16 (fun _ => 0)) (m * 256)) 160)) := by
  have hinfo : (Tryz.prog.info? 160).map (fun i => (i.zero, i.size, i.bytes)) = some (some (.agg (polyA .u16 (fun _ => 0))), 256, 512) := by kernel_rfl
  obtain ⟨i0, hi, hz0, hz1, hz2⟩ := info_parts hinfo
  have h := run_make (P := Tryz.prog) W 158 160 i0 _ (by kernel_rfl) hi hz0 .i64 .i64 m m (by omega) (by omega) (by rw [hz2]; omega) (by omega)
  rw [hz1] at h
  simpa [Value.cells] using h
theorem ixPolys (b m cp k : Nat) (hk : k < m) (W : World) : (Instr.indexAt 60 (.slice (some ⟨b, 0, none⟩) m cp) (.int .i64 (k : Int))).run Tryz.prog W = .ok (.pointer (some ⟨b, 256 * k, none⟩)) W :=
  run_indexPolys 60 b m cp k hk (by kernel_rfl) (fun W => by kernel_rfl) W
theorem ixPolys16 (b m k : Nat) (hk : k < m) (W : World) : (Instr.indexAt 158 (.slice (some ⟨b, 0, none⟩) m m) (.int .i64 (k : Int))).run Tryz.prog W = .ok (.pointer (some ⟨b, 256 * k, none⟩)) W :=
  run_indexPolys 158 b m m k hk (by kernel_rfl) (fun W => by kernel_rfl) W

set_option maxHeartbeats 2000000 in
set_option maxRecDepth 20000 in
theorem narrowed16_ok (Ls : Nat → Nat → Int) (n : Int) (b m cp : Nat) (w : World) (hm : m ≤ 8) (hn : n ≤ 65536)
    (hL : ∀ s, s < m → ∀ i, i < 256 → 0 ≤ Ls s i ∧ Ls s i < n) (hr : ∀ s, s < m → PRow .i64 w b (256 * s) (Ls s)) :
    Calls Tryz.prog 198 #[.int .i64 n, .slice (some ⟨b, 0, none⟩) m cp] w fun e w' => e = .returned (.tuple #[.slice (some ⟨w.heap.size, 0, none⟩) m m, .nilIface]) ∧ w.grownBy w' none ∧ ∀ s, s < m → PRow .u16 w' w.heap.size (256 * s) (Ls s) := by
  have HL : Hid (∀ s, s < m → ∀ i, i < 256 → 0 ≤ Ls s i ∧ Ls s i < n) := hL
  have HR : Hid (∀ s, s < m → PRow .i64 w b (256 * s) (Ls s)) := hr
  clear hL hr
  have hmk := mk16 m hm
  have m2 := made_rows .u16 w m 160
  have g2 := World.grownBy_alloc w (.cells (madeCells (polyA .u16 (fun _ => 0)) (m * 256)) 160) none
  go_enter Tryz.func198, Tryz.ntmps198
  go_wp2
  generalize w.alloc (.cells (madeCells (polyA .u16 (fun _ => 0)) (m * 256)) 160) = w2 at *
  obtain ⟨B, hB⟩ : ∃ B, B = w.heap.size := ⟨_, rfl⟩
  rw [← hB] at m2 ⊢
  have hN : Nar .u16 w2 B m 0 Ls := ⟨fun s hs => absurd hs (by omega), fun s _ hs => m2 s hs⟩
  have hg : w.grownBy w2 none := g2
  clear g2 m2 hmk
  have hB' : w.heap.size ≤ B := by omega
  have HB : Hid (B = w.heap.size) := hB
  clear hB
  go_loopw [7, 8, 9, 15] (fun _ _ _ i wr => ∃ k : Nat, k ≤ m ∧ i = .int .i64 k ∧ w.grownBy wr none ∧ Nar .u16 wr B m k Ls) (fun _ _ _ i _ => m - (intOf i).toNat)
  case atStart => exact ⟨0, by omega, rfl, hg, hN⟩
  case round =>
    clear hN hg
    obtain ⟨k, hk, rfl, hg, hN⟩ := hrel
    by_cases hlt : k < m
    · have b0 : (0 : Int) ≤ (k : Int) := by omega
      have b1 : (k : Int) < (m : Int) := by omega
      have ix := fun W => ixPolys b m cp k hlt W
      have ix2 := fun W => ixPolys16 B m k hlt W
      have hb := (HR.out k hlt).new hg
      have n1 := new_alloc .i64 wr (fun _ => 0) 71
      rw [← Tryz.z24] at n1
      have hNw : B < wr.heap.size := (hN.left k (Nat.le_refl _) hlt).lt
      go_wp2_with (first | (refine wpL_load rfl .i64 71 _ rfl b (256 * k) rfl _ hb ⟨_, Tryz.uP⟩ Tryz.sP ?_) | (refine wpL_store rfl .i64 71 _ _ rfl wr.heap.size 0 rfl _ rfl .i64 _ n1.r Tryz.sP ?_; intro w3 p3) | (refine wpL_load rfl .i64 71 _ rfl wr.heap.size 0 rfl _ p3.r ⟨_, Tryz.uP⟩ Tryz.sP ?_) | (go_at_call 293; refine (narrow16_ok (Ls k) n _ (HL.out k hlt) hn).mono ?_; rintro e w4 ⟨rfl, g4⟩) | (refine wpL_store rfl .u16 160 _ _ rfl B (256 * k) rfl _ rfl .u16 _ ((((hN.left k (Nat.le_refl _) hlt).new n1.g).far p3.g (by simp; omega)).new g4) Tryz.sQ16 ?_; intro w5 p5))
      go_roundw
      case rel =>
        have hN4 := ((hN.new n1.g).far p3.g (by simp; omega)).new g4
        have hg4 := grownBy_trans (grown_new (grownBy_trans hg n1.g) p3.g (by omega)) g4
        exact ⟨k + 1, by omega, by go_num, grown_new hg4 p5.g (by omega), hN4.step p5⟩
      case measure => simp [intOf]; omega
    · have hk6 : m = k := by omega
      subst hk6
      go_wp2
      have hBe := HB.out
      subst hBe
      go_ret2
      exact ⟨rfl, hg, fun s hs => hN.done s hs⟩
end Go.Proofs.YtkijpphmiogbbaaGreatDoor

namespace Go.Proofs.YtkijpphmiogbbaaGreatDoor
open Go.RowKit
attribute [local go_sem ↓] Go.wp_at_zero Go.wp_at_succ

set_option maxHeartbeats 2000000 in
set_option maxRecDepth 20000 in
theorem calc_compress (Ls : Nat → Nat → Int) (M : Nat → Int) (n : Int) (b m : Nat) (cap : Array Value) (w : World) (hm0 : 1 ≤ m) (hm : m ≤ 2) (hn : n ≤ 65536)
    (hL : ∀ s, s < m → ∀ i, i < 256 → 0 ≤ Ls s i ∧ Ls s i < n) (hr : ∀ s, s < m → PRow .i64 w b (256 * s) (Ls s)) (hM0 : ∀ i, i < 256 → 0 ≤ M i ∧ M i < 65536)
    (hM : ∀ W c, w.grownBy W none → (∀ s, s < m → PRow .u16 W c (256 * s) (Ls s)) → Calls Tryz.prog 110 (#[.slice (some ⟨c, 0, none⟩) m m] ++ cap) W fun e W' => e = .returned (.agg (polyA .u16 M)) ∧ W.grownBy W' none) :
    Calls Tryz.prog 109 #[.int .i64 n, .func (.func 110) #[] cap, .slice (some ⟨b, 0, none⟩) m m] w fun e w' => e = .returned (.tuple #[.agg (polyA .i64 M), .nilIface]) ∧ w.grownBy w' none := by
  have HM : Hid (∀ W c, w.grownBy W none → (∀ s, s < m → PRow .u16 W c (256 * s) (Ls s)) → Calls Tryz.prog 110 (#[.slice (some ⟨c, 0, none⟩) m m] ++ cap) W fun e W' => e = .returned (.agg (polyA .u16 M)) ∧ W.grownBy W' none) := hM
  have H0 : Hid (∀ i, i < 256 → 0 ≤ M i ∧ M i < 65536) := hM0
  have n1 := new_alloc .i64 w (fun _ => 0) 71
  rw [← Tryz.z24] at n1
  have HN : Hid (∀ W, w.grownBy W none → Calls Tryz.prog 198 #[.int .i64 n, .slice (some ⟨b, 0, none⟩) m m] W fun e w' => e = .returned (.tuple #[.slice (some ⟨W.heap.size, 0, none⟩) m m, .nilIface]) ∧ W.grownBy w' none ∧ ∀ s, s < m → PRow .u16 w' W.heap.size (256 * s) (Ls s)) := fun W hg => narrowed16_ok Ls n b m m W (by omega) hn hL (fun s hs => (hr s hs).new hg)
  clear hM hL hr hM0
  go_enter Tryz.func109, Tryz.ntmps109
  go_wp2_with (first | (go_at_call 198; refine (HN.out _ n1.g).mono ?_; rintro e w2 ⟨rfl, g2, r2⟩; rw [n1.s] at r2 ⊢; have hg := grownBy_trans n1.g g2; have hA := n1.r.new g2) | (go_at_call 110; refine (HM.out _ (w.heap.size + 1) hg r2).mono ?_; rintro e w3 ⟨rfl, g3⟩) | (go_at_call 199; refine (wide16_any M _ H0.out).mono ?_; rintro e w4 ⟨rfl, g4⟩) | (refine wpL_store rfl .i64 71 _ _ rfl w.heap.size 0 rfl _ rfl .i64 _ ((hA.new g3).new g4) Tryz.sP ?_; intro w5 p5))
  refine bodyPost_ret (res2 rfl .i64 _ w5 w.heap.size M _ rfl rfl p5.r ⟨_, Tryz.uP⟩ Tryz.sP) rfl ⟨rfl, grown_new (grownBy_trans (grownBy_trans hg g3) g4) p5.g (by omega)⟩

set_option maxHeartbeats 2000000 in
set_option maxRecDepth 20000 in
theorem calc_decompress (Ls : Nat → Nat → Int) (M : Nat → Int) (n : Int) (b m : Nat) (cap : Array Value) (w : World) (hm0 : 1 ≤ m) (hm : m ≤ 2) (hn : n ≤ 65536)
    (hL : ∀ s, s < m → ∀ i, i < 256 → 0 ≤ Ls s i ∧ Ls s i < n) (hr : ∀ s, s < m → PRow .i64 w b (256 * s) (Ls s)) (hM0 : ∀ i, i < 256 → 0 ≤ M i ∧ M i < 65536)
    (hM : ∀ W c, w.grownBy W none → (∀ s, s < m → PRow .u16 W c (256 * s) (Ls s)) → Calls Tryz.prog 112 (#[.slice (some ⟨c, 0, none⟩) m m] ++ cap) W fun e W' => e = .returned (.agg (polyA .u16 M)) ∧ W.grownBy W' none) :
    Calls Tryz.prog 109 #[.int .i64 n, .func (.func 112) #[] cap, .slice (some ⟨b, 0, none⟩) m m] w fun e w' => e = .returned (.tuple #[.agg (polyA .i64 M), .nilIface]) ∧ w.grownBy w' none := by
  have HM : Hid (∀ W c, w.grownBy W none → (∀ s, s < m → PRow .u16 W c (256 * s) (Ls s)) → Calls Tryz.prog 112 (#[.slice (some ⟨c, 0, none⟩) m m] ++ cap) W fun e W' => e = .returned (.agg (polyA .u16 M)) ∧ W.grownBy W' none) := hM
  have H0 : Hid (∀ i, i < 256 → 0 ≤ M i ∧ M i < 65536) := hM0
  have n1 := new_alloc .i64 w (fun _ => 0) 71
  rw [← Tryz.z24] at n1
  have HN : Hid (∀ W, w.grownBy W none → Calls Tryz.prog 198 #[.int .i64 n, .slice (some ⟨b, 0, none⟩) m m] W fun e w' => e = .returned (.tuple #[.slice (some ⟨W.heap.size, 0, none⟩) m m, .nilIface]) ∧ W.grownBy w' none ∧ ∀ s, s < m → PRow .u16 w' W.heap.size (256 * s) (Ls s)) := fun W hg => narrowed16_ok Ls n b m m W (by omega) hn hL (fun s hs => (hr s hs).new hg)
  clear hM hL hr hM0
  go_enter Tryz.func109, Tryz.ntmps109
  go_wp2_with (first | (go_at_call 198; refine (HN.out _ n1.g).mono ?_; rintro e w2 ⟨rfl, g2, r2⟩; rw [n1.s] at r2 ⊢; have hg := grownBy_trans n1.g g2; have hA := n1.r.new g2) | (go_at_call 112; refine (HM.out _ (w.heap.size + 1) hg r2).mono ?_; rintro e w3 ⟨rfl, g3⟩) | (go_at_call 199; refine (wide16_any M _ H0.out).mono ?_; rintro e w4 ⟨rfl, g4⟩) | (refine wpL_store rfl .i64 71 _ _ rfl w.heap.size 0 rfl _ rfl .i64 _ ((hA.new g3).new g4) Tryz.sP ?_; intro w5 p5))
  refine bodyPost_ret (res2 rfl .i64 _ w5 w.heap.size M _ rfl rfl p5.r ⟨_, Tryz.uP⟩ Tryz.sP) rfl ⟨rfl, grown_new (grownBy_trans (grownBy_trans hg g3) g4) p5.g (by omega)⟩
end Go.Proofs.YtkijpphmiogbbaaGreatDoor
