import Derived.Test.YtkijpphmiogbbaaL7
namespace Go.Proofs.Ytkijpphmiogbbaa
open Go.RowKit
attribute [local go_sem ↓] Go.wp_at_zero Go.wp_at_succ

theorem PRow.there256 {k : IntKind} {w : World} {b o : Nat} {L : Nat → Int} (h : PRow k w b o L) : w.there b o 256 := fun i hi => ⟨by rw [(h i hi).1]; rfl, (h i hi).2⟩
theorem polyL_one (k : IntKind) (L : Nat → Int) : ∀ v ∈ polyL k L, v.oneCell' = true := by
  intro v hv
  unfold polyL at hv
  simp at hv
  obtain ⟨i, _, rfl⟩ := hv
  rfl
theorem there_new {W W' : World} {b o n : Nat} (h : W.there b o n) (hg : W.grownBy W' none) : W'.there b o n := fun i hi => by
  obtain ⟨v, hv⟩ := Option.isSome_iff_exists.1 (h i hi).1
  exact ⟨by rw [hg.cell hv (by simp)]; rfl, by rw [hg.frozen_far ⟨b, o + i, none⟩ (cell_lt hv) (by simp)]; exact (h i hi).2⟩
theorem range_new {W W' : World} {b o : Nat} {cs : List Value} (h : W.rangeAt b o cs) (hg : W.grownBy W' none) : W'.rangeAt b o cs := fun j v hv => hg.cell (h j v hv) (by simp)
theorem keepG {W W' : World} {b c B : Nat} {cs : List Value} {v : Value} (h : W.rangeAt b 0 cs ∧ W.cell? ⟨c, 0, none⟩ = some v ∧ W.there B 0 256) (hg : W.grownBy W' none) : W'.rangeAt b 0 cs ∧ W'.cell? ⟨c, 0, none⟩ = some v ∧ W'.there B 0 256 :=
  ⟨range_new h.1 hg, hg.cell h.2.1 (by simp), there_new h.2.2 hg⟩
theorem keepS {W : World} {b c B : Nat} {cs vs : List Value} {v : Value} (h : W.rangeAt b 0 cs ∧ W.cell? ⟨c, 0, none⟩ = some v ∧ W.there B 0 256) (hb : b ≠ B) (hc : c ≠ B) (hv : vs.length = 256) :
    (W.setCells B 0 vs).rangeAt b 0 cs ∧ (W.setCells B 0 vs).cell? ⟨c, 0, none⟩ = some v ∧ (W.setCells B 0 vs).there B 0 256 := by
  refine ⟨World.rangeAt_setCells_apart h.1 B 0 vs (Or.inl hb), ?_, fun i hi => ⟨?_, by rw [World.frozen?_setCells]; exact (h.2.2 i hi).2⟩⟩
  · rw [World.cell?_setCells_out B vs 0 W ⟨c, 0, none⟩ (fun e _ => absurd e hc)]; exact h.2.1
  · rw [World.cell?_setCells_in B vs 0 W (fun j hj => (h.2.2 j (by omega)).1) i (by omega)]; rfl

set_option maxHeartbeats 1000000 in
set_option maxRecDepth 20000 in
theorem compressC_any (L : Nat → Nat) (d b c : Nat) (w : World) (hL : ∀ i, i < 256 → L i < 3329) (hd0 : 1 ≤ d) (hd1 : d ≤ 11) (hr : PRow .u16 w b 0 (fun i => (L i : Int))) (hc : w.cell? ⟨c, 0, none⟩ = some (.int .i64 (d : Int))) :
    Calls Try.prog 23 #[.slice (some ⟨b, 0, none⟩) 1 1, .pointer (some ⟨c, 0, none⟩)] w fun e w' => e = .returned (.agg (polyA .u16 (fun i => ((compI d (L i) : Nat) : Int)))) ∧ w.grownBy w' none := by
  have n1 := new_alloc .u16 w (fun _ => 0) 44
  rw [← Try.zQ16] at n1
  have c1 := n1.g.cell hc (by simp)
  have r1 := (hr.new n1.g).drew.range
  have t1 : (w.alloc (.cells Try.zeroCells44 44)).drew.there w.heap.size 0 256 := n1.r.drew.there256
  have hu := Try.uQ16
  have hi : (Try.prog.info? 44).map (·.size) = some (polyL .u16 (fun i => (L i : Int))).length := by rw [polyL_len]; exact Try.sQ16
  have hi2 : (Try.prog.info? 44).map (·.size) = some (polyL .u16 (fun i => ((compI d (L i) : Nat) : Int))).length := by rw [polyL_len]; exact Try.sQ16
  have hl2 : (polyL .u16 (fun i => ((compI d (L i) : Nat) : Int))).length = 256 := polyL_len _ _
  have ho2 : ∀ v ∈ polyL .u16 (fun i => ((compI d (L i) : Nat) : Int)), v.oneCell' = true := polyL_one _ _
  have hbw : b ≠ w.heap.size := by have := hr.lt; omega
  have hcw : c ≠ w.heap.size := by have := cell_lt hc; simp at this; omega
  go_enter Try.func23, Try.ntmps23
  go_wp2_with fail
  go_region_held3 (fun W => W.rangeAt b 0 (polyL .u16 (fun i => (L i : Int))) ∧ W.cell? ⟨c, 0, none⟩ = some (.int .i64 (d : Int)) ∧ W.there w.heap.size 0 256) (first | go_keep | exact keepG (by assumption) (by assumption) | exact keepS (by assumption) hbw hcw hl2) (first | (go_at_call 24; refine (ringCompress_any L d _ hL hd0 hd1).mono ?_; rintro e w5 ⟨rfl, g5⟩; unfold polyA))
  have p6 := put_cells .u16 w5 w.heap.size 0 (fun i => ((compI d (L i) : Nat) : Int)) ((n1.r.drew.new g5).there .u16 _)
  have e6 : (polyA .u16 (fun i => ((compI d (L i) : Nat) : Int))).toList = polyL .u16 (fun i => ((compI d (L i) : Nat) : Int)) := by simp [polyA]
  rw [e6] at p6
  generalize w5.setCells w.heap.size 0 (polyL .u16 (fun i => ((compI d (L i) : Nat) : Int))) = w6 at *
  go_wp2
  refine bodyPost_ret (res1 rfl .u16 _ w6 w.heap.size _ rfl p6.r Try.oQ16 Try.sQ16) rfl ⟨rfl, grown_new (grownBy_trans (grown_drew n1.g) g5) p6.g (by omega)⟩

set_option maxHeartbeats 1000000 in
set_option maxRecDepth 20000 in
theorem decompressC_any (L : Nat → Nat) (d b c : Nat) (w : World) (hL : ∀ i, i < 256 → L i < 2 ^ d) (hd0 : 1 ≤ d) (hd1 : d ≤ 11) (hr : PRow .u16 w b 0 (fun i => (L i : Int))) (hc : w.cell? ⟨c, 0, none⟩ = some (.int .i64 (d : Int))) :
    Calls Try.prog 25 #[.slice (some ⟨b, 0, none⟩) 1 1, .pointer (some ⟨c, 0, none⟩)] w fun e w' => e = .returned (.agg (polyA .u16 (fun i => ((decI d (L i) : Nat) : Int)))) ∧ w.grownBy w' none := by
  have n1 := new_alloc .u16 w (fun _ => 0) 44
  rw [← Try.zQ16] at n1
  have c1 := n1.g.cell hc (by simp)
  have r1 := (hr.new n1.g).drew.range
  have t1 : (w.alloc (.cells Try.zeroCells44 44)).drew.there w.heap.size 0 256 := n1.r.drew.there256
  have hu := Try.uQ16
  have hi : (Try.prog.info? 44).map (·.size) = some (polyL .u16 (fun i => (L i : Int))).length := by rw [polyL_len]; exact Try.sQ16
  have hi2 : (Try.prog.info? 44).map (·.size) = some (polyL .u16 (fun i => ((decI d (L i) : Nat) : Int))).length := by rw [polyL_len]; exact Try.sQ16
  have hl2 : (polyL .u16 (fun i => ((decI d (L i) : Nat) : Int))).length = 256 := polyL_len _ _
  have ho2 : ∀ v ∈ polyL .u16 (fun i => ((decI d (L i) : Nat) : Int)), v.oneCell' = true := polyL_one _ _
  have hbw : b ≠ w.heap.size := by have := hr.lt; omega
  have hcw : c ≠ w.heap.size := by have := cell_lt hc; simp at this; omega
  go_enter Try.func25, Try.ntmps25
  go_wp2_with fail
  go_region_held3 (fun W => W.rangeAt b 0 (polyL .u16 (fun i => (L i : Int))) ∧ W.cell? ⟨c, 0, none⟩ = some (.int .i64 (d : Int)) ∧ W.there w.heap.size 0 256) (first | go_keep | exact keepG (by assumption) (by assumption) | exact keepS (by assumption) hbw hcw hl2) (first | (go_at_call 26; refine (ringDecompress_any L d _ hL hd0 hd1).mono ?_; rintro e w5 ⟨rfl, g5⟩; unfold polyA))
  have p6 := put_cells .u16 w5 w.heap.size 0 (fun i => ((decI d (L i) : Nat) : Int)) ((n1.r.drew.new g5).there .u16 _)
  have e6 : (polyA .u16 (fun i => ((decI d (L i) : Nat) : Int))).toList = polyL .u16 (fun i => ((decI d (L i) : Nat) : Int)) := by simp [polyA]
  rw [e6] at p6
  generalize w5.setCells w.heap.size 0 (polyL .u16 (fun i => ((decI d (L i) : Nat) : Int))) = w6 at *
  go_wp2
  refine bodyPost_ret (res1 rfl .u16 _ w6 w.heap.size _ rfl p6.r Try.oQ16 Try.sQ16) rfl ⟨rfl, grown_new (grownBy_trans (grown_drew n1.g) g5) p6.g (by omega)⟩
end Go.Proofs.Ytkijpphmiogbbaa
