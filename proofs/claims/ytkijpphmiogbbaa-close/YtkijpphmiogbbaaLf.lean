import Derived.Test.YtkijpphmiogbbaaLe
namespace Go.Proofs.Ytkijpphmiogbbaa
open Go.RowKit
attribute [local go_sem ↓] Go.wp_at_zero Go.wp_at_succ

theorem dec_lt (a d : Nat) (ha : a < 2 ^ d) (hd0 : 1 ≤ d) (hd1 : d ≤ 11) : decI d a < 65536 := by
  have hp : (2 : Nat) ^ d ≤ 2048 := Nat.pow_le_pow_right (n := 2) (by omega) hd1
  have h1 : (2 : Nat) ^ (d - 1) ≤ 1024 := Nat.pow_le_pow_right (n := 2) (by omega) (show d - 1 ≤ 10 by omega)
  have h0 := Nat.two_pow_pos d
  unfold decI
  rw [Nat.div_lt_iff_lt_mul h0]
  omega
theorem hid_mk {p : Prop} (h : p) : Hid p := h
theorem three_size (w : World) (v : Value) (T U V : TypeId) (A B : Array Value) : (((w.alloc (.cells #[v] T)).alloc (.cells A U)).alloc (.cells B V)).heap.size = w.heap.size + 1 + 1 + 1 := by
  rw [World.size_alloc, World.size_alloc, World.size_alloc]
/-- buildSlice, kept from being laid open by the walk. -/
def hidBS (n : Nat) (parts : Array (Nat × Value)) : Sem Value := Instr.buildSlice 49 n parts
theorem bs_hide (n : Nat) (parts : Array (Nat × Value)) : Instr.buildSlice 49 n parts = hidBS n parts := rfl
theorem run_hid1 (L : Nat → Int) (W : World) : (hidBS 1 #[(0, .agg (polyL .i64 L).toArray)]).run Try.prog W = .ok (.slice (some ⟨W.heap.size, 0, none⟩) 1 1) (W.alloc (.cells (polyA .i64 L) 24)) := bs_one L W
attribute [local go_sem ↓] bs_hide
attribute [local go_sem] run_hid1
set_option maxHeartbeats 1000000 in
set_option maxRecDepth 20000 in
theorem decompress_any (L : Nat → Nat) (d : Nat) (w : World) (hL : ∀ i, i < 256 → L i < 2 ^ d) (hd0 : 1 ≤ d) (hd1 : d ≤ 11) :
    Calls Try.prog 13 #[.int .i64 d, .agg (polyA .i64 (fun i => (L i : Int)))] w fun e w' => e = .returned (.tuple #[.agg (polyA .i64 (fun i => ((decI d (L i) : Nat) : Int))), .nilIface]) ∧ w.grownBy w' none := by
  have t1 := three w (.int .i64 (d : Int)) 3 24 24 .i64 .i64 (fun i => (L i : Int))
  have s1 := three_size w (.int .i64 (d : Int)) 3 24 24 (polyA .i64 (fun i => (L i : Int))) (polyA .i64 (fun _ => 0))
  rw [← Try.z24] at t1 s1
  have g1 := t1.g
  have c1 := t1.c
  have r1 := t1.r.drew.range
  have z1 := t1.z.drew.there256
  have d0 : decide ((d : Int) < 1) = false := by simp; omega
  have d1 : decide ((11 : Int) < (d : Int)) = false := by simp; omega
  have HL : Hid (∀ i, i < 256 → L i < 2 ^ d) := hL
  have HB : Hid (∀ i, i < 256 → decI d (L i) < 65536) := fun i hi => dec_lt (L i) d (hL i hi) hd0 hd1
  clear hL
  have hu := Try.uP
  have hi : (Try.prog.info? 24).map (·.size) = some (polyL .i64 (fun i => (L i : Int))).length := by rw [polyL_len]; exact Try.sP
  have hi2 : (Try.prog.info? 24).map (·.size) = some (polyL .i64 (fun i => ((decI d (L i) : Nat) : Int))).length := by rw [polyL_len]; exact Try.sP
  have hl2 : (polyL .i64 (fun i => ((decI d (L i) : Nat) : Int))).length = 256 := polyL_len _ _
  have ho2 : ∀ v ∈ polyL .i64 (fun i => ((decI d (L i) : Nat) : Int)), v.oneCell' = true := polyL_one _ _
  have hbw : w.heap.size + 1 ≠ w.heap.size + 1 + 1 := by omega
  have hcw : w.heap.size ≠ w.heap.size + 1 + 1 := by omega
  go_enter Try.func13, Try.ntmps13
  go_wp2_with fail
  generalize ((w.alloc (.cells #[.int .i64 (d : Int)] 3)).alloc (.cells (polyA .i64 (fun i => (L i : Int))) 24)).alloc (.cells Try.zeroCells24 24) = w1 at *
  have hS1 : w1.drew.rangeAt (w.heap.size + 1) 0 (polyL .i64 (fun i => (L i : Int))) ∧ w1.drew.cell? ⟨w.heap.size, 0, none⟩ = some (.int .i64 (d : Int)) ∧ w1.drew.there (w.heap.size + 1 + 1) 0 256 := ⟨t1.r.range, t1.c, t1.z.there256⟩
  have hS0 : w1.rangeAt (w.heap.size + 1) 0 (polyL .i64 (fun i => (L i : Int))) ∧ w1.cell? ⟨w.heap.size, 0, none⟩ = some (.int .i64 (d : Int)) ∧ w1.there (w.heap.size + 1 + 1) 0 256 := ⟨t1.r.range, t1.c, t1.z.there256⟩
  have hS2 := keepG hS0 (grown_drew (World.grownBy_alloc w1 (.cells (polyA .i64 (fun i => (L i : Int))) 24) none))
  clear hS0
  have n2 := new_alloc .i64 w1 (fun i => (L i : Int)) 24
  have r2 := n2.r
  rw [s1] at r2
  have hX : IntKind.i64.wrap (2 ^ d) = ((2 ^ d : Nat) : Int) := by
    have hp : (2 : Nat) ^ d ≤ 2048 := Nat.pow_le_pow_right (n := 2) (by omega) hd1
    have e : (2 : Int) ^ d = ((2 ^ d : Nat) : Int) := by simp
    rw [e]; generalize (2 : Nat) ^ d = q at *
    rw [IntKind.wrap_i64] <;> omega
  have HM : ∀ W c, (w1.alloc (.cells (polyA .i64 (fun i => (L i : Int))) 24)).drew.grownBy W none → (∀ s, s < 1 → PRow .u16 W c (256 * s) (fun i => (L i : Int))) → Calls Try.prog 25 (#[.slice (some ⟨c, 0, none⟩) 1 1] ++ #[.pointer (some ⟨w.heap.size, 0, none⟩)]) W fun e W' => e = .returned (.agg (polyA .u16 (fun i => ((decI d (L i) : Nat) : Int)))) ∧ W.grownBy W' none :=
    fun W c hg hr => decompressC_any L d c w.heap.size W HL.out hd0 hd1 (hr 0 (by omega)) (hg.cell ((grown_drew n2.g).cell c1 (by simp)) (by simp))
  have hlt : ∀ i, i < 256 → (L i : Int) < IntKind.i64.wrap (2 ^ d) := fun i hi => by rw [hX]; exact Int.ofNat_lt.2 (HL.out i hi)
  have hle : IntKind.i64.wrap (2 ^ d) ≤ 65536 := by
    have hp : (2 : Nat) ^ d ≤ 2048 := Nat.pow_le_pow_right (n := 2) (by omega) hd1
    rw [hX]; omega
  have hlo : ∀ s, s < 1 → ∀ i, i < 256 → (0 : Int) ≤ (L i : Int) ∧ (L i : Int) < IntKind.i64.wrap (2 ^ d) := fun s _ i hi => ⟨Int.natCast_nonneg _, hlt i hi⟩
  have hro : ∀ s, s < 1 → PRow .i64 (w1.alloc (.cells (polyA .i64 (fun i => (L i : Int))) 24)).drew (w.heap.size + 1 + 1 + 1) (256 * s) (fun i => (L i : Int)) := fun s hs => by
    obtain rfl : s = 0 := by omega
    exact r2.drew
  have hto : ∀ i, i < 256 → (0 : Int) ≤ ((decI d (L i) : Nat) : Int) ∧ ((decI d (L i) : Nat) : Int) < 65536 := fun i hi => ⟨Int.natCast_nonneg _, by have := HB.out i hi; omega⟩
  have HC := hid_mk (calc_decompress (fun _ i => (L i : Int)) (fun i => ((decI d (L i) : Nat) : Int)) (IntKind.i64.wrap (2 ^ d)) (w.heap.size + 1 + 1 + 1) 1 #[.pointer (some ⟨w.heap.size, 0, none⟩)] (w1.alloc (.cells (polyA .i64 (fun i => (L i : Int))) 24)).drew (by omega) (by omega) hle hlo hro hto HM)
  clear hlo hro hto
  clear hX HM hlt hle
  go_region_held3 (fun W => W.rangeAt (w.heap.size + 1) 0 (polyL .i64 (fun i => (L i : Int))) ∧ W.cell? ⟨w.heap.size, 0, none⟩ = some (.int .i64 (d : Int)) ∧ W.there (w.heap.size + 1 + 1) 0 256) (first | with_reducible exact hS1 | with_reducible exact hS2 | with_reducible exact keepG hS2 g5 | with_reducible exact keepS (keepG hS2 g5) hbw hcw hl2) (first | (go_at_call 22; refine HC.out.mono ?_; rintro e w5 ⟨rfl, g5⟩; unfold polyA))
  all_goals (
    have p6 := put_cells .i64 w5 (w.heap.size + 1 + 1) 0 (fun i => ((decI d (L i) : Nat) : Int)) (((t1.z.new n2.g).drew.new g5).there .i64 _)
    have e6 : (polyA .i64 (fun i => ((decI d (L i) : Nat) : Int))).toList = polyL .i64 (fun i => ((decI d (L i) : Nat) : Int)) := by simp [polyA]
    rw [e6] at p6
    generalize w5.setCells (w.heap.size + 1 + 1) 0 (polyL .i64 (fun i => ((decI d (L i) : Nat) : Int))) = w6 at *
    go_wp2
    refine bodyPost_ret (res2 rfl .i64 _ w6 (w.heap.size + 1 + 1) _ _ rfl rfl p6.r ⟨_, Try.uP⟩ Try.sP) rfl ⟨rfl, grown_new (grownBy_trans (grownBy_trans g1 (grown_drew n2.g)) g5) p6.g (by omega)⟩)
end Go.Proofs.Ytkijpphmiogbbaa
