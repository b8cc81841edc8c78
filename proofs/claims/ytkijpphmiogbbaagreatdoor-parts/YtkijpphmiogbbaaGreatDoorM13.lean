import Derived.Test.YtkijpphmiogbbaaGreatDoorM12
import Derived.Great.BuildSlice
namespace Go.Proofs.YtkijpphmiogbbaaGreatDoor
open Go.RowKit

theorem fold_set (off : Nat) : ∀ (l : List Value) (s : Nat) (cs : Array Value), off + s + l.length ≤ cs.size →
    ((l.zipIdx s).foldl (fun (cs : Array Value) (p : Value × Nat) => cs.setIfInBounds (off + p.2) p.1) cs).size = cs.size ∧
    ∀ i, ((l.zipIdx s).foldl (fun (cs : Array Value) (p : Value × Nat) => cs.setIfInBounds (off + p.2) p.1) cs)[i]? = if off + s ≤ i ∧ i < off + s + l.length then l[i - (off + s)]? else cs[i]?
  | [], s, cs, _ => ⟨rfl, fun i => by simp only [List.zipIdx_nil, List.foldl_nil, List.length_nil]; rw [if_neg (by omega)]⟩
  | v :: l, s, cs, h => by
    rw [List.zipIdx_cons, List.foldl_cons]
    simp only [List.length_cons] at h
    have ih := fold_set off l (s + 1) (cs.setIfInBounds (off + s) v) (by simp; omega)
    refine ⟨ih.1.trans (by simp), fun i => ?_⟩
    rw [ih.2 i]
    simp only [List.length_cons]
    by_cases h1 : off + (s + 1) ≤ i ∧ i < off + (s + 1) + l.length
    · rw [if_pos h1, if_pos (by omega), show i - (off + s) = (i - (off + (s + 1))) + 1 by omega, List.getElem?_cons_succ]
    · rw [if_neg h1, Array.getElem?_setIfInBounds]
      by_cases h2 : off + s = i
      · rw [if_pos h2, if_pos (by omega), if_pos (by omega), show i - (off + s) = 0 by omega]; rfl
      · rw [if_neg h2, if_neg (by omega)]
/-- Parts of n cells each, laid one behind the other. -/
theorem fill_gen (n : Nat) (l : List Value) (hl : l.length = n) (t : Nat) (cells : Array Value) (h : t * n + n ≤ cells.size) (rest : List (Nat × Value)) :
    ∃ cs, cs.size = cells.size ∧ (∀ i, cs[i]? = if t * n ≤ i ∧ i < t * n + n then l[i - t * n]? else cells[i]?) ∧
      Instr.fill (fun i => some (i * n, n)) cells ((t, .agg l.toArray) :: rest) = Instr.fill (fun i => some (i * n, n)) cs rest := by
  have hf := fold_set (t * n) l 0 cells (by omega)
  rw [hl, Nat.add_zero] at hf
  refine ⟨_, hf.1, hf.2, ?_⟩
  rw [Instr.fill]
  have hs : (Value.agg l.toArray).cells.size = n := by simp [Value.cells, hl]
  simp only [hs, ne_eq, not_true_eq_false, decide_false, Bool.false_or, decide_eq_true_eq]
  rw [if_neg (by omega)]
  congr 1
  simp [Value.cells]
theorem fill_next (k : IntKind) (L : Nat → Int) (t : Nat) (cells : Array Value) (h : t * 256 + 256 ≤ cells.size) (rest : List (Nat × Value)) :
    ∃ cs, cs.size = cells.size ∧ (∀ i, cs[i]? = if t * 256 ≤ i ∧ i < t * 256 + 256 then (polyL k L)[i - t * 256]? else cells[i]?) ∧
      Instr.fill (fun i => some (i * 256, 256)) cells ((t, .agg (polyA k L)) :: rest) = Instr.fill (fun i => some (i * 256, 256)) cs rest :=
  fill_gen 256 (polyL k L) (polyL_len k L) t cells h rest
theorem arr_ext {cs : Array Value} {l : List Value} (hs : cs.size = l.length) (h : ∀ i, i < l.length → cs[i]? = l[i]?) : cs = l.toArray := by
  apply Array.ext'
  apply List.ext_getElem?
  intro i
  rcases Nat.lt_or_ge i l.length with hi | hi
  · have := h i hi
    simpa using this
  · rw [List.getElem?_eq_none (by simpa [hs] using hi)]; simp; omega
theorem fill_one (k : IntKind) (L : Nat → Int) (cells : Array Value) (h : cells.size = 256) : Instr.fill (fun i => some (i * 256, 256)) cells [(0, .agg (polyA k L))] = some (polyA k L) := by
  obtain ⟨cs, hs, hc, hf⟩ := fill_next k L 0 cells (by omega) []
  rw [hf, Instr.fill]
  congr 1
  refine arr_ext (by rw [polyL_len]; omega) (fun i hi => ?_)
  rw [polyL_len] at hi
  rw [hc i, if_pos (by omega)]; simp
theorem fill_two (k : IntKind) (L M : Nat → Int) (cells : Array Value) (h : cells.size = 512) : Instr.fill (fun i => some (i * 256, 256)) cells [(0, .agg (polyA k L)), (1, .agg (polyA k M))] = some (polyL k L ++ polyL k M).toArray := by
  obtain ⟨cs, hs, hc, hf⟩ := fill_next k L 0 cells (by omega) [(1, .agg (polyA k M))]
  obtain ⟨cs2, hs2, hc2, hf2⟩ := fill_next k M 1 cs (by omega) []
  rw [hf, hf2, Instr.fill]
  congr 1
  refine arr_ext (by rw [List.length_append, polyL_len, polyL_len]; omega) (fun i hi => ?_)
  rw [List.length_append, polyL_len, polyL_len] at hi
  rw [hc2 i]
  by_cases h1 : i < 256
  · rw [if_neg (by omega), hc i, if_pos (by omega), List.getElem?_append_left (by rw [polyL_len]; exact h1)]; simp
  · rw [if_pos (by omega), List.getElem?_append_right (by rw [polyL_len]; omega), polyL_len]
theorem Tryz.infoP : (Tryz.prog.info? 71).map (fun i => (i.zero, i.size, i.bytes)) = some (some (.agg (polyA .i64 (fun _ => 0))), 256, 2048) := by kernel_rfl
theorem Tryz.uPs : Tryz.prog.underlying 60 = some (.slice 71) := by kernel_rfl
theorem bs_one (L : Nat → Int) (W : World) : (Instr.buildSlice 60 1 #[(0, .agg (polyA .i64 L))]).run Tryz.prog W = .ok (.slice (some ⟨W.heap.size, 0, none⟩) 1 1) (W.alloc (.cells (polyA .i64 L) 71)) := by
  obtain ⟨i0, hi, hz0, hz1, hz2⟩ := info_parts Tryz.infoP
  have hf := fill_one .i64 L ((Array.range (1 * 256)).map ((polyA .i64 (fun _ => 0))[· % (polyA .i64 (fun _ => 0)).size]!)) (by simp)
  exact run_buildSlice W 60 71 1 _ _ i0 _ Tryz.uPs hi hz0 (by rw [hz1]; decide) (by rw [hz1]; decide) (by rw [hz1]; exact hf)
theorem bs_two (L M : Nat → Int) (W : World) : (Instr.buildSlice 60 2 #[(0, .agg (polyA .i64 L)), (1, .agg (polyA .i64 M))]).run Tryz.prog W = .ok (.slice (some ⟨W.heap.size, 0, none⟩) 2 2) (W.alloc (.cells (polyL .i64 L ++ polyL .i64 M).toArray 71)) := by
  obtain ⟨i0, hi, hz0, hz1, hz2⟩ := info_parts Tryz.infoP
  have hf := fill_two .i64 L M ((Array.range (2 * 256)).map ((polyA .i64 (fun _ => 0))[· % (polyA .i64 (fun _ => 0)).size]!)) (by simp)
  exact run_buildSlice W 60 71 2 _ _ i0 _ Tryz.uPs hi hz0 (by rw [hz1]; decide) (by rw [hz1]; decide) (by rw [hz1]; exact hf)
section
variable {ops : Array Oper} {rest : List Oper} {o : Oper} {a : Act} {w : World} {Q : Exit → Act → World → Prop}
theorem wpO_bs1 {K : Act → World → Prop} (x : Operand) (ho : o.op = .buildSlice 60 1 #[(0, x)]) (L : Nat → Int) (hx : a.eval x = .agg (polyA .i64 L))
    (h : ∀ w', New .i64 w w' L → K (a.put o.dst (.slice (some ⟨w.heap.size, 0, none⟩) 1 1)) w') : o.wp Tryz.prog a w K Q := by
  unfold Oper.wp execOp
  have hp : (#[(0, x)] : Array (Nat × Operand)).map (fun (i, x) => (i, a.eval x)) = #[(0, .agg (polyA .i64 L))] := by simp [hx]
  simp only [ho, hp, Sem.run_bind, bs_one, Result.andThen_ok]
  exact h _ (new_alloc .i64 w L 71)
theorem wpL_bs1 (hgd : o.guard = none) (x : Operand) (ho : o.op = .buildSlice 60 1 #[(0, x)]) (L : Nat → Int) (hx : a.eval x = .agg (polyA .i64 L))
    (h : ∀ w', New .i64 w w' L → wpList Tryz.prog ops Q rest (a.put o.dst (.slice (some ⟨w.heap.size, 0, none⟩) 1 1)) w') : wpList Tryz.prog ops Q (o :: rest) a w :=
  wpList_plain hgd fun _ hK => wpO_bs1 x ho L hx (fun w' hw => hK _ _ (h w' hw))
end
theorem rows_two (L M : Nat → Int) (W : World) (T : TypeId) : PRow .i64 (W.alloc (.cells (polyL .i64 L ++ polyL .i64 M).toArray T)) W.heap.size (256 * 0) L ∧ PRow .i64 (W.alloc (.cells (polyL .i64 L ++ polyL .i64 M).toArray T)) W.heap.size (256 * 1) M := by
  refine ⟨fun i hi => ⟨?_, World.frozen?_alloc_at _ _ _ _ rfl⟩, fun i hi => ⟨?_, World.frozen?_alloc_at _ _ _ _ rfl⟩⟩
  · rw [World.cell?_alloc_new, List.getElem?_toArray, Nat.mul_zero, Nat.zero_add, List.getElem?_append_left (by rw [polyL_len]; exact hi)]; exact polyL_at _ _ i hi
  · rw [World.cell?_alloc_new, List.getElem?_toArray, List.getElem?_append_right (by rw [polyL_len]; omega), polyL_len, Nat.mul_one, Nat.add_sub_cancel_left]; exact polyL_at _ _ i hi
end Go.Proofs.YtkijpphmiogbbaaGreatDoor

namespace Go.Proofs.YtkijpphmiogbbaaGreatDoor
open Go.RowKit
attribute [local go_sem ↓] Go.wp_at_zero Go.wp_at_succ

set_option maxHeartbeats 1000000 in
set_option maxRecDepth 20000 in
theorem compress_any (L : Nat → Nat) (d : Nat) (w : World) (hL : ∀ i, i < 256 → L i < 3329) (hd0 : 1 ≤ d) (hd1 : d ≤ 11) :
    Calls Tryz.prog 56 #[.int .i64 d, .agg (polyA .i64 (fun i => (L i : Int)))] w fun e w' => e = .returned (.tuple #[.agg (polyA .i64 (fun i => ((compI d (L i) : Nat) : Int))), .nilIface]) ∧ w.grownBy w' none := by
  have t1 := three w (.int .i64 (d : Int)) 3 71 71 .i64 .i64 (fun i => (L i : Int))
  rw [← Tryz.z24] at t1
  have g1 := t1.g
  have c1 := t1.c
  have d0 : decide ((d : Int) < 1) = false := by simp; omega
  have d1 : decide ((11 : Int) < (d : Int)) = false := by simp; omega
  have HL : Hid (∀ i, i < 256 → L i < 3329) := hL
  clear hL
  go_enter Tryz.func56, Tryz.ntmps56
  have hbd : ∀ i, i < 256 → compI d (L i) < 65536 := fun i hi => by
    have h := (fine_at d (L i) hd0 hd1 (HL.out i hi)).1
    have hp : (2 : Nat) ^ d ≤ 2048 := Nat.pow_le_pow_right (n := 2) (by omega) hd1
    omega
  have HB : Hid (∀ i, i < 256 → compI d (L i) < 65536) := hbd
  clear hbd
  go_wp2_with (first | (refine wpL_load rfl .i64 71 _ rfl (w.heap.size + 1) 0 rfl _ t1.r ⟨_, Tryz.uP⟩ Tryz.sP ?_) | (refine wpL_bs1 rfl _ rfl (fun i => (L i : Int)) rfl ?_; intro w2 n2))
  have r2 : ∀ s, s < 1 → PRow .i64 w2 (w.heap.size + 1 + 1 + 1) (256 * s) (fun i => (L i : Int)) := fun s hs => by
    obtain rfl : s = 0 := by omega
    have h := n2.r
    rw [World.size_alloc, World.size_alloc, World.size_alloc] at h
    exact h
  have c2 := n2.g.cell c1 (by simp)
  have HM : ∀ W c, w2.grownBy W none → (∀ s, s < 1 → PRow .u16 W c (256 * s) (fun i => (L i : Int))) → Calls Tryz.prog 110 (#[.slice (some ⟨c, 0, none⟩) 1 1] ++ #[.pointer (some ⟨w.heap.size, 0, none⟩)]) W fun e W' => e = .returned (.agg (polyA .u16 (fun i => ((compI d (L i) : Nat) : Int)))) ∧ W.grownBy W' none :=
    fun W c hg hr => compressC_any L d c w.heap.size W HL.out hd0 hd1 (hr 0 (by omega)) (hg.cell c2 (by simp))
  refine (calc_compress (fun _ i => (L i : Int)) (fun i => ((compI d (L i) : Nat) : Int)) 3329 (w.heap.size + 1 + 1 + 1) 1 #[.pointer (some ⟨w.heap.size, 0, none⟩)] w2 (by omega) (by omega) (by omega) (fun s _ i hi => ⟨by omega, by have := HL.out i hi; omega⟩) r2 (fun i hi => ⟨by omega, by have := HB.out i hi; omega⟩) HM).mono ?_
  rintro e w5 ⟨rfl, g5⟩
  go_wp2_with (first | (refine wpL_store rfl .i64 71 _ _ rfl (w.heap.size + 1 + 1) 0 rfl _ rfl .i64 _ ((t1.z.new n2.g).new g5) Tryz.sP ?_; intro w6 p6))
  refine bodyPost_ret (res2 rfl .i64 _ w6 (w.heap.size + 1 + 1) _ _ rfl rfl p6.r ⟨_, Tryz.uP⟩ Tryz.sP) rfl ⟨rfl, grown_new (grownBy_trans (grownBy_trans g1 n2.g) g5) p6.g (by omega)⟩
end Go.Proofs.YtkijpphmiogbbaaGreatDoor

namespace Go.Proofs.YtkijpphmiogbbaaGreatDoor
open Go.RowKit
attribute [local go_sem ↓] Go.wp_at_zero Go.wp_at_succ

theorem dec_lt (a d : Nat) (ha : a < 2 ^ d) (hd0 : 1 ≤ d) (hd1 : d ≤ 11) : decI d a < 65536 := by
  have hp : (2 : Nat) ^ d ≤ 2048 := Nat.pow_le_pow_right (n := 2) (by omega) hd1
  have h1 : (2 : Nat) ^ (d - 1) ≤ 1024 := Nat.pow_le_pow_right (n := 2) (by omega) (show d - 1 ≤ 10 by omega)
  have h0 := Nat.two_pow_pos d
  unfold decI
  rw [Nat.div_lt_iff_lt_mul h0]
  omega
theorem hid_mk {p : Prop} (h : p) : Hid p := h
theorem three_size (w : World) (v : Value) (T U V : TypeId) (A B : Array Value) : (((w.alloc (.cells #[v] T)).alloc (.cells A U)).alloc (.cells B V)).heap.size = w.heap.size + 1 + 1 + 1 := by
  rw [World.size_alloc, World.size_alloc, World.size_alloc]
/-- buildSlice, kept from being laid open by the walk. -/
def hidBS (n : Nat) (parts : Array (Nat × Value)) : Sem Value := Instr.buildSlice 60 n parts
theorem bs_hide (n : Nat) (parts : Array (Nat × Value)) : Instr.buildSlice 60 n parts = hidBS n parts := rfl
theorem run_hid1 (L : Nat → Int) (W : World) : (hidBS 1 #[(0, .agg (polyL .i64 L).toArray)]).run Tryz.prog W = .ok (.slice (some ⟨W.heap.size, 0, none⟩) 1 1) (W.alloc (.cells (polyA .i64 L) 71)) := bs_one L W
attribute [local go_sem ↓] bs_hide
attribute [local go_sem] run_hid1
set_option maxHeartbeats 1000000 in
set_option maxRecDepth 20000 in
theorem decompress_any (L : Nat → Nat) (d : Nat) (w : World) (hL : ∀ i, i < 256 → L i < 2 ^ d) (hd0 : 1 ≤ d) (hd1 : d ≤ 11) :
    Calls Tryz.prog 57 #[.int .i64 d, .agg (polyA .i64 (fun i => (L i : Int)))] w fun e w' => e = .returned (.tuple #[.agg (polyA .i64 (fun i => ((decI d (L i) : Nat) : Int))), .nilIface]) ∧ w.grownBy w' none := by
  have t1 := three w (.int .i64 (d : Int)) 3 71 71 .i64 .i64 (fun i => (L i : Int))
  have s1 := three_size w (.int .i64 (d : Int)) 3 71 71 (polyA .i64 (fun i => (L i : Int))) (polyA .i64 (fun _ => 0))
  rw [← Tryz.z24] at t1 s1
  have g1 := t1.g
  have c1 := t1.c
  have r1 := t1.r.drew.range
  have z1 := t1.z.drew.there256
  have d0 : decide ((d : Int) < 1) = false := by simp; omega
  have d1 : decide ((11 : Int) < (d : Int)) = false := by simp; omega
  have HL : Hid (∀ i, i < 256 → L i < 2 ^ d) := hL
  have HB : Hid (∀ i, i < 256 → decI d (L i) < 65536) := fun i hi => dec_lt (L i) d (hL i hi) hd0 hd1
  clear hL
  have hu := Tryz.uP
  have hi : (Tryz.prog.info? 71).map (·.size) = some (polyL .i64 (fun i => (L i : Int))).length := by rw [polyL_len]; exact Tryz.sP
  have hi2 : (Tryz.prog.info? 71).map (·.size) = some (polyL .i64 (fun i => ((decI d (L i) : Nat) : Int))).length := by rw [polyL_len]; exact Tryz.sP
  have hl2 : (polyL .i64 (fun i => ((decI d (L i) : Nat) : Int))).length = 256 := polyL_len _ _
  have ho2 : ∀ v ∈ polyL .i64 (fun i => ((decI d (L i) : Nat) : Int)), v.oneCell' = true := polyL_one _ _
  have hbw : w.heap.size + 1 ≠ w.heap.size + 1 + 1 := by omega
  have hcw : w.heap.size ≠ w.heap.size + 1 + 1 := by omega
  go_enter Tryz.func57, Tryz.ntmps57
  go_wp2_with fail
  generalize ((w.alloc (.cells #[.int .i64 (d : Int)] 3)).alloc (.cells (polyA .i64 (fun i => (L i : Int))) 71)).alloc (.cells Tryz.zeroCells71 71) = w1 at *
  have hS1 : w1.drew.rangeAt (w.heap.size + 1) 0 (polyL .i64 (fun i => (L i : Int))) ∧ w1.drew.cell? ⟨w.heap.size, 0, none⟩ = some (.int .i64 (d : Int)) ∧ w1.drew.there (w.heap.size + 1 + 1) 0 256 := ⟨t1.r.range, t1.c, t1.z.there256⟩
  have hS0 : w1.rangeAt (w.heap.size + 1) 0 (polyL .i64 (fun i => (L i : Int))) ∧ w1.cell? ⟨w.heap.size, 0, none⟩ = some (.int .i64 (d : Int)) ∧ w1.there (w.heap.size + 1 + 1) 0 256 := ⟨t1.r.range, t1.c, t1.z.there256⟩
  have hS2 := keepG hS0 (grown_drew (World.grownBy_alloc w1 (.cells (polyA .i64 (fun i => (L i : Int))) 71) none))
  clear hS0
  have n2 := new_alloc .i64 w1 (fun i => (L i : Int)) 71
  have r2 := n2.r
  rw [s1] at r2
  have hX : IntKind.i64.wrap (2 ^ d) = ((2 ^ d : Nat) : Int) := by
    have hp : (2 : Nat) ^ d ≤ 2048 := Nat.pow_le_pow_right (n := 2) (by omega) hd1
    have e : (2 : Int) ^ d = ((2 ^ d : Nat) : Int) := by simp
    rw [e]; generalize (2 : Nat) ^ d = q at *
    rw [IntKind.wrap_i64] <;> omega
  have HM : ∀ W c, (w1.alloc (.cells (polyA .i64 (fun i => (L i : Int))) 71)).drew.grownBy W none → (∀ s, s < 1 → PRow .u16 W c (256 * s) (fun i => (L i : Int))) → Calls Tryz.prog 112 (#[.slice (some ⟨c, 0, none⟩) 1 1] ++ #[.pointer (some ⟨w.heap.size, 0, none⟩)]) W fun e W' => e = .returned (.agg (polyA .u16 (fun i => ((decI d (L i) : Nat) : Int)))) ∧ W.grownBy W' none :=
    fun W c hg hr => decompressC_any L d c w.heap.size W HL.out hd0 hd1 (hr 0 (by omega)) (hg.cell ((grown_drew n2.g).cell c1 (by simp)) (by simp))
  have hlt : ∀ i, i < 256 → (L i : Int) < IntKind.i64.wrap (2 ^ d) := fun i hi => by rw [hX]; exact Int.ofNat_lt.2 (HL.out i hi)
  have hle : IntKind.i64.wrap (2 ^ d) ≤ 65536 := by
    have hp : (2 : Nat) ^ d ≤ 2048 := Nat.pow_le_pow_right (n := 2) (by omega) hd1
    rw [hX]; omega
  have hlo : ∀ s, s < 1 → ∀ i, i < 256 → (0 : Int) ≤ (L i : Int) ∧ (L i : Int) < IntKind.i64.wrap (2 ^ d) := fun s _ i hi => ⟨Int.natCast_nonneg _, hlt i hi⟩
  have hro : ∀ s, s < 1 → PRow .i64 (w1.alloc (.cells (polyA .i64 (fun i => (L i : Int))) 71)).drew (w.heap.size + 1 + 1 + 1) (256 * s) (fun i => (L i : Int)) := fun s hs => by
    obtain rfl : s = 0 := by omega
    exact r2.drew
  have hto : ∀ i, i < 256 → (0 : Int) ≤ ((decI d (L i) : Nat) : Int) ∧ ((decI d (L i) : Nat) : Int) < 65536 := fun i hi => ⟨Int.natCast_nonneg _, by have := HB.out i hi; omega⟩
  have HC := hid_mk (calc_decompress (fun _ i => (L i : Int)) (fun i => ((decI d (L i) : Nat) : Int)) (IntKind.i64.wrap (2 ^ d)) (w.heap.size + 1 + 1 + 1) 1 #[.pointer (some ⟨w.heap.size, 0, none⟩)] (w1.alloc (.cells (polyA .i64 (fun i => (L i : Int))) 71)).drew (by omega) (by omega) hle hlo hro hto HM)
  clear hlo hro hto
  clear hX HM hlt hle
  go_region_held3 (fun W => W.rangeAt (w.heap.size + 1) 0 (polyL .i64 (fun i => (L i : Int))) ∧ W.cell? ⟨w.heap.size, 0, none⟩ = some (.int .i64 (d : Int)) ∧ W.there (w.heap.size + 1 + 1) 0 256) (first | with_reducible exact hS1 | with_reducible exact hS2 | with_reducible exact keepG hS2 g5 | with_reducible exact keepS (keepG hS2 g5) hbw hcw hl2) (first | (go_at_call 109; refine HC.out.mono ?_; rintro e w5 ⟨rfl, g5⟩; unfold polyA))
  all_goals (
    have p6 := put_cells .i64 w5 (w.heap.size + 1 + 1) 0 (fun i => ((decI d (L i) : Nat) : Int)) (((t1.z.new n2.g).drew.new g5).there .i64 _)
    have e6 : (polyA .i64 (fun i => ((decI d (L i) : Nat) : Int))).toList = polyL .i64 (fun i => ((decI d (L i) : Nat) : Int)) := by simp [polyA]
    rw [e6] at p6
    generalize w5.setCells (w.heap.size + 1 + 1) 0 (polyL .i64 (fun i => ((decI d (L i) : Nat) : Int))) = w6 at *
    go_wp2
    refine bodyPost_ret (res2 rfl .i64 _ w6 (w.heap.size + 1 + 1) _ _ rfl rfl p6.r ⟨_, Tryz.uP⟩ Tryz.sP) rfl ⟨rfl, grown_new (grownBy_trans (grownBy_trans g1 (grown_drew n2.g)) g5) p6.g (by omega)⟩)
end Go.Proofs.YtkijpphmiogbbaaGreatDoor
