import Derived.Test.YtkijpphmiogbbaaGreatDoorH07
namespace Go.Proofs.YtkijpphmiogbbaaGreatDoor.Z
open Go.RowKit
attribute [local go_sem ↓] Go.wp_at_zero Go.wp_at_succ
variable {X : Side} {B c : Nat} {vT vP : Value} {vS : SV} {ts : List ByteArray} {nP : Nat} {ps : List Value} {Φ : Nat → Prop} {w : World}

theorem fold_set (off : Nat) : ∀ (l : List Value) (s : Nat) (cs : Array Value), off + s + l.length ≤ cs.size →
    ((l.zipIdx s).foldl (fun (cs : Array Value) (p : Value × Nat) => cs.setIfInBounds (off + p.2) p.1) cs).size = cs.size ∧
    ∀ i, ((l.zipIdx s).foldl (fun (cs : Array Value) (p : Value × Nat) => cs.setIfInBounds (off + p.2) p.1) cs)[i]? = if off + s ≤ i ∧ i < off + s + l.length then l[i - (off + s)]? else cs[i]?
  | [], s, cs, _ => ⟨rfl, fun i => by simp only [List.zipIdx_nil, List.foldl_nil, List.length_nil]; rw [if_neg (by omega)]⟩
  | v :: l, s, cs, h => by
    rw [List.zipIdx_cons, List.foldl_cons]
    simp only [List.length_cons] at h
    have ih := fold_set off l (s + 1) (cs.setIfInBounds (off + s) v) (by simp; omega)
    refine ⟨ih.1.trans (by simp), fun i => ?_⟩
    rw [ih.2 i]
    simp only [List.length_cons]
    by_cases h1 : off + (s + 1) ≤ i ∧ i < off + (s + 1) + l.length
    · rw [if_pos h1, if_pos (by omega), show i - (off + s) = (i - (off + (s + 1))) + 1 by omega, List.getElem?_cons_succ]
    · rw [if_neg h1, Array.getElem?_setIfInBounds]
      by_cases h2 : off + s = i
      · rw [if_pos h2, if_pos (by omega), if_pos (by omega), show i - (off + s) = 0 by omega]; rfl
      · rw [if_neg h2, if_neg (by omega)]
/-- Parts of n cells each, laid one behind the other. -/
theorem fill_gen (n : Nat) (l : List Value) (hl : l.length = n) (t : Nat) (cells : Array Value) (h : t * n + n ≤ cells.size) (rest : List (Nat × Value)) :
    ∃ cs, cs.size = cells.size ∧ (∀ i, cs[i]? = if t * n ≤ i ∧ i < t * n + n then l[i - t * n]? else cells[i]?) ∧
      Instr.fill (fun i => some (i * n, n)) cells ((t, .agg l.toArray) :: rest) = Instr.fill (fun i => some (i * n, n)) cs rest := by
  have hf := fold_set (t * n) l 0 cells (by omega)
  rw [hl, Nat.add_zero] at hf
  refine ⟨_, hf.1, hf.2, ?_⟩
  rw [Instr.fill]
  have hs : (Value.agg l.toArray).cells.size = n := by simp [Value.cells, hl]
  simp only [hs, ne_eq, not_true_eq_false, decide_false, Bool.false_or, decide_eq_true_eq]
  rw [if_neg (by omega)]
  congr 1
  simp [Value.cells]
theorem fill_next (k : IntKind) (L : Nat → Int) (t : Nat) (cells : Array Value) (h : t * 256 + 256 ≤ cells.size) (rest : List (Nat × Value)) :
    ∃ cs, cs.size = cells.size ∧ (∀ i, cs[i]? = if t * 256 ≤ i ∧ i < t * 256 + 256 then (polyL k L)[i - t * 256]? else cells[i]?) ∧
      Instr.fill (fun i => some (i * 256, 256)) cells ((t, .agg (polyA k L)) :: rest) = Instr.fill (fun i => some (i * 256, 256)) cs rest :=
  fill_gen 256 (polyL k L) (polyL_len k L) t cells h rest
theorem arr_ext {cs : Array Value} {l : List Value} (hs : cs.size = l.length) (h : ∀ i, i < l.length → cs[i]? = l[i]?) : cs = l.toArray := by
  apply Array.ext'
  apply List.ext_getElem?
  intro i
  rcases Nat.lt_or_ge i l.length with hi | hi
  · have := h i hi
    simpa using this
  · rw [List.getElem?_eq_none (by simpa [hs] using hi)]; simp; omega
theorem fill_one (k : IntKind) (L : Nat → Int) (cells : Array Value) (h : cells.size = 256) : Instr.fill (fun i => some (i * 256, 256)) cells [(0, .agg (polyA k L))] = some (polyA k L) := by
  obtain ⟨cs, hs, hc, hf⟩ := fill_next k L 0 cells (by omega) []
  rw [hf, Instr.fill]
  congr 1
  refine arr_ext (by rw [polyL_len]; omega) (fun i hi => ?_)
  rw [polyL_len] at hi
  rw [hc i, if_pos (by omega)]; simp
theorem Tryz.infoY : (Tryz.prog.info? 43).map (fun i => (i.zero, i.size, i.bytes)) = some (some (.agg (polyA .i64 (fun _ => 0))), 256, 2048) := by kernel_rfl
theorem Tryz.uYs : Tryz.prog.underlying 31 = some (.slice 43) := by kernel_rfl
theorem run_hidBS (L : Nat → Int) (W : World) : (hidBS 1 #[(0, .agg (polyA .i64 L))]).run Tryz.prog W = .ok (.slice (some ⟨W.heap.size, 0, none⟩) 1 1) (W.alloc (.cells (polyA .i64 L) 43)) := by
  unfold hidBS
  obtain ⟨i0, hi, hz0, hz1, hz2⟩ := info_of Tryz.infoY
  simp only at hz1
  have hf := fill_one .i64 L ((Array.range (1 * 256)).map ((polyA .i64 (fun _ => 0))[· % (polyA .i64 (fun _ => 0)).size]!)) (by simp)
  exact run_buildSlice W 31 43 1 _ _ i0 _ Tryz.uYs hi hz0 (by rw [hz1]; decide) (by rw [hz1]; decide) (by rw [hz1]; exact hf)
/-- append, kept from being laid open. -/
def hidAp (vs : Array Value) : Sem Value := Builtin.append_ #[31, 31] 31 vs
theorem ap_hide (vs : Array Value) : Builtin.append_ #[31, 31] 31 vs = hidAp vs := rfl
/-- One polynomial more is put behind the others. -/
theorem app_poly2 (hX : X.Local) (hc : c ≤ 40000) (h : SWd X B c vT vP vS ts nP ps Φ w) (L : Nat → Int) (hL : ∀ j, j < 256 → InI (L j)) :
    ∃ g cap w2, (hidAp #[vP, .slice (some ⟨w.heap.size, 0, none⟩) 1 1]).run Tryz.prog (w.alloc (.cells (polyA .i64 L) 43)) = .ok (.slice (some ⟨g, 0, none⟩) (nP + 1) cap) w2 ∧
      w2.cell? ⟨B, 1, none⟩ = some vP ∧ w2.frozen? ⟨B, 1, none⟩ = false ∧ Hid (SW X B (c + 1) (w2.setCell ⟨B, 1, none⟩ (.slice (some ⟨g, 0, none⟩) (nP + 1) cap))) ∧ (w.alloc (.cells (polyA .i64 L) 43)).grownBy w2 vP.ownBlock := by
  obtain ⟨i0, hi, hz0, hz1, hz2⟩ := info_of Tryz.infoY
  simp only at hz1 hz2 hz0
  have hn := h.nPc
  have h1 : SWd X B c vT vP vS ts nP ps Φ (w.alloc (.cells (polyA .i64 L) 43)) := h.keep hX (World.grownBy_alloc _ _ _)
  obtain ⟨v', w2, hr, ho, hg, _, hb⟩ := run_append_own_at (P := Tryz.prog) (w.alloc (.cells (polyA .i64 L) 43)) 0 31 31 43 i0 _ 256 2048 Tryz.uYs hi hz0 hz1 hz2 (by simp [Value.cells, polyA_size]) (by decide) vP nP ps h1.ownP ⟨w.heap.size, 0, none⟩ 1 1 (polyL .i64 L) (by rw [polyL_len])
    (fun j u hu => by
      have hadd : (⟨w.heap.size, 0, none⟩ : Addr).add j = ⟨w.heap.size, j, none⟩ := by unfold Addr.add; split <;> simp_all
      rw [hadd, World.cell?_alloc_new]
      unfold polyA
      rw [List.getElem?_toArray]; exact hu)
    (fun u hu => by
      unfold polyL at hu
      obtain ⟨i, _, rfl⟩ := List.mem_map.1 hu
      rfl) (by unfold maxLen; omega) (by omega) (Nat.zero_le _)
  obtain ⟨g, cap, hv⟩ := ownsRow_succ ho
  subst hv
  have hPB := own_ne h1.ownP h1.blk (by decide)
  refine ⟨g, cap, w2, hr, hg.cell h1.c1 (Ne.symm hPB), ?_, ⟨_, _, _, _, _, _, _, h.setP hX hL (World.grownBy_alloc _ _ _) ho hg hb⟩, hg⟩
  rw [hg.frozen_far ⟨B, 1, none⟩ h1.Blt (Ne.symm hPB)]; exact h1.fz 1
theorem app_poly (hX : X.Local) (hc : c ≤ 40000) (h : SWd X B c vT vP vS ts nP ps Φ w) (L : Nat → Int) (hL : ∀ j, j < 256 → InI (L j)) :
    ∃ g cap w2, (hidAp #[vP, .slice (some ⟨w.heap.size, 0, none⟩) 1 1]).run Tryz.prog (w.alloc (.cells (polyA .i64 L) 43)) = .ok (.slice (some ⟨g, 0, none⟩) (nP + 1) cap) w2 ∧
      w2.cell? ⟨B, 1, none⟩ = some vP ∧ w2.frozen? ⟨B, 1, none⟩ = false ∧ Hid (SW X B (c + 1) (w2.setCell ⟨B, 1, none⟩ (.slice (some ⟨g, 0, none⟩) (nP + 1) cap))) := by
  obtain ⟨g, cap, w2, h1, h2, h3, h4, _⟩ := app_poly2 hX hc h L hL
  exact ⟨g, cap, w2, h1, h2, h3, h4⟩
end Go.Proofs.YtkijpphmiogbbaaGreatDoor.Z
