import Derived.Test.YtkijpphmiogbbaaGreatDoorK44
import Derived.Test.YtkijpphmiogbbaaGreatDoorK03
namespace Go.Proofs.YtkijpphmiogbbaaGreatDoor.Z
open Go.RowKit
attribute [local go_sem ↓] Go.wp_at_zero Go.wp_at_succ
variable {X : Side} {B c : Nat} {vT vP : Value} {vS : SV} {ts : List ByteArray} {nP : Nat} {ps : List Value} {Φ : Nat → Prop} {w : World}

def bytesOf (xs : List Int) : ByteArray := xs.foldl (fun r k => r.push (UInt8.ofNat k.toNat)) ByteArray.empty
theorem bytesOf_size (xs : List Int) : (bytesOf xs).size = xs.length := by
  have h : ∀ (l : List Int) (r : ByteArray), (l.foldl (fun r k => r.push (UInt8.ofNat k.toNat)) r).size = r.size + l.length := by
    intro l
    induction l with
    | nil => intro r; rfl
    | cons x l ih => intro r; rw [List.foldl_cons, ih]; simp [ByteArray.size_push]; omega
  unfold bytesOf
  rw [h]
  show 0 + _ = _
  omega
theorem Tryz.uBsZ : Tryz.prog.underlying 41 = some (.slice 5) := by kernel_rfl
theorem Tryz.uByZ : Tryz.prog.underlying 5 = some (.int .u8) := by kernel_rfl
theorem Tryz.uStZ : Tryz.prog.underlying 9 = some .string := by kernel_rfl
theorem conv_ownB (W : World) (base g cap : Nat) (xs : List Int) (h : OwnB W base (.slice (some ⟨g, 0, none⟩) xs.length cap) xs) : (convert 41 9 (.slice (some ⟨g, 0, none⟩) xs.length cap)).run Tryz.prog W = .ok (.string (bytesOf xs)) W := by
  rw [run_convert_bytes_string W 41 9 5 _ xs.length cap Tryz.uBsZ Tryz.uByZ Tryz.uStZ]
  refine run_bytesToString W _ xs.length cap xs ?_
  have hl := run_loadCells_list (P := Tryz.prog) W ⟨g, 0, none⟩ (xs.map (Value.int .u8)) (fun j v hv => by
    rw [add_lit]
    rw [List.getElem?_map] at hv
    cases hx : xs[j]? with
    | none => rw [hx] at hv; cases hv
    | some y =>
      rw [hx] at hv
      cases hv
      have hj : j < xs.length := by
        rcases Nat.lt_or_ge j xs.length with h1 | h1
        · exact h1
        · rw [List.getElem?_eq_none h1] at hx; cases hx
      rw [(h.at j hj).1]
      rw [List.getElem?_eq_getElem hj] at hx
      cases hx
      rfl)
  simpa using hl
def textL (t : ByteArray) : List Int := t.data.toList.map (fun b => (b.toNat : Int))
theorem textL_len (t : ByteArray) : (textL t).length = t.size := by unfold textL; simp
set_option maxHeartbeats 2000000 in
set_option maxRecDepth 20000 in
theorem owner_4 (hX : X.Local) (hc : c ≤ 40000) (o : OpV) (ho : OpOK o) (hk : Hid (o.kind = 4)) (h : SW X B c w) :
    Calls Tryz.prog 15 #[.pointer (some ⟨B, 0, none⟩), opVal o] w fun e w' => e = .returned (.bool true) ∧ SW X B (c + 1) w' := by
  go_enter Tryz.func15, Tryz.ntmps15
  go_wp2_with fail
  obtain ⟨vT, vP, vS, ts, nP, ps, Φ, h⟩ := h
  have hO := opAt_new w o
  have h1 : SWd X B c vT vP vS ts nP ps Φ (opBox w o) := h.keep hX (World.grownBy_alloc w _ none)
  refine (text_any hc _ ho.x h1).mono ?_
  rintro e w1 ⟨t, rfl, ht, hg1⟩
  have h2 := h1.keep hX hg1
  have hO1 := hO.far hg1 (by simp)
  have blt : w.heap.size < w1.heap.size := Nat.lt_of_lt_of_le (by simp) hg1.size
  generalize w.heap.size = b at *
  have qk := hO1.kind
  clear h h1 hO hg1
  rw [hk.out] at qk
  have t0 : (t.size : Int) ≤ 20000 := by omega
  have hcv := Lib.run_convert_string_bytes (P := Tryz.prog) w1 9 41 5 t Tryz.uStZ Tryz.uBsZ Tryz.uByZ
  have hOw := OwnB_conv w1 0 5 t (by unfold maxLen; omega) (Nat.zero_le _)
  have hgc := grown_conv w1 5 t none
  have hO2 := hO1.far hgc (by simp)
  generalize Lib.bytesWorld w1 5 t = w2 at *
  generalize grownCap w1 t.size 0 5 = cap at *
  have hl := textL_len t
  change OwnB w2 0 (.slice (some ⟨w1.heap.size, 0, none⟩) t.size cap) (textL t) at hOw
  obtain ⟨xs, hxs⟩ : ∃ xs, xs = textL t := ⟨_, rfl⟩
  rw [← hxs] at hOw hl
  clear hk hO1 hxs
  by_cases hz : t.size = 0
  · rw [hz] at hcv
    have hcb := conv_ownB w2 0 w1.heap.size cap xs (by rw [hl]; exact hOw)
    rw [hl, hz] at hcb
    have hS2 := h2.keep hX hgc
    have hq := hO2.kind
    have hsz : (bytesOf xs).size ≤ 9223372036854775807 := by rw [bytesOf_size]; omega
    clear hOw hl hgc h2
    go_wp2_with fail
    refine (add_any hX hc _ hS2 hsz).mono ?_
    rintro e w3 ⟨rfl, h4⟩
    clear hcb hcv
    go_wp2
    go_ret
    exact ⟨rfl, h4⟩
  · have z0 : (0 : Int) < (t.size : Int) := by omega
    have qa := hO2.a
    have qb := hO2.b
    have qk2 := hO2.kind
    have HC : Hid (∀ k : Nat, (k : Int) < (t.size : Int) → ∃ u, w2.cell? ⟨w1.heap.size, k, none⟩ = some (.int .u8 u) ∧ w2.frozen? ⟨w1.heap.size, k, none⟩ = false) := fun k hk => by
      have h9 : OwnB w2 0 (.slice (some ⟨w1.heap.size, 0, none⟩) xs.length cap) xs := by rw [hl]; exact hOw
      exact ⟨_, h9.at k (by omega)⟩
    have HL : Hid (xs.length = t.size) := hl
    have HO : Hid (OwnB w2 0 (.slice (some ⟨w1.heap.size, 0, none⟩) t.size cap) xs) := hOw
    have bn : ¬ b = w1.heap.size := by omega
    clear hl hOw hz
    go_wp2
    go_region_with (first | (go_at_call 22; refine (pick_any _ _ _ ho.a (by omega) (by omega)).mono ?_; rintro e w' ⟨k, hk, rfl, rfl⟩; obtain ⟨u, hu1, hu2⟩ := HC.out k hk; have k0 : (0 : Int) ≤ (k : Int) := Int.natCast_nonneg k))
    all_goals
      have h9 : OwnB w2 0 (.slice (some ⟨w1.heap.size, 0, none⟩) xs.length cap) xs := by rw [HL.out]; exact HO.out
      have hP : OwnB (w2.setCell ⟨w1.heap.size, k, none⟩ (.int .u8 (IntKind.u8.wrap o.b))).drew 0 _ _ := h9.put k (by have := HL.out; omega) (IntKind.u8.wrap o.b)
      have g3 : w1.grownBy (w2.setCell ⟨w1.heap.size, k, none⟩ (.int .u8 (IntKind.u8.wrap o.b))).drew none := grown_drew (grown_setNew hgc (Nat.le_refl _) _)
      have hS3 := h2.keep hX g3
      have hcb := conv_ownB _ 0 _ cap (xs.set k (IntKind.u8.wrap o.b)) (by rw [List.length_set]; exact hP)
      rw [List.length_set, HL.out] at hcb
      have hsz : (bytesOf (xs.set k (IntKind.u8.wrap o.b))).size ≤ 9223372036854775807 := by rw [bytesOf_size, List.length_set, HL.out]; omega
      generalize (w2.setCell ⟨w1.heap.size, k, none⟩ (.int .u8 (IntKind.u8.wrap o.b))).drew = W3 at *
      generalize bytesOf (xs.set k (IntKind.u8.wrap o.b)) = tt at *
      clear hP h9 g3 h2 hgc HO HL HC hcv hu1 hu2 qa qb qk2 qk
      go_wp2_with fail
      refine (add_any hX hc _ hS3 hsz).mono ?_
      rintro e w3 ⟨rfl, h4⟩
      clear hcb
      go_wp2
      go_ret
      exact ⟨rfl, h4⟩
end Go.Proofs.YtkijpphmiogbbaaGreatDoor.Z

namespace Go.Proofs.YtkijpphmiogbbaaGreatDoor.Z
open Go.RowKit
attribute [local go_sem ↓] Go.wp_at_zero Go.wp_at_succ
variable {X : Side} {B c : Nat} {vT vP : Value} {vS : SV} {ts : List ByteArray} {nP : Nat} {ps : List Value} {Φ : Nat → Prop} {w : World}

theorem fold_set (off : Nat) : ∀ (l : List Value) (s : Nat) (cs : Array Value), off + s + l.length ≤ cs.size →
    ((l.zipIdx s).foldl (fun (cs : Array Value) (p : Value × Nat) => cs.setIfInBounds (off + p.2) p.1) cs).size = cs.size ∧
    ∀ i, ((l.zipIdx s).foldl (fun (cs : Array Value) (p : Value × Nat) => cs.setIfInBounds (off + p.2) p.1) cs)[i]? = if off + s ≤ i ∧ i < off + s + l.length then l[i - (off + s)]? else cs[i]?
  | [], s, cs, _ => ⟨rfl, fun i => by simp only [List.zipIdx_nil, List.foldl_nil, List.length_nil]; rw [if_neg (by omega)]⟩
  | v :: l, s, cs, h => by
    rw [List.zipIdx_cons, List.foldl_cons]
    simp only [List.length_cons] at h
    have ih := fold_set off l (s + 1) (cs.setIfInBounds (off + s) v) (by simp; omega)
    refine ⟨ih.1.trans (by simp), fun i => ?_⟩
    rw [ih.2 i]
    simp only [List.length_cons]
    by_cases h1 : off + (s + 1) ≤ i ∧ i < off + (s + 1) + l.length
    · rw [if_pos h1, if_pos (by omega), show i - (off + s) = (i - (off + (s + 1))) + 1 by omega, List.getElem?_cons_succ]
    · rw [if_neg h1, Array.getElem?_setIfInBounds]
      by_cases h2 : off + s = i
      · rw [if_pos h2, if_pos (by omega), if_pos (by omega), show i - (off + s) = 0 by omega]; rfl
      · rw [if_neg h2, if_neg (by omega)]
/-- Parts of n cells each, laid one behind the other. -/
theorem fill_gen (n : Nat) (l : List Value) (hl : l.length = n) (t : Nat) (cells : Array Value) (h : t * n + n ≤ cells.size) (rest : List (Nat × Value)) :
    ∃ cs, cs.size = cells.size ∧ (∀ i, cs[i]? = if t * n ≤ i ∧ i < t * n + n then l[i - t * n]? else cells[i]?) ∧
      Instr.fill (fun i => some (i * n, n)) cells ((t, .agg l.toArray) :: rest) = Instr.fill (fun i => some (i * n, n)) cs rest := by
  have hf := fold_set (t * n) l 0 cells (by omega)
  rw [hl, Nat.add_zero] at hf
  refine ⟨_, hf.1, hf.2, ?_⟩
  rw [Instr.fill]
  have hs : (Value.agg l.toArray).cells.size = n := by simp [Value.cells, hl]
  simp only [hs, ne_eq, not_true_eq_false, decide_false, Bool.false_or, decide_eq_true_eq]
  rw [if_neg (by omega)]
  congr 1
  simp [Value.cells]
theorem fill_next (k : IntKind) (L : Nat → Int) (t : Nat) (cells : Array Value) (h : t * 256 + 256 ≤ cells.size) (rest : List (Nat × Value)) :
    ∃ cs, cs.size = cells.size ∧ (∀ i, cs[i]? = if t * 256 ≤ i ∧ i < t * 256 + 256 then (polyL k L)[i - t * 256]? else cells[i]?) ∧
      Instr.fill (fun i => some (i * 256, 256)) cells ((t, .agg (polyA k L)) :: rest) = Instr.fill (fun i => some (i * 256, 256)) cs rest :=
  fill_gen 256 (polyL k L) (polyL_len k L) t cells h rest
theorem arr_ext {cs : Array Value} {l : List Value} (hs : cs.size = l.length) (h : ∀ i, i < l.length → cs[i]? = l[i]?) : cs = l.toArray := by
  apply Array.ext'
  apply List.ext_getElem?
  intro i
  rcases Nat.lt_or_ge i l.length with hi | hi
  · have := h i hi
    simpa using this
  · rw [List.getElem?_eq_none (by simpa [hs] using hi)]; simp; omega
theorem fill_one (k : IntKind) (L : Nat → Int) (cells : Array Value) (h : cells.size = 256) : Instr.fill (fun i => some (i * 256, 256)) cells [(0, .agg (polyA k L))] = some (polyA k L) := by
  obtain ⟨cs, hs, hc, hf⟩ := fill_next k L 0 cells (by omega) []
  rw [hf, Instr.fill]
  congr 1
  refine arr_ext (by rw [polyL_len]; omega) (fun i hi => ?_)
  rw [polyL_len] at hi
  rw [hc i, if_pos (by omega)]; simp
theorem Tryz.infoY : (Tryz.prog.info? 43).map (fun i => (i.zero, i.size, i.bytes)) = some (some (.agg (polyA .i64 (fun _ => 0))), 256, 2048) := by kernel_rfl
theorem Tryz.uYs : Tryz.prog.underlying 31 = some (.slice 43) := by kernel_rfl
theorem run_hidBS (L : Nat → Int) (W : World) : (hidBS 1 #[(0, .agg (polyA .i64 L))]).run Tryz.prog W = .ok (.slice (some ⟨W.heap.size, 0, none⟩) 1 1) (W.alloc (.cells (polyA .i64 L) 43)) := by
  unfold hidBS
  obtain ⟨i0, hi, hz0, hz1, hz2⟩ := info_of Tryz.infoY
  simp only at hz1
  have hf := fill_one .i64 L ((Array.range (1 * 256)).map ((polyA .i64 (fun _ => 0))[· % (polyA .i64 (fun _ => 0)).size]!)) (by simp)
  exact run_buildSlice W 31 43 1 _ _ i0 _ Tryz.uYs hi hz0 (by rw [hz1]; decide) (by rw [hz1]; decide) (by rw [hz1]; exact hf)
/-- append, kept from being laid open. -/
def hidAp (vs : Array Value) : Sem Value := Builtin.append_ #[31, 31] 31 vs
theorem ap_hide (vs : Array Value) : Builtin.append_ #[31, 31] 31 vs = hidAp vs := rfl
/-- One polynomial more is put behind the others. -/
theorem app_poly2 (hX : X.Local) (hc : c ≤ 40000) (h : SWd X B c vT vP vS ts nP ps Φ w) (L : Nat → Int) (hL : ∀ j, j < 256 → InI (L j)) :
    ∃ g cap w2, (hidAp #[vP, .slice (some ⟨w.heap.size, 0, none⟩) 1 1]).run Tryz.prog (w.alloc (.cells (polyA .i64 L) 43)) = .ok (.slice (some ⟨g, 0, none⟩) (nP + 1) cap) w2 ∧
      w2.cell? ⟨B, 1, none⟩ = some vP ∧ w2.frozen? ⟨B, 1, none⟩ = false ∧ Hid (SW X B (c + 1) (w2.setCell ⟨B, 1, none⟩ (.slice (some ⟨g, 0, none⟩) (nP + 1) cap))) ∧ (w.alloc (.cells (polyA .i64 L) 43)).grownBy w2 vP.ownBlock := by
  obtain ⟨i0, hi, hz0, hz1, hz2⟩ := info_of Tryz.infoY
  simp only at hz1 hz2 hz0
  have hn := h.nPc
  have h1 : SWd X B c vT vP vS ts nP ps Φ (w.alloc (.cells (polyA .i64 L) 43)) := h.keep hX (World.grownBy_alloc _ _ _)
  obtain ⟨v', w2, hr, ho, hg, _, hb⟩ := run_append_own_at (P := Tryz.prog) (w.alloc (.cells (polyA .i64 L) 43)) 0 31 31 43 i0 _ 256 2048 Tryz.uYs hi hz0 hz1 hz2 (by simp [Value.cells, polyA_size]) (by decide) vP nP ps h1.ownP ⟨w.heap.size, 0, none⟩ 1 1 (polyL .i64 L) (by rw [polyL_len])
    (fun j u hu => by
      have hadd : (⟨w.heap.size, 0, none⟩ : Addr).add j = ⟨w.heap.size, j, none⟩ := by unfold Addr.add; split <;> simp_all
      rw [hadd, World.cell?_alloc_new]
      unfold polyA
      rw [List.getElem?_toArray]; exact hu)
    (fun u hu => by
      unfold polyL at hu
      obtain ⟨i, _, rfl⟩ := List.mem_map.1 hu
      rfl) (by unfold maxLen; omega) (by omega) (Nat.zero_le _)
  obtain ⟨g, cap, hv⟩ := ownsRow_succ ho
  subst hv
  have hPB := own_ne h1.ownP h1.blk (by decide)
  refine ⟨g, cap, w2, hr, hg.cell h1.c1 (Ne.symm hPB), ?_, ⟨_, _, _, _, _, _, _, h.setP hX hL (World.grownBy_alloc _ _ _) ho hg hb⟩, hg⟩
  rw [hg.frozen_far ⟨B, 1, none⟩ h1.Blt (Ne.symm hPB)]; exact h1.fz 1
theorem app_poly (hX : X.Local) (hc : c ≤ 40000) (h : SWd X B c vT vP vS ts nP ps Φ w) (L : Nat → Int) (hL : ∀ j, j < 256 → InI (L j)) :
    ∃ g cap w2, (hidAp #[vP, .slice (some ⟨w.heap.size, 0, none⟩) 1 1]).run Tryz.prog (w.alloc (.cells (polyA .i64 L) 43)) = .ok (.slice (some ⟨g, 0, none⟩) (nP + 1) cap) w2 ∧
      w2.cell? ⟨B, 1, none⟩ = some vP ∧ w2.frozen? ⟨B, 1, none⟩ = false ∧ Hid (SW X B (c + 1) (w2.setCell ⟨B, 1, none⟩ (.slice (some ⟨g, 0, none⟩) (nP + 1) cap))) := by
  obtain ⟨g, cap, w2, h1, h2, h3, h4, _⟩ := app_poly2 hX hc h L hL
  exact ⟨g, cap, w2, h1, h2, h3, h4⟩
end Go.Proofs.YtkijpphmiogbbaaGreatDoor.Z
