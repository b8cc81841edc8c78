import Derived.Test.YtkijpphmiogbbaaGreatDoorM47
namespace Go.Proofs.YtkijpphmiogbbaaGreatDoor.Z
open Go.RowKit
attribute [local go_sem ↓] Go.wp_at_zero Go.wp_at_succ

theorem Tryz.uLs : Tryz.prog.underlying 33 = some (.slice 60) := by kernel_rfl
theorem Tryz.iLs : (Tryz.prog.info? 60).map (fun i => (i.zero, i.size, i.bytes)) = some (some (.slice none 0 0), 1, 24) := by kernel_rfl
theorem made_rowsZ (W : World) (m : Nat) (T : TypeId) (s : Nat) (hs : s < m) : PRow .i64 (W.alloc (.cells (madeCells (polyA .i64 (fun _ => 0)) (m * 256)) T)) W.heap.size (256 * s) (fun _ => 0) := made_rows .i64 W m T s hs
set_option maxHeartbeats 4000000 in
set_option maxRecDepth 20000 in
theorem hold_any {B : Nat} {w0 : World} {c : Nat} {vT vP : Value} {vS : SV} {ts : List ByteArray} {nP : Nat} {ps : List Value} {Φ : Nat → Prop} {w : World} {m : Nat} {es : Nat → Ent}
    (h : SWd (XP B w0) B c vT vP vS ts nP ps Φ w) (hx : XPd B w0 c vS Φ w m es) (hm1 : m + 1 ≤ 2 * c) (hc : c ≤ 50000) (a : Option Addr) (lb n cp : Nat) (Ls : Nat → Nat → Int) (hn : n ≤ 9) (ha : 0 < n → a = some ⟨lb, 0, none⟩) (hr : ∀ s, s < n → PRow .i64 w lb (256 * s) (Ls s))
    (fl : 0 < n → B < lb ∧ vT.ownBlock ≠ some lb ∧ vP.ownBlock ≠ some lb ∧ vS.l.ownBlock ≠ some lb ∧ vS.k.ownBlock ≠ some lb) :
    Calls Tryz.prog 77 #[.pointer (some ⟨B, 0, none⟩), .slice a n cp] w fun e w' => e = .returned (.tuple #[]) ∧ ∃ vS' Φ' es', SWd (XP B w0) B c vT vP vS' ts nP ps Φ' w' ∧ XPd B w0 c vS' Φ' w' (m + 1) es' ∧
      (∀ g, vS'.l.ownBlock = some g → vS.l.ownBlock = some g ∨ w.heap.size ≤ g) ∧ (∀ g, vS'.k.ownBlock = some g → vS.k.ownBlock = some g ∨ w.heap.size ≤ g) ∧
      (∀ k, k < w.heap.size → k ≠ B → vS.l.ownBlock ≠ some k → vS.k.ownBlock ≠ some k → w'.heap[k]? = w.heap[k]?) ∧ w.heap.size ≤ w'.heap.size := by
  have hX := XP_local B w0
  have hmk := fun W => mkA0 n hn W
  have r1 := fun s hs => made_rowsZ w n 71 s hs
  have g1 := World.grownBy_alloc w (.cells (madeCells (polyA .i64 (fun _ => 0)) (n * 256)) 71) none
  have cp1 := run_copyA _ w.heap.size n a cp lb Ls ha (fun s hs => (hr s hs).new g1) r1
  have r2 := rowsL_put _ w.heap.size n Ls r1
  have g2 : w.grownBy ((w.alloc (.cells (madeCells (polyA .i64 (fun _ => 0)) (n * 256)) 71)).setCells w.heap.size 0 (rowsL Ls n)) none := grown_new g1 (grown_setCells w.heap.size (rowsL Ls n) 0 _ _ (World.grownBy.refl _ _)) (Nat.le_refl _)
  have n9 : (n : Int) ≤ 9 := by omega
  have hB := h.Blt
  have hL : ∀ g, vS.l.ownBlock = some g → g < w.heap.size := fun g hg => (hx.ownL.lt g hg).2
  have hK : ∀ g, vS.k.ownBlock = some g → g < w.heap.size := fun g hg => (hx.ownK.lt g hg).2
  have hT : ∀ g, vT.ownBlock = some g → g < w.heap.size := fun g hg => (h.own.lt g hg).2
  have hP : ∀ g, vP.ownBlock = some g → g < w.heap.size := fun g hg => (h.ownP.lt g hg).2
  have h2 := h.keep hX g2
  have hx2 : XPd B w0 c vS Φ _ m es := hx.loc g2.os g2.tape g2.output g2.size (fun k hk => g2.block k (h.lt k hk) (by simp))
  have hr2 := fun s hs => (hr s hs).new g2
  have c3 := h2.c3
  have hmc := hx.mc
  obtain ⟨i0, hi, hz0, hz1, hz2⟩ := info_of Tryz.iLs
  simp only at hz0 hz1 hz2
  have HI : Hid (Tryz.prog.info? 60 = some i0) := hi
  have HO := hx2.ownL
  clear hi g1
  go_enter Tryz.func77, Tryz.ntmps77
  go_wp2_with (first | (at_builtin; refine wpList_append_own_at _ rfl _ _ 33 rfl 0 60 i0 _ 1 24 Tryz.uLs HI.out hz0 hz1 hz2 rfl (by decide) vS.l m (lvs m es) rfl (HO.alloc _) ⟨_, 0, none⟩ 1 1 [.slice a n cp] rfl rfl ?c1 ?c2 ?c3 ?c4 ?c5 ?_))
  case c2 => first | rfl | (intro u hu; simp at hu; subst hu; rfl)
  case c3 => unfold maxLen; omega
  case c4 => omega
  intro v' w3 o3 hg3 _ hb3
  clear cp1 hmk c3 HO r1
  generalize (w.alloc (.cells (madeCells (polyA .i64 (fun _ => 0)) (n * 256)) 71)).setCells w.heap.size 0 (rowsL Ls n) = w2 at *
  have s2 := g2.size
  have hLB : vS.l.ownBlock ≠ some B := own_ne hx2.ownL h2.blk (by decide)
  have hKB : vS.k.ownBlock ≠ some B := own_ne hx2.ownK h2.blk (by decide)
  have F2 : Frm B w2 w2 #[vT, vP, vS.s, vS.l, vS.k, .int .i64 vS.m] (fun k => vS.l.ownBlock = some k ∨ vS.k.ownBlock = some k) := ⟨h2.blk, rfl, rfl, rfl, Nat.le_refl _, fun _ _ _ _ => rfl⟩
  have F2a := F2.grow (World.grownBy_alloc w2 (.cells #[.slice a n cp] 60) none) (fun k e => by cases e)
  have F3 := F2a.grow hg3 (fun k e => ⟨fun e2 => hLB (by rw [← e2]; exact e), Or.inl (Or.inl e)⟩)
  obtain ⟨g9, cap9, hv9⟩ := ownsRow_succ o3
  have F4 := F3.set 3 v'
  have d3 : w3.cell? ⟨B, 3, none⟩ = some vS.l := F3.cell 3 _ rfl
  have f3 := F3.fz 3
  have c4 : (w3.setCell ⟨B, 3, none⟩ v').cell? ⟨B, 4, none⟩ = some vS.k := F4.cell 4 _ rfl
  have oK3 : w3.ownsRow 0 60 1 vS.k m (kvs m es) := own_blockP hx2.ownK (fun g hg => by
    refine (hg3.block g (Nat.lt_of_lt_of_le (hx2.ownK.lt g hg).2 (by simp)) (fun e => (hx2.fL g e.symm).2.2 hg)).trans ?_
    exact (World.grownBy_alloc w2 (.cells #[.slice a n cp] 60) none).block g (hx2.ownK.lt g hg).2 (by simp))
  have HK3 : Hid ((w3.setCell ⟨B, 3, none⟩ v').ownsRow 0 60 1 vS.k m (kvs m es)) := ownsRow_setCell_other oK3 hKB _
  have oL4 : (w3.setCell ⟨B, 3, none⟩ v').ownsRow 0 60 1 v' (m + 1) (lvs m es ++ [.slice a n cp]) := ownsRow_setCell_other o3 (own_ne o3 F3.blk (by decide)) _
  have HA : Hid (Frm B w2 (w3.setCell ⟨B, 3, none⟩ v') #[vT, vP, vS.s, v', vS.k, .int .i64 vS.m] (fun k => vS.l.ownBlock = some k ∨ vS.k.ownBlock = some k) ∧ (w3.setCell ⟨B, 3, none⟩ v').ownsRow 0 60 1 v' (m + 1) (lvs m es ++ [.slice a n cp])) := ⟨F4, oL4⟩
  have HW : Hid (SWd (XP B w0) B c vT vP vS ts nP ps Φ w2 ∧ XPd B w0 c vS Φ w2 m es ∧ (∀ s, s < n → PRow .i64 w2 lb (256 * s) (Ls s)) ∧ ∀ s, s < n → PRow .i64 w2 w.heap.size (256 * s) (Ls s)) := ⟨h2, hx2, hr2, r2⟩
  have hbv : v'.ownBlock = vS.l.ownBlock ∨ v'.ownBlock = some (w2.heap.size + 1) := hb3
  have z4 : w2.heap.size + 1 ≤ w3.heap.size := by have := hg3.size; simpa using this
  clear h2 hx2 hr2 r2 F2 F2a F3 F4 oK3 oL4 o3 hg3 hb3 h hx
  subst hv9
  go_wp2_with (first | (at_builtin; refine wpList_append_own_at _ rfl _ _ 33 rfl 0 60 i0 _ 1 24 Tryz.uLs HI.out hz0 hz1 hz2 rfl (by decide) vS.k m (kvs m es) rfl (HK3.out.alloc _) ⟨_, 0, none⟩ 1 1 [.slice (some ⟨w.heap.size, 0, none⟩) n n] rfl rfl ?d1 ?d2 ?d3 ?d4 ?d5 ?_))
  case d1 =>
    intro j u hj
    have hadd : (⟨w3.heap.size, 0, none⟩ : Addr).add j = ⟨(w3.setCell ⟨B, 3, none⟩ (.slice (some ⟨g9, 0, none⟩) (m + 1) cap9)).heap.size, j, none⟩ := by
      rw [Addr.add_lit]; simp
    rw [hadd, World.cell?_alloc_new]
    simpa using hj
  case d2 => first | rfl | (intro u hu; simp at hu; subst hu; rfl)
  case d3 => unfold maxLen; omega
  case d4 => omega
  case d5 => exact Nat.zero_le _
  intro v6 w5 o5 hg5 _ hb5
  obtain ⟨h2, hx2, hr2, r2⟩ := HW.out
  obtain ⟨F4, oL4⟩ := HA.out
  have F4a := F4.grow (World.grownBy_alloc (w3.setCell ⟨B, 3, none⟩ (.slice (some ⟨g9, 0, none⟩) (m + 1) cap9)) (.cells #[.slice (some ⟨w.heap.size, 0, none⟩) n n] 60) none) (fun k e => by cases e)
  have F5 := F4a.grow hg5 (fun k e => ⟨fun e2 => hKB (by rw [← e2]; exact e), Or.inl (Or.inr e)⟩)
  obtain ⟨g8, cap8, hv8⟩ := ownsRow_succ o5
  have F6 := F5.set 4 v6
  have d4 : w5.cell? ⟨B, 4, none⟩ = some vS.k := F5.cell 4 _ rfl
  have f4 := F5.fz 4
  have hlk : ∀ g, (Value.slice (some ⟨g9, 0, none⟩) (m + 1) cap9).ownBlock = some g → vS.k.ownBlock ≠ some g := fun g hg hk => by
    rcases hbv with e | e
    · rw [e] at hg; exact (hx2.fL g hg).2.2 hk
    · rw [e] at hg; have := hK g hk; cases hg; omega
  have oL5 := own_blockP oL4 (w' := w5) (fun g hg => by
    refine (hg5.block g (Nat.lt_of_lt_of_le (oL4.lt g hg).2 (by simp)) (fun e => hlk g hg e.symm)).trans ?_
    exact (World.grownBy_alloc (w3.setCell ⟨B, 3, none⟩ (.slice (some ⟨g9, 0, none⟩) (m + 1) cap9)) (.cells #[.slice (some ⟨w.heap.size, 0, none⟩) n n] 60) none).block g (oL4.lt g hg).2 (by simp))
  have oL6 := ownsRow_setCell_other (a := ⟨B, 4, none⟩) oL5 (own_ne oL5 F5.blk (by decide)) v6
  have oK6 := ownsRow_setCell_other (a := ⟨B, 4, none⟩) o5 (own_ne o5 F5.blk (by decide)) v6
  have hb6 : v6.ownBlock = vS.k.ownBlock ∨ v6.ownBlock = some (w3.heap.size + 1) := by simpa using hb5
  obtain ⟨Φ', es', hS, hS2⟩ := hold_end h2 hx2 hm1 ⟨n, a, lb, cp, some ⟨w.heap.size, 0, none⟩, w.heap.size, n, Ls⟩ hn ha (fun _ => rfl) hr2 r2 fl
    (fun _ => ⟨hB, fun e => absurd (hT _ e) (Nat.lt_irrefl _), fun e => absurd (hP _ e) (Nat.lt_irrefl _), fun e => absurd (hL _ e) (Nat.lt_irrefl _), fun e => absurd (hK _ e) (Nat.lt_irrefl _)⟩)
    (A := fun k => vS.l.ownBlock = some k ∨ vS.k.ownBlock = some k) (fun k hk => hk) F6 oL6 oK6
    (by rcases hbv with e | e
        · exact Or.inl e
        · exact Or.inr ⟨_, e, by omega⟩)
    (by rcases hb6 with e | e
        · exact Or.inl e
        · exact Or.inr ⟨_, e, by omega⟩)
    (fun g hg hk => by
      rcases hb6 with e | e
      · rw [e] at hk; exact hlk g hg hk
      · rw [e] at hk; cases hk
        have h9 := (oL4.lt _ hg).2
        have h10 : (w3.setCell ⟨B, 3, none⟩ (.slice (some ⟨g9, 0, none⟩) (m + 1) cap9)).heap.size = w3.heap.size := by simp
        omega)
  have HF : Hid (∃ vS' Φ' es', SWd (XP B w0) B c vT vP vS' ts nP ps Φ' (w5.setCell ⟨B, 4, none⟩ v6) ∧ XPd B w0 c vS' Φ' (w5.setCell ⟨B, 4, none⟩ v6) (m + 1) es' ∧
      (∀ g, vS'.l.ownBlock = some g → vS.l.ownBlock = some g ∨ w.heap.size ≤ g) ∧ (∀ g, vS'.k.ownBlock = some g → vS.k.ownBlock = some g ∨ w.heap.size ≤ g) ∧
      (∀ k, k < w.heap.size → k ≠ B → vS.l.ownBlock ≠ some k → vS.k.ownBlock ≠ some k → (w5.setCell ⟨B, 4, none⟩ v6).heap[k]? = w.heap[k]?) ∧ w.heap.size ≤ (w5.setCell ⟨B, 4, none⟩ v6).heap.size) := by
    refine ⟨_, Φ', es', hS, hS2, fun g hg => ?_, fun g hg => ?_, fun k hk h1 h3 h4 => ?_, Nat.le_trans s2 F6.size⟩
    · rcases hbv with e | e
      · exact Or.inl (e ▸ hg)
      · have e2 : (Value.slice (some ⟨g9, 0, none⟩) (m + 1) cap9).ownBlock = some g := hg
        rw [e] at e2; cases e2; exact Or.inr (by omega)
    · rcases hb6 with e | e
      · exact Or.inl (e ▸ hg)
      · have e2 : v6.ownBlock = some g := hg
        rw [e] at e2; cases e2; exact Or.inr (by omega)
    · refine (F6.same k (by omega) h1 (fun h5 => ?_)).trans (g2.block k hk (by simp))
      rcases h5 with h5 | h5
      · exact h3 h5
      · exact h4 h5
  clear hS hS2 F6 F5 F4a F4 oL4 oL5 oL6 oK6 o5 hg5 hb5 hb6 hlk h2 hx2 hr2 r2 HW HA HK3
  subst hv8
  go_wp2
  go_end0
  exact ⟨rfl, HF.out⟩
end Go.Proofs.YtkijpphmiogbbaaGreatDoor.Z

namespace Go.Proofs.YtkijpphmiogbbaaGreatDoor.Z
open Go.RowKit
attribute [local go_sem ↓] Go.wp_at_zero Go.wp_at_succ

def hidBSA (n : Nat) (ps : Array (Nat × Value)) : Sem Value := Instr.buildSlice 60 n ps
theorem bsA_hide (n : Nat) (ps : Array (Nat × Value)) : Instr.buildSlice 60 n ps = hidBSA n ps := rfl
theorem run_hidBSA (L : Nat → Int) (W : World) : (hidBSA 1 #[(0, .agg (polyA .i64 L))]).run Tryz.prog W = .ok (.slice (some ⟨W.heap.size, 0, none⟩) 1 1) (W.alloc (.cells (polyA .i64 L) 71)) := bs_one L W
/-- What lies in a cell that is marked. -/
def mkP (z : Int) : Nat → Int := upd (fun _ => 0) 5 z
/-- The marks are set: all else is as it was. -/
theorem mark_end {B : Nat} {w0 : World} {c : Nat} {vT vP : Value} {vS : SV} {ts : List ByteArray} {nP : Nat} {ps : List Value} {Φ : Nat → Prop} {w W : World} {m : Nat} {es : Nat → Ent}
    (h : SWd (XP B w0) B c vT vP vS ts nP ps Φ w) (hx : XPd B w0 c vS Φ w m es) {mk : Int} {A : Nat → Prop} (hA : ∀ k, A k → vT.ownBlock ≠ some k ∧ vP.ownBlock ≠ some k ∧ ¬ Φ k) (F : Frm B w W #[vT, vP, vS.s, vS.l, vS.k, .int .i64 mk] A) (h0 : 0 ≤ mk) (h1 : mk ≤ 20 * (c : Int) + 20) :
    SWd (XP B w0) B (c + 1) vT vP ⟨vS.s, vS.l, vS.k, mk⟩ ts nP ps Φ W ∧ XPd B w0 (c + 1) ⟨vS.s, vS.l, vS.k, mk⟩ Φ W m es := by
  have sΦ : ∀ k, Φ k → W.heap[k]? = w.heap[k]? := fun k hk => F.same k (h.lt k hk) (fun e => h.fB (by rw [← e]; exact hk)) (fun hAk => (hA k hAk).2.2 hk)
  have sT : ∀ g, vT.ownBlock = some g → W.heap[g]? = w.heap[g]? := fun g hg => F.same g (h.own.lt g hg).2 (fun e => own_ne h.own h.blk (by decide) (by rw [← e]; exact hg)) (fun hAg => (hA g hAg).1 hg)
  have sP : ∀ g, vP.ownBlock = some g → W.heap[g]? = w.heap[g]? := fun g hg => F.same g (h.ownP.lt g hg).2 (fun e => own_ne h.ownP h.blk (by decide) (by rw [← e]; exact hg)) (fun hAg => (hA g hAg).2.1 hg)
  have hXP : XPd B w0 (c + 1) ⟨vS.s, vS.l, vS.k, mk⟩ Φ W m es := by
    have q := hx.loc F.os F.tape F.output F.size sΦ
    exact ⟨q.low, q.lowΦ, q.ownL, q.ownK, by have := q.mc; omega, q.fL, q.fK, fun i hi => ⟨(q.en i hi).n9, (q.en i hi).la, (q.en i hi).ka, (q.en i hi).lr, (q.en i hi).kr, (q.en i hi).fl, (q.en i hi).fk⟩, h0, by show mk ≤ _; omega⟩
  exact ⟨⟨F.blk, own_blockP h.own sT, by have := h.nT; omega, h.short, own_blockP h.ownP sP, by have := h.nPc; omega, h.ints, h.fB, h.fT, h.fP, fun k hk => Nat.lt_of_lt_of_le (h.lt k hk) F.size, _, _, hXP⟩, hXP⟩
/-- The rows of a list that append has made. -/
theorem own_rows {W : World} {base : Nat} {g cap n : Nat} {Ls : Nat → Nat → Int} {M : Nat → Int} (h : W.ownsRow base 71 256 (.slice (some ⟨g, 0, none⟩) (n + 1) cap) (n + 1) (rowsL Ls n ++ polyL .i64 M)) : ∀ s, s < n + 1 → PRow .i64 W g (256 * s) (if s < n then Ls s else M) := by
  have hfz : ∀ i, W.frozen? ⟨g, i, none⟩ = false := by
    rcases h.2 with ⟨h1, _⟩ | ⟨g', cap', cur, h1, _, hg, _⟩
    · cases h1
    · cases h1
      intro i
      simp [World.frozen?, hg]
  intro s hs i hi
  refine ⟨?_, hfz _⟩
  have hc := h.cells (g := g) rfl (256 * s + i) (.int .i64 ((if s < n then Ls s else M) i)) (by
    by_cases e : s < n
    · rw [List.getElem?_append_left (by rw [rowsL_len]; omega), if_pos e]
      exact rowsL_at Ls n s i e hi
    · obtain rfl : s = n := by omega
      rw [List.getElem?_append_right (by rw [rowsL_len]; omega), rowsL_len, if_neg e, show 256 * s + i - s * 256 = i by omega]
      unfold polyL
      rw [List.getElem?_map, List.getElem?_range hi]; rfl)
  rwa [Addr.add_lit, Nat.zero_add] at hc
theorem PRow.setOZ {k : IntKind} {w : World} {b f : Nat} {L : Nat → Int} (h : PRow k w b f L) {i : Nat} (hi : i < 256) (v : Int) : PRow k (w.setCell ⟨b, f + i, none⟩ (.int k v)) b f (upd L i v) := PRow.setO h hi v
theorem PRow.setOutZ {k : IntKind} {w : World} {b f : Nat} {L : Nat → Int} (h : PRow k w b f L) {x : Nat} (hx : x < f ∨ f + 256 ≤ x) (v : Value) : PRow k (w.setCell ⟨b, x, none⟩ v) b f L := PRow.setOut h hx v
theorem zero_set (z : Int) : Tryz.zeroCells71.setIfInBounds 5 (.int .i64 z) = polyA .i64 (mkP z) := by
  rw [Tryz.zA]
  unfold mkP polyA polyL
  apply Array.ext'
  apply List.ext_getElem?
  intro i
  simp only [Array.toList_setIfInBounds]
  rw [List.getElem?_set]
  by_cases h : 5 = i
  · subst h; simp [upd_same]
  · rw [if_neg h]
    rcases Nat.lt_or_ge i 256 with hi | hi
    · rw [List.getElem?_map, List.getElem?_map, List.getElem?_range hi]
      simp [upd_ne _ _ _ _ (Ne.symm h)]
    · rw [List.getElem?_eq_none (by simpa using hi), List.getElem?_eq_none (by simpa using hi)]
theorem Tryz.infoA : (Tryz.prog.info? 71).map (fun i => (i.zero, i.size, i.bytes)) = some (some (.agg (polyA .i64 (fun _ => 0))), 256, 2048) := by kernel_rfl
theorem Tryz.uAs : Tryz.prog.underlying 60 = some (.slice 71) := by kernel_rfl
theorem zsz : (Value.agg (polyA .i64 (fun _ => 0))).cells.size = 256 := by simp [Value.cells, polyA_size]
attribute [local go_sem ↓] bsA_hide
set_option maxHeartbeats 4000000 in
set_option maxRecDepth 20000 in
theorem keep_none {B : Nat} {w0 : World} {c : Nat} {vT vP : Value} {vS : SV} {ts : List ByteArray} {nP : Nat} {ps : List Value} {Φ : Nat → Prop} {w : World}
    (h : SWd (XP B w0) B c vT vP vS ts nP ps Φ w) (hc : c ≤ 40000) :
    Calls Tryz.prog 36 #[.pointer (some ⟨B, 0, none⟩), .slice none 0 0] w fun e w' => e = .returned (.tuple #[]) ∧ SW (XP B w0) B (c + 1) w' := by
  obtain ⟨m, es, hx⟩ := h.side
  have q0 := hx.mk0
  have q1 := hx.mk1
  have q2 := hx.mc
  have hBl := h.Blt
  have F0 : Frm B w w #[vT, vP, vS.s, vS.l, vS.k, .int .i64 vS.m] (fun q => False) := ⟨h.blk, rfl, rfl, rfl, Nat.le_refl _, fun _ _ _ _ => rfl⟩
  have HH : Hid (SWd (XP B w0) B c vT vP vS ts nP ps Φ w ∧ XPd B w0 c vS Φ w m es) := ⟨h, hx⟩
  clear h hx
  go_enter Tryz.func36, Tryz.ntmps36
  go_wp2
  refine wp_loop_rounds 1 ?_
  rw [rounds_succ]
  have hF := F0
  clear F0
  obtain ⟨M, hM⟩ : ∃ M, M = vS.m := ⟨_, rfl⟩
  rw [← hM] at hF
  have M0 : 0 ≤ M := by omega
  have M1 : M ≤ 1000000 := by omega
  have HM : Hid (M = vS.m) := hM
  clear hM
  have c5 : w.cell? ⟨B, 5, none⟩ = some (.int .i64 M) := hF.cell 5 _ rfl
  have z5 := hF.fz 5
  have F1 := hF.set 5 (.int .i64 (M + 1))
  have n8 := new_alloc .i64 (w.setCell ⟨B, 5, none⟩ (.int .i64 (M + 1))) (mkP (-(M + 1))) 71
  rw [← zero_set] at n8
  have n9b := new_alloc .i64 ((w.setCell ⟨B, 5, none⟩ (.int .i64 (M + 1))).alloc (.cells (Tryz.zeroCells71.setIfInBounds 5 (.int .i64 (-(M + 1)))) 71)) (mkP (-(M + 1))) 71
  have bs := fun W => run_hidBSA (mkP (-(M + 1))) W
  have l7 : (w.setCell ⟨B, 5, none⟩ (.int .i64 (M + 1))).heap.size = w.heap.size := by simp
  have r8 := n8.r
  rw [l7] at r8
  have F9 := (F1.grow n8.g (fun q e => by cases e)).grow n9b.g (fun q e => by cases e)
  have lw : w.heap.size ≤ w.heap.size := hF.size
  have c6 : ((w.setCell ⟨B, 5, none⟩ (.int .i64 (M + 1))).alloc (.cells Tryz.zeroCells71 71)).cell? ⟨B, 5, none⟩ = some (.int .i64 (M + 1)) := (World.grownBy_alloc (w.setCell ⟨B, 5, none⟩ (.int .i64 (M + 1))) _ none).cell (F1.cell 5 _ rfl) (by simp)
  have HF9 : Hid (Frm B w (((w.setCell ⟨B, 5, none⟩ (.int .i64 (M + 1))).alloc (.cells (Tryz.zeroCells71.setIfInBounds 5 (.int .i64 (-(M + 1)))) 71)).alloc (.cells (polyA .i64 (mkP (-(M + 1)))) 71)) #[vT, vP, vS.s, vS.l, vS.k, .int .i64 (M + 1)] (fun _ => False)) := F9
  have hnone : (none : Option Addr) = none → (0 : Nat) = 0 ∧ (0 : Nat) = 0 := fun _ => ⟨rfl, rfl⟩
  have holds : Hid (∀ b, (none : Option Addr) = some b → ∀ j u, (rowsL (fun s => mkP (-(vS.m + (s : Int) + 1))) 0)[j]? = some u → (((w.setCell ⟨B, 5, none⟩ (.int .i64 (M + 1))).alloc (.cells (Tryz.zeroCells71.setIfInBounds 5 (.int .i64 (-(M + 1)))) 71)).alloc (.cells (polyA .i64 (mkP (-(M + 1)))) 71)).cell? (b.add j) = some u) := fun b hb => by cases hb
  have news : Hid (∀ j u, (polyL .i64 (mkP (-(M + 1))))[j]? = some u → (((w.setCell ⟨B, 5, none⟩ (.int .i64 (M + 1))).alloc (.cells (Tryz.zeroCells71.setIfInBounds 5 (.int .i64 (-(M + 1)))) 71)).alloc (.cells (polyA .i64 (mkP (-(M + 1)))) 71)).cell? ((⟨w.heap.size + 1, 0, none⟩ : Addr).add j) = some u) := fun j u hu => by
    rw [Addr.add_lit, Nat.zero_add, show w.heap.size + 1 = ((w.setCell ⟨B, 5, none⟩ (.int .i64 (M + 1))).alloc (.cells (Tryz.zeroCells71.setIfInBounds 5 (.int .i64 (-(M + 1)))) 71)).heap.size by simp, World.cell?_alloc_new]
    unfold polyA
    rw [List.getElem?_toArray]; exact hu
  have z9 : (((w.setCell ⟨B, 5, none⟩ (.int .i64 (M + 1))).alloc (.cells (Tryz.zeroCells71.setIfInBounds 5 (.int .i64 (-(M + 1)))) 71)).alloc (.cells (polyA .i64 (mkP (-(M + 1)))) 71)).heap.size = w.heap.size + 1 + 1 := by simp
  obtain ⟨i0, hi, hz0, hz1, hz2⟩ := info_of Tryz.infoA
  simp only at hz0 hz1 hz2
  have HI : Hid (Tryz.prog.info? 71 = some i0) := hi
  clear hF F1 F9 n8 n9b l7 hi
  go_wp2_with (first | (refine wpL_load rfl .i64 71 _ rfl w.heap.size 0 rfl (mkP (-(M + 1))) r8 ⟨_, Tryz.uA⟩ Tryz.sA ?_) | (at_builtin; refine wpList_append_grows _ rfl _ _ 60 rfl 71 i0 _ 256 2048 Tryz.uAs HI.out hz0 hz1 hz2 zsz (by decide) none 0 0 (rowsL (fun s => mkP (-(vS.m + (s : Int) + 1))) 0) rfl hnone (rowsL_len _ _) holds.out ⟨_, 0, none⟩ 1 1 (polyL .i64 (mkP (-(M + 1)))) rfl (polyL_len _ _) news.out (polyL_one _) (by omega) ?a1 ?a2 ?_))
  case a1 => unfold maxLen; omega
  intro v' w10 o10 g10
  have F10 := HF9.out.grow g10 (fun q e => by cases e)
  obtain ⟨G, cap, hv⟩ := ownsRow_succ o10
  subst hv
  have hG := (o10.lt G rfl)
  have hGr := own_rows o10
  obtain ⟨h, hx⟩ := HH.out
  obtain ⟨h10, x10⟩ := mark_end h hx (fun q hq => hq.elim) F10 (by omega) (by have := HM.out; omega)
  have hT : ∀ g, vT.ownBlock = some g → g < w.heap.size := fun g hg => (h.own.lt g hg).2
  have hP : ∀ g, vP.ownBlock = some g → g < w.heap.size := fun g hg => (h.ownP.lt g hg).2
  have hL : ∀ g, vS.l.ownBlock = some g → g < w.heap.size := fun g hg => (hx.ownL.lt g hg).2
  have hK : ∀ g, vS.k.ownBlock = some g → g < w.heap.size := fun g hg => (hx.ownK.lt g hg).2
  have hG1 : w.heap.size < G := by have := hG.1; omega
  have HG : Hid (∀ s, s < 0 + 1 → PRow .i64 w10 G (256 * s) (if s < 0 then mkP (-(vS.m + (s : Int) + 1)) else mkP (-(M + 1)))) := hGr
  clear o10 g10 F10 HF9 hnone holds news hGr h hx HH bs r8 c5 z5 c6 HI hz0 hz1 hz2
  go_wp2_with fail
  refine (hold_any h10 x10 (by omega) (by omega) none 0 0 0 (fun _ _ => 0) (by omega) (fun h0 => absurd h0 (by omega)) (fun s hs => absurd hs (by omega)) (fun h0 => absurd h0 (by omega))).mono ?_
  rintro e w11 ⟨rfl, vS1, Φ1, es1, h11, x11, bl, bk, same, sz⟩
  have hGB : G ≠ B := by omega
  have r11 : ∀ s, s < 0 + 1 → PRow .i64 w11 G (256 * s) (if s < 0 then mkP (-(vS.m + (s : Int) + 1)) else mkP (-(M + 1))) := fun s hs => (HG.out s hs).block (same G hG.2 hGB (fun e => by have := hL G e; omega) (fun e => by have := hK G e; omega))
  clear h10 x10 same HG
  go_wp2_with fail
  refine (hold_any h11 x11 (by omega) (by omega) (some ⟨G, 0, none⟩) G (0 + 1) cap _ (by omega) (fun _ => rfl) r11 (fun _ => ⟨by omega, fun e => by have := hT G e; omega, fun e => by have := hP G e; omega, fun e => ?_, fun e => ?_⟩)).mono ?_
  · rcases bl G e with e2 | e2
    · have := hL G e2; omega
    · have := hG.2; omega
  · rcases bk G e with e2 | e2
    · have := hK G e2; omega
    · have := hG.2; omega
  rintro e w12 ⟨rfl, vS2, Φ2, es2, h12, _⟩
  have HE : Hid (SW (XP B w0) B (c + 1) w12) := ⟨_, _, _, _, _, _, _, h12⟩
  clear h11 x11 r11 h12 bl bk
  go_wp2
  go_end0
  exact ⟨rfl, HE.out⟩
set_option maxHeartbeats 4000000 in
set_option maxRecDepth 20000 in
theorem keep_some {B : Nat} {w0 : World} {c : Nat} {vT vP : Value} {vS : SV} {ts : List ByteArray} {nP : Nat} {ps : List Value} {Φ : Nat → Prop} {w : World}
    (h : SWd (XP B w0) B c vT vP vS ts nP ps Φ w) (hc : c ≤ 40000) (N n : Nat) (Ls : Nat → Nat → Int) (hn0 : 0 < n) (hn : n ≤ 8) (hr : ∀ s, s < n → PRow .i64 w N (256 * s) (Ls s))
    (fl : B < N ∧ vT.ownBlock ≠ some N ∧ vP.ownBlock ≠ some N ∧ vS.l.ownBlock ≠ some N ∧ vS.k.ownBlock ≠ some N ∧ ¬ Φ N) :
    Calls Tryz.prog 36 #[.pointer (some ⟨B, 0, none⟩), .slice (some ⟨N, 0, none⟩) n n] w fun e w' => e = .returned (.tuple #[]) ∧ SW (XP B w0) B (c + 1) w' := by
  obtain ⟨m, es, hx⟩ := h.side
  have q0 := hx.mk0
  have q1 := hx.mk1
  have q2 := hx.mc
  have hBl := h.Blt
  have F0 : Frm B w w #[vT, vP, vS.s, vS.l, vS.k, .int .i64 vS.m] (fun q => q = N) := ⟨h.blk, rfl, rfl, rfl, Nat.le_refl _, fun _ _ _ _ => rfl⟩
  have HH : Hid (SWd (XP B w0) B c vT vP vS ts nP ps Φ w ∧ XPd B w0 c vS Φ w m es) := ⟨h, hx⟩
  clear h hx
  obtain ⟨f1, f2, f3, f4, f5, f6⟩ := fl
  have hNl : N < w.heap.size := (hr 0 hn0).lt
  have n9 : (n : Int) ≤ 8 := by omega
  have HR : Hid (∀ s, s < n → PRow .i64 w N (256 * s) (Ls s)) := hr
  clear hr
  have HF0 : Hid (Frm B w w #[vT, vP, vS.s, vS.l, vS.k, .int .i64 vS.m] (fun q => q = N)) := F0
  clear F0
  go_enter Tryz.func36, Tryz.ntmps36
  go_wp2
  go_loopw [4] (fun i wr => ∃ k : Nat, k ≤ n ∧ i = .int .i64 k ∧ Hid (Frm B w wr #[vT, vP, vS.s, vS.l, vS.k, .int .i64 (vS.m + k)] (fun q => q = N) ∧ ∀ s, s < n → PRow .i64 wr N (256 * s) (if s < k then mkP (-(vS.m + (s : Int) + 1)) else Ls s))) (fun i _ => n - (intOf i).toNat)
  case atStart => exact ⟨0, by omega, rfl, by simpa using HF0.out, fun s hs => by simpa using HR.out s hs⟩
  case round =>
    clear HF0 HR
    obtain ⟨k, hk, rfl, HK⟩ := hrel
    have hF := HK.out.1
    have hR := HK.out.2
    by_cases hlt : k < n
    · have a1 : (k : Int) < (n : Int) := by omega
      obtain ⟨M, hM⟩ : ∃ M, M = vS.m + (k : Int) := ⟨_, rfl⟩
      rw [← hM] at hF
      have M0 : 0 ≤ M := by omega
      have M1 : M ≤ 1000000 := by omega
      have c5 : wr.cell? ⟨B, 5, none⟩ = some (.int .i64 M) := hF.cell 5 _ rfl
      have z5 := hF.fz 5
      have F1 := hF.set 5 (.int .i64 (M + 1))
      have ix := fun W => ixA N n n k hlt W
      have R1 : ∀ s, s < n → PRow .i64 (wr.setCell ⟨B, 5, none⟩ (.int .i64 (M + 1))) N (256 * s) (if s < k then mkP (-(vS.m + (s : Int) + 1)) else Ls s) := fun s hs => (hR s hs).set_other (by show B ≠ N; omega) _
      have HF1 : Hid (Frm B w (wr.setCell ⟨B, 5, none⟩ (.int .i64 (M + 1))) #[vT, vP, vS.s, vS.l, vS.k, .int .i64 (M + 1)] (fun q => q = N) ∧ ∀ s, s < n → PRow .i64 (wr.setCell ⟨B, 5, none⟩ (.int .i64 (M + 1))) N (256 * s) (if s < k then mkP (-(vS.m + (s : Int) + 1)) else Ls s)) := ⟨F1, R1⟩
      have HM : Hid (M = vS.m + (k : Int)) := hM
      have hRk := R1 k hlt
      clear hF hR HK F1 R1 hM
      go_wp2_with (first | (refine wpL_store rfl .i64 71 _ _ rfl N (256 * k) rfl _ (congrArg Value.agg Tryz.zA) .i64 _ hRk Tryz.sA ?_; intro w2 p2))
      have F2 := HF1.out.1.grow p2.g (fun q e => by cases e; exact ⟨by omega, Or.inl rfl⟩)
      have c6 : w2.cell? ⟨B, 5, none⟩ = some (.int .i64 (M + 1)) := F2.cell 5 _ rfl
      have r5 := p2.r 5 (by omega)
      have e5 := r5.1
      have g5 := r5.2
      have HF2 : Hid (∀ s, s < n → PRow .i64 (w2.setCell ⟨N, 256 * k + 5, none⟩ (.int .i64 (-(M + 1)))) N (256 * s) (if s < k + 1 then mkP (-(vS.m + (s : Int) + 1)) else Ls s)) := fun s hs => by
        by_cases e : s = k
        · subst e
          rw [if_pos (by omega), ← HM.out]
          exact p2.r.setOZ (by omega) _
        · have q9 := ((HF1.out.2 s hs).apartZ p2 (by omega)).setOutZ (x := 256 * k + 5) (by omega) (.int .i64 (-(M + 1)))
          by_cases e2 : s < k
          · rw [if_pos e2] at q9; rw [if_pos (by omega)]; exact q9
          · rw [if_neg e2] at q9; rw [if_neg (by omega)]; exact q9
      have HF3 : Hid (Frm B w (w2.setCell ⟨N, 256 * k + 5, none⟩ (.int .i64 (-(M + 1)))) #[vT, vP, vS.s, vS.l, vS.k, .int .i64 (M + 1)] (fun q => q = N)) := F2.grow (r := some N) ⟨rfl, rfl, rfl, by simp, fun q hq hr => Below.heap_setCell _ _ _ _ (fun e => hr (by rw [e]))⟩ (fun q e => by cases e; exact ⟨by omega, Or.inl rfl⟩)
      clear HF1 F2 p2 r5 hRk c5 z5
      go_region
      have e9 : vS.m + ((k + 1 : Nat) : Int) = M + 1 := by have := HM.out; omega
      go_wp2
      go_roundw
      case rel => exact ⟨k + 1, by omega, by go_num, by rw [e9]; exact ⟨HF3.out.blk, HF3.out.os, HF3.out.tape, HF3.out.output, HF3.out.size, HF3.out.same⟩, HF2.out⟩
      case measure => simp [intOf]; omega
    · obtain rfl : k = n := by omega
      clear hlt hk HK
      have hR : ∀ s, s < k → PRow .i64 wr N (256 * s) (mkP (-(vS.m + (s : Int) + 1))) := fun s hs => by have := hR s hs; rwa [if_pos hs] at this
      obtain ⟨M, hM⟩ : ∃ M, M = vS.m + (k : Int) := ⟨_, rfl⟩
      rw [← hM] at hF
      have M0 : 0 ≤ M := by omega
      have M1 : M ≤ 1000000 := by omega
      have HM : Hid (M = vS.m + (k : Int)) := hM
      clear hM
      have c5 : wr.cell? ⟨B, 5, none⟩ = some (.int .i64 M) := hF.cell 5 _ rfl
      have z5 := hF.fz 5
      have F1 := hF.set 5 (.int .i64 (M + 1))
      have R1 : ∀ s, s < k → PRow .i64 (wr.setCell ⟨B, 5, none⟩ (.int .i64 (M + 1))) N (256 * s) (mkP (-(vS.m + (s : Int) + 1))) := fun s hs => (hR s hs).set_other (by show B ≠ N; omega) _
      have n8 := new_alloc .i64 (wr.setCell ⟨B, 5, none⟩ (.int .i64 (M + 1))) (mkP (-(M + 1))) 71
      rw [← zero_set] at n8
      have n9b := new_alloc .i64 ((wr.setCell ⟨B, 5, none⟩ (.int .i64 (M + 1))).alloc (.cells (Tryz.zeroCells71.setIfInBounds 5 (.int .i64 (-(M + 1)))) 71)) (mkP (-(M + 1))) 71
      have bs := fun W => run_hidBSA (mkP (-(M + 1))) W
      have l7 : (wr.setCell ⟨B, 5, none⟩ (.int .i64 (M + 1))).heap.size = wr.heap.size := by simp
      have r8 := n8.r
      rw [l7] at r8
      have F9 := (F1.grow n8.g (fun q e => by cases e)).grow n9b.g (fun q e => by cases e)
      have lw : w.heap.size ≤ wr.heap.size := hF.size
      have c6 : ((wr.setCell ⟨B, 5, none⟩ (.int .i64 (M + 1))).alloc (.cells Tryz.zeroCells71 71)).cell? ⟨B, 5, none⟩ = some (.int .i64 (M + 1)) := (World.grownBy_alloc (wr.setCell ⟨B, 5, none⟩ (.int .i64 (M + 1))) _ none).cell (F1.cell 5 _ rfl) (by simp)
      have R9 : ∀ s, s < k → PRow .i64 (((wr.setCell ⟨B, 5, none⟩ (.int .i64 (M + 1))).alloc (.cells (Tryz.zeroCells71.setIfInBounds 5 (.int .i64 (-(M + 1)))) 71)).alloc (.cells (polyA .i64 (mkP (-(M + 1)))) 71)) N (256 * s) (mkP (-(vS.m + (s : Int) + 1))) := fun s hs => ((R1 s hs).new n8.g).new n9b.g
      have HF9 : Hid (Frm B w (((wr.setCell ⟨B, 5, none⟩ (.int .i64 (M + 1))).alloc (.cells (Tryz.zeroCells71.setIfInBounds 5 (.int .i64 (-(M + 1)))) 71)).alloc (.cells (polyA .i64 (mkP (-(M + 1)))) 71)) #[vT, vP, vS.s, vS.l, vS.k, .int .i64 (M + 1)] (fun q => q = N) ∧ ∀ s, s < k → PRow .i64 (((wr.setCell ⟨B, 5, none⟩ (.int .i64 (M + 1))).alloc (.cells (Tryz.zeroCells71.setIfInBounds 5 (.int .i64 (-(M + 1)))) 71)).alloc (.cells (polyA .i64 (mkP (-(M + 1)))) 71)) N (256 * s) (mkP (-(vS.m + (s : Int) + 1)))) := ⟨F9, R9⟩
      have hnone : ((some ⟨N, 0, none⟩) : Option Addr) = none → (k : Nat) = 0 ∧ (k : Nat) = 0 := fun h => by cases h
      have holds : Hid (∀ b, ((some ⟨N, 0, none⟩) : Option Addr) = some b → ∀ j u, (rowsL (fun s => mkP (-(vS.m + (s : Int) + 1))) k)[j]? = some u → (((wr.setCell ⟨B, 5, none⟩ (.int .i64 (M + 1))).alloc (.cells (Tryz.zeroCells71.setIfInBounds 5 (.int .i64 (-(M + 1)))) 71)).alloc (.cells (polyA .i64 (mkP (-(M + 1)))) 71)).cell? (b.add j) = some u) := fun b hb j u hu => by
        cases hb
        obtain ⟨s, i, hs, hi, rfl, rfl⟩ := rowsL_split hu
        rw [Addr.add_lit, Nat.zero_add]
        exact (R9 s hs i hi).1
      have news : Hid (∀ j u, (polyL .i64 (mkP (-(M + 1))))[j]? = some u → (((wr.setCell ⟨B, 5, none⟩ (.int .i64 (M + 1))).alloc (.cells (Tryz.zeroCells71.setIfInBounds 5 (.int .i64 (-(M + 1)))) 71)).alloc (.cells (polyA .i64 (mkP (-(M + 1)))) 71)).cell? ((⟨wr.heap.size + 1, 0, none⟩ : Addr).add j) = some u) := fun j u hu => by
        rw [Addr.add_lit, Nat.zero_add, show wr.heap.size + 1 = ((wr.setCell ⟨B, 5, none⟩ (.int .i64 (M + 1))).alloc (.cells (Tryz.zeroCells71.setIfInBounds 5 (.int .i64 (-(M + 1)))) 71)).heap.size by simp, World.cell?_alloc_new]
        unfold polyA
        rw [List.getElem?_toArray]; exact hu
      have z9 : (((wr.setCell ⟨B, 5, none⟩ (.int .i64 (M + 1))).alloc (.cells (Tryz.zeroCells71.setIfInBounds 5 (.int .i64 (-(M + 1)))) 71)).alloc (.cells (polyA .i64 (mkP (-(M + 1)))) 71)).heap.size = wr.heap.size + 1 + 1 := by simp
      obtain ⟨i0, hi, hz0, hz1, hz2⟩ := info_of Tryz.infoA
      simp only at hz0 hz1 hz2
      have HI : Hid (Tryz.prog.info? 71 = some i0) := hi
      clear hF F1 F9 n8 n9b l7 hi hR R1 R9
      go_wp2_with (first | (refine wpL_load rfl .i64 71 _ rfl wr.heap.size 0 rfl (mkP (-(M + 1))) r8 ⟨_, Tryz.uA⟩ Tryz.sA ?_) | (at_builtin; refine wpList_append_grows _ rfl _ _ 60 rfl 71 i0 _ 256 2048 Tryz.uAs HI.out hz0 hz1 hz2 zsz (by decide) (some ⟨N, 0, none⟩) k k (rowsL (fun s => mkP (-(vS.m + (s : Int) + 1))) k) rfl hnone (rowsL_len _ _) holds.out ⟨_, 0, none⟩ 1 1 (polyL .i64 (mkP (-(M + 1)))) rfl (polyL_len _ _) news.out (polyL_one _) (by omega) ?a1 ?a2 ?_))
      case a1 => unfold maxLen; omega
      case a2 => omega
      intro v' w10 o10 g10
      have F10 := HF9.out.1.grow g10 (fun q e => by cases e)
      obtain ⟨G, cap, hv⟩ := ownsRow_succ o10
      subst hv
      have hG := (o10.lt G rfl)
      have hGr := own_rows o10
      obtain ⟨h, hx⟩ := HH.out
      obtain ⟨h10, x10⟩ := mark_end h hx (fun q hq => by cases hq; exact ⟨f2, f3, f6⟩) F10 (by omega) (by have := HM.out; omega)
      have r10 : ∀ s, s < k → PRow .i64 w10 N (256 * s) (mkP (-(vS.m + (s : Int) + 1))) := fun s hs => (HF9.out.2 s hs).new g10
      have hT : ∀ g, vT.ownBlock = some g → g < w.heap.size := fun g hg => (h.own.lt g hg).2
      have hP : ∀ g, vP.ownBlock = some g → g < w.heap.size := fun g hg => (h.ownP.lt g hg).2
      have hL : ∀ g, vS.l.ownBlock = some g → g < w.heap.size := fun g hg => (hx.ownL.lt g hg).2
      have hK : ∀ g, vS.k.ownBlock = some g → g < w.heap.size := fun g hg => (hx.ownK.lt g hg).2
      have hG1 : w.heap.size < G := by have := hG.1; omega
      have HG : Hid (∀ s, s < k + 1 → PRow .i64 w10 G (256 * s) (if s < k then mkP (-(vS.m + (s : Int) + 1)) else mkP (-(M + 1)))) := hGr
      clear o10 g10 F10 HF9 hnone holds news hGr h hx HH bs r8 c5 z5 c6 HI hz0 hz1 hz2
      go_wp2_with fail
      refine (hold_any h10 x10 (by omega) (by omega) (some ⟨N, 0, none⟩) N k k _ (by omega) (fun _ => rfl) r10 (fun _ => ⟨f1, f2, f3, f4, f5⟩)).mono ?_
      rintro e w11 ⟨rfl, vS1, Φ1, es1, h11, x11, bl, bk, same, sz⟩
      have hGB : G ≠ B := by omega
      have r11 : ∀ s, s < k + 1 → PRow .i64 w11 G (256 * s) (if s < k then mkP (-(vS.m + (s : Int) + 1)) else mkP (-(M + 1))) := fun s hs => (HG.out s hs).block (same G hG.2 hGB (fun e => by have := hL G e; omega) (fun e => by have := hK G e; omega))
      clear h10 x10 same HG
      go_wp2_with fail
      refine (hold_any h11 x11 (by omega) (by omega) (some ⟨G, 0, none⟩) G (k + 1) cap _ (by omega) (fun _ => rfl) r11 (fun _ => ⟨by omega, fun e => by have := hT G e; omega, fun e => by have := hP G e; omega, fun e => ?_, fun e => ?_⟩)).mono ?_
      · rcases bl G e with e2 | e2
        · have := hL G e2; omega
        · have := hG.2; omega
      · rcases bk G e with e2 | e2
        · have := hK G e2; omega
        · have := hG.2; omega
      rintro e w12 ⟨rfl, vS2, Φ2, es2, h12, _⟩
      have HE : Hid (SW (XP B w0) B (c + 1) w12) := ⟨_, _, _, _, _, _, _, h12⟩
      clear h11 x11 r11 h12 bl bk
      go_wp2
      go_end0
      exact ⟨rfl, HE.out⟩
end Go.Proofs.YtkijpphmiogbbaaGreatDoor.Z
