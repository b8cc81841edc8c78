import Derived.Test.YtikcbdpijjafjaaGreatDoorM50
namespace Go.Proofs.YtikcbdpijjafjaaGreatDoor.Z
open Go.RowKit
attribute [local go_sem ↓] Go.wp_at_zero Go.wp_at_succ

theorem Tryz.uLs : Tryz.prog.underlying 33 = some (.slice 60) := by kernel_rfl
theorem Tryz.iLs : (Tryz.prog.info? 60).map (fun i => (i.zero, i.size, i.bytes)) = some (some (.slice none 0 0), 1, 24) := by kernel_rfl
theorem made_rowsZ (W : World) (m : Nat) (T : TypeId) (s : Nat) (hs : s < m) : PRow .i64 (W.alloc (.cells (madeCells (polyA .i64 (fun _ => 0)) (m * 256)) T)) W.heap.size (256 * s) (fun _ => 0) := made_rows .i64 W m T s hs
set_option maxHeartbeats 4000000 in
set_option maxRecDepth 20000 in
theorem hold_any {B : Nat} {w0 : World} {c : Nat} {vT vP : Value} {vS : SV} {ts : List ByteArray} {nP : Nat} {ps : List Value} {Φ : Nat → Prop} {w : World} {m : Nat} {es : Nat → Ent}
    (h : SWd (XP B w0) B c vT vP vS ts nP ps Φ w) (hx : XPd B w0 c vS Φ w m es) (hm1 : m + 1 ≤ 2 * c) (hc : c ≤ 50000) (a : Option Addr) (lb n cp : Nat) (Ls : Nat → Nat → Int) (hn : n ≤ 9) (ha : 0 < n → a = some ⟨lb, 0, none⟩) (hr : ∀ s, s < n → PRow .i64 w lb (256 * s) (Ls s))
    (fl : 0 < n → B < lb ∧ vT.ownBlock ≠ some lb ∧ vP.ownBlock ≠ some lb ∧ vS.l.ownBlock ≠ some lb ∧ vS.k.ownBlock ≠ some lb) :
    Calls Tryz.prog 75 #[.pointer (some ⟨B, 0, none⟩), .slice a n cp] w fun e w' => e = .returned (.tuple #[]) ∧ ∃ vS' Φ' es', SWd (XP B w0) B c vT vP vS' ts nP ps Φ' w' ∧ XPd B w0 c vS' Φ' w' (m + 1) es' ∧
      (∀ g, vS'.l.ownBlock = some g → vS.l.ownBlock = some g ∨ w.heap.size ≤ g) ∧ (∀ g, vS'.k.ownBlock = some g → vS.k.ownBlock = some g ∨ w.heap.size ≤ g) ∧
      (∀ k, k < w.heap.size → k ≠ B → vS.l.ownBlock ≠ some k → vS.k.ownBlock ≠ some k → w'.heap[k]? = w.heap[k]?) ∧ w.heap.size ≤ w'.heap.size := by
  have hX := XP_local B w0
  have hmk := fun W => mkA0 n hn W
  have r1 := fun s hs => made_rowsZ w n 71 s hs
  have g1 := World.grownBy_alloc w (.cells (madeCells (polyA .i64 (fun _ => 0)) (n * 256)) 71) none
  have cp1 := run_copyA _ w.heap.size n a cp lb Ls ha (fun s hs => (hr s hs).new g1) r1
  have r2 := rowsL_put _ w.heap.size n Ls r1
  have g2 : w.grownBy ((w.alloc (.cells (madeCells (polyA .i64 (fun _ => 0)) (n * 256)) 71)).setCells w.heap.size 0 (rowsL Ls n)) none := grown_new g1 (grown_setCells w.heap.size (rowsL Ls n) 0 _ _ (World.grownBy.refl _ _)) (Nat.le_refl _)
  have n9 : (n : Int) ≤ 9 := by omega
  have hB := h.Blt
  have hL : ∀ g, vS.l.ownBlock = some g → g < w.heap.size := fun g hg => (hx.ownL.lt g hg).2
  have hK : ∀ g, vS.k.ownBlock = some g → g < w.heap.size := fun g hg => (hx.ownK.lt g hg).2
  have hT : ∀ g, vT.ownBlock = some g → g < w.heap.size := fun g hg => (h.own.lt g hg).2
  have hP : ∀ g, vP.ownBlock = some g → g < w.heap.size := fun g hg => (h.ownP.lt g hg).2
  have h2 := h.keep hX g2
  have hx2 : XPd B w0 c vS Φ _ m es := hx.loc g2.os g2.tape g2.output g2.size (fun k hk => g2.block k (h.lt k hk) (by simp))
  have hr2 := fun s hs => (hr s hs).new g2
  have c3 := h2.c3
  have hmc := hx.mc
  obtain ⟨i0, hi, hz0, hz1, hz2⟩ := info_of Tryz.iLs
  simp only at hz0 hz1 hz2
  have HI : Hid (Tryz.prog.info? 60 = some i0) := hi
  have HO := hx2.ownL
  clear hi g1
  go_enter Tryz.func75, Tryz.ntmps75
  go_wp2_with (first | (at_builtin; refine wpList_append_own_at _ rfl _ _ 33 rfl 0 60 i0 _ 1 24 Tryz.uLs HI.out hz0 hz1 hz2 rfl (by decide) vS.l m (lvs m es) rfl (HO.alloc _) ⟨_, 0, none⟩ 1 1 [.slice a n cp] rfl rfl ?c1 ?c2 ?c3 ?c4 ?c5 ?_))
  case c2 => first | rfl | (intro u hu; simp at hu; subst hu; rfl)
  case c3 => unfold maxLen; omega
  case c4 => omega
  intro v' w3 o3 hg3 _ hb3
  clear cp1 hmk c3 HO r1
  generalize (w.alloc (.cells (madeCells (polyA .i64 (fun _ => 0)) (n * 256)) 71)).setCells w.heap.size 0 (rowsL Ls n) = w2 at *
  have s2 := g2.size
  have hLB : vS.l.ownBlock ≠ some B := own_ne hx2.ownL h2.blk (by decide)
  have hKB : vS.k.ownBlock ≠ some B := own_ne hx2.ownK h2.blk (by decide)
  have F2 : Frm B w2 w2 #[vT, vP, vS.s, vS.l, vS.k, .int .i64 vS.m] (fun k => vS.l.ownBlock = some k ∨ vS.k.ownBlock = some k) := ⟨h2.blk, rfl, rfl, rfl, Nat.le_refl _, fun _ _ _ _ => rfl⟩
  have F2a := F2.grow (World.grownBy_alloc w2 (.cells #[.slice a n cp] 60) none) (fun k e => by cases e)
  have F3 := F2a.grow hg3 (fun k e => ⟨fun e2 => hLB (by rw [← e2]; exact e), Or.inl (Or.inl e)⟩)
  obtain ⟨g9, cap9, hv9⟩ := ownsRow_succ o3
  have F4 := F3.set 3 v'
  have d3 : w3.cell? ⟨B, 3, none⟩ = some vS.l := F3.cell 3 _ rfl
  have f3 := F3.fz 3
  have c4 : (w3.setCell ⟨B, 3, none⟩ v').cell? ⟨B, 4, none⟩ = some vS.k := F4.cell 4 _ rfl
  have oK3 : w3.ownsRow 0 60 1 vS.k m (kvs m es) := own_blockP hx2.ownK (fun g hg => by
    refine (hg3.block g (Nat.lt_of_lt_of_le (hx2.ownK.lt g hg).2 (by simp)) (fun e => (hx2.fL g e.symm).2.2 hg)).trans ?_
    exact (World.grownBy_alloc w2 (.cells #[.slice a n cp] 60) none).block g (hx2.ownK.lt g hg).2 (by simp))
  have HK3 : Hid ((w3.setCell ⟨B, 3, none⟩ v').ownsRow 0 60 1 vS.k m (kvs m es)) := ownsRow_setCell_other oK3 hKB _
  have oL4 : (w3.setCell ⟨B, 3, none⟩ v').ownsRow 0 60 1 v' (m + 1) (lvs m es ++ [.slice a n cp]) := ownsRow_setCell_other o3 (own_ne o3 F3.blk (by decide)) _
  have HA : Hid (Frm B w2 (w3.setCell ⟨B, 3, none⟩ v') #[vT, vP, vS.s, v', vS.k, .int .i64 vS.m] (fun k => vS.l.ownBlock = some k ∨ vS.k.ownBlock = some k) ∧ (w3.setCell ⟨B, 3, none⟩ v').ownsRow 0 60 1 v' (m + 1) (lvs m es ++ [.slice a n cp])) := ⟨F4, oL4⟩
  have HW : Hid (SWd (XP B w0) B c vT vP vS ts nP ps Φ w2 ∧ XPd B w0 c vS Φ w2 m es ∧ (∀ s, s < n → PRow .i64 w2 lb (256 * s) (Ls s)) ∧ ∀ s, s < n → PRow .i64 w2 w.heap.size (256 * s) (Ls s)) := ⟨h2, hx2, hr2, r2⟩
  have hbv : v'.ownBlock = vS.l.ownBlock ∨ v'.ownBlock = some (w2.heap.size + 1) := hb3
  have z4 : w2.heap.size + 1 ≤ w3.heap.size := by have := hg3.size; simpa using this
  clear h2 hx2 hr2 r2 F2 F2a F3 F4 oK3 oL4 o3 hg3 hb3 h hx
  subst hv9
  go_wp2_with (first | (at_builtin; refine wpList_append_own_at _ rfl _ _ 33 rfl 0 60 i0 _ 1 24 Tryz.uLs HI.out hz0 hz1 hz2 rfl (by decide) vS.k m (kvs m es) rfl (HK3.out.alloc _) ⟨_, 0, none⟩ 1 1 [.slice (some ⟨w.heap.size, 0, none⟩) n n] rfl rfl ?d1 ?d2 ?d3 ?d4 ?d5 ?_))
  case d1 =>
    intro j u hj
    have hadd : (⟨w3.heap.size, 0, none⟩ : Addr).add j = ⟨(w3.setCell ⟨B, 3, none⟩ (.slice (some ⟨g9, 0, none⟩) (m + 1) cap9)).heap.size, j, none⟩ := by
      rw [Addr.add_lit]; simp
    rw [hadd, World.cell?_alloc_new]
    simpa using hj
  case d2 => first | rfl | (intro u hu; simp at hu; subst hu; rfl)
  case d3 => unfold maxLen; omega
  case d4 => omega
  case d5 => exact Nat.zero_le _
  intro v6 w5 o5 hg5 _ hb5
  obtain ⟨h2, hx2, hr2, r2⟩ := HW.out
  obtain ⟨F4, oL4⟩ := HA.out
  have F4a := F4.grow (World.grownBy_alloc (w3.setCell ⟨B, 3, none⟩ (.slice (some ⟨g9, 0, none⟩) (m + 1) cap9)) (.cells #[.slice (some ⟨w.heap.size, 0, none⟩) n n] 60) none) (fun k e => by cases e)
  have F5 := F4a.grow hg5 (fun k e => ⟨fun e2 => hKB (by rw [← e2]; exact e), Or.inl (Or.inr e)⟩)
  obtain ⟨g8, cap8, hv8⟩ := ownsRow_succ o5
  have F6 := F5.set 4 v6
  have d4 : w5.cell? ⟨B, 4, none⟩ = some vS.k := F5.cell 4 _ rfl
  have f4 := F5.fz 4
  have hlk : ∀ g, (Value.slice (some ⟨g9, 0, none⟩) (m + 1) cap9).ownBlock = some g → vS.k.ownBlock ≠ some g := fun g hg hk => by
    rcases hbv with e | e
    · rw [e] at hg; exact (hx2.fL g hg).2.2 hk
    · rw [e] at hg; have := hK g hk; cases hg; omega
  have oL5 := own_blockP oL4 (w' := w5) (fun g hg => by
    refine (hg5.block g (Nat.lt_of_lt_of_le (oL4.lt g hg).2 (by simp)) (fun e => hlk g hg e.symm)).trans ?_
    exact (World.grownBy_alloc (w3.setCell ⟨B, 3, none⟩ (.slice (some ⟨g9, 0, none⟩) (m + 1) cap9)) (.cells #[.slice (some ⟨w.heap.size, 0, none⟩) n n] 60) none).block g (oL4.lt g hg).2 (by simp))
  have oL6 := ownsRow_setCell_other (a := ⟨B, 4, none⟩) oL5 (own_ne oL5 F5.blk (by decide)) v6
  have oK6 := ownsRow_setCell_other (a := ⟨B, 4, none⟩) o5 (own_ne o5 F5.blk (by decide)) v6
  have hb6 : v6.ownBlock = vS.k.ownBlock ∨ v6.ownBlock = some (w3.heap.size + 1) := by simpa using hb5
  obtain ⟨Φ', es', hS, hS2⟩ := hold_end h2 hx2 hm1 ⟨n, a, lb, cp, some ⟨w.heap.size, 0, none⟩, w.heap.size, n, Ls⟩ hn ha (fun _ => rfl) hr2 r2 fl
    (fun _ => ⟨hB, fun e => absurd (hT _ e) (Nat.lt_irrefl _), fun e => absurd (hP _ e) (Nat.lt_irrefl _), fun e => absurd (hL _ e) (Nat.lt_irrefl _), fun e => absurd (hK _ e) (Nat.lt_irrefl _)⟩)
    (A := fun k => vS.l.ownBlock = some k ∨ vS.k.ownBlock = some k) (fun k hk => hk) F6 oL6 oK6
    (by rcases hbv with e | e
        · exact Or.inl e
        · exact Or.inr ⟨_, e, by omega⟩)
    (by rcases hb6 with e | e
        · exact Or.inl e
        · exact Or.inr ⟨_, e, by omega⟩)
    (fun g hg hk => by
      rcases hb6 with e | e
      · rw [e] at hk; exact hlk g hg hk
      · rw [e] at hk; cases hk
        have h9 := (oL4.lt _ hg).2
        have h10 : (w3.setCell ⟨B, 3, none⟩ (.slice (some ⟨g9, 0, none⟩) (m + 1) cap9)).heap.size = w3.heap.size := by simp
        omega)
  have HF : Hid (∃ vS' Φ' es', SWd (XP B w0) B c vT vP vS' ts nP ps Φ' (w5.setCell ⟨B, 4, none⟩ v6) ∧ XPd B w0 c vS' Φ' (w5.setCell ⟨B, 4, none⟩ v6) (m + 1) es' ∧
      (∀ g, vS'.l.ownBlock = some g → vS.l.ownBlock = some g ∨ w.heap.size ≤ g) ∧ (∀ g, vS'.k.ownBlock = some g → vS.k.ownBlock = some g ∨ w.heap.size ≤ g) ∧
      (∀ k, k < w.heap.size → k ≠ B → vS.l.ownBlock ≠ some k → vS.k.ownBlock ≠ some k → (w5.setCell ⟨B, 4, none⟩ v6).heap[k]? = w.heap[k]?) ∧ w.heap.size ≤ (w5.setCell ⟨B, 4, none⟩ v6).heap.size) := by
    refine ⟨_, Φ', es', hS, hS2, fun g hg => ?_, fun g hg => ?_, fun k hk h1 h3 h4 => ?_, Nat.le_trans s2 F6.size⟩
    · rcases hbv with e | e
      · exact Or.inl (e ▸ hg)
      · have e2 : (Value.slice (some ⟨g9, 0, none⟩) (m + 1) cap9).ownBlock = some g := hg
        rw [e] at e2; cases e2; exact Or.inr (by omega)
    · rcases hb6 with e | e
      · exact Or.inl (e ▸ hg)
      · have e2 : v6.ownBlock = some g := hg
        rw [e] at e2; cases e2; exact Or.inr (by omega)
    · refine (F6.same k (by omega) h1 (fun h5 => ?_)).trans (g2.block k hk (by simp))
      rcases h5 with h5 | h5
      · exact h3 h5
      · exact h4 h5
  clear hS hS2 F6 F5 F4a F4 oL4 oL5 oL6 oK6 o5 hg5 hb5 hb6 hlk h2 hx2 hr2 r2 HW HA HK3
  subst hv8
  go_wp2
  go_end0
  exact ⟨rfl, HF.out⟩
end Go.Proofs.YtikcbdpijjafjaaGreatDoor.Z
