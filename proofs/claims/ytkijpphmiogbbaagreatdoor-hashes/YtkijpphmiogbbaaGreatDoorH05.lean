import Derived.Test.YtkijpphmiogbbaaGreatDoorH04
import Derived.Deep.RegionWith
namespace Go.Proofs.YtkijpphmiogbbaaGreatDoor.Z
open Go.RowKit
attribute [local go_sem ↓] Go.wp_at_zero Go.wp_at_succ

theorem pick_facts (c n : Int) (hn : 0 < n) : (c < 0 → ∃ k : Nat, (k : Int) < n ∧ n - 1 - (-((c + 1).tmod n)) = (k : Int) ∧ 0 ≤ -((c + 1).tmod n) ∧ -((c + 1).tmod n) < n) ∧ (0 ≤ c → ∃ k : Nat, (k : Int) < n ∧ c % n = (k : Int)) := by
  constructor
  · intro h
    have h1 : -((c + 1).tmod n) = (-(c + 1)) % n := by rw [← Int.neg_tmod, Int.tmod_eq_emod_of_nonneg (by omega)]
    have h2 := Int.emod_nonneg (-(c + 1)) (show n ≠ 0 by omega)
    have h3 := Int.emod_lt_of_pos (-(c + 1)) hn
    rw [h1]
    exact ⟨(n - 1 - (-(c + 1)) % n).toNat, by omega, by omega, h2, h3⟩
  · intro h
    have h2 := Int.emod_nonneg c (show n ≠ 0 by omega)
    have h3 := Int.emod_lt_of_pos c hn
    exact ⟨(c % n).toNat, by omega, by omega⟩
set_option maxHeartbeats 1000000 in
theorem pick_any (c n : Int) (w : World) (hc : InI c) (hn : 0 < n) (hn' : n ≤ 9223372036854775807) :
    Calls Tryz.prog 22 #[.int .i64 c, .int .i64 n] w fun e w' => ∃ k : Nat, (k : Int) < n ∧ e = .returned (.int .i64 k) ∧ w' = w := by
  obtain ⟨hc0, hc1⟩ := hc
  by_cases h : c < 0
  · obtain ⟨k, h1, h2, h3, h4⟩ := (pick_facts c n hn).1 h
    have HK : Hid (n - 1 - (-((c + 1).tmod n)) = (k : Int)) := h2
    clear h2
    go_enter Tryz.func22, Tryz.ntmps22
    go_wp2
    go_ret
    refine ⟨k, h1, ?_, rfl⟩
    show Ending.returned (.int .i64 (n - 1 + (c + 1).tmod n)) = _
    rw [show n - 1 + (c + 1).tmod n = (k : Int) by have := HK.out; omega]
  · obtain ⟨k, h1, h2⟩ := (pick_facts c n hn).2 (by omega)
    have HK : Hid (c % n = (k : Int)) := h2
    clear h2
    go_enter Tryz.func22, Tryz.ntmps22
    go_wp2
    go_ret
    refine ⟨k, h1, ?_, rfl⟩
    show Ending.returned (.int .i64 (c % n)) = _
    rw [HK.out]

variable {X : Side} {B c : Nat} {vT vP : Value} {vS : SV} {ts : List ByteArray} {nP : Nat} {ps : List Value} {Φ : Nat → Prop} {w : World}
theorem own_forms {w : World} {base : Nat} {e : TypeId} {size : Nat} {v : Value} {n : Nat} {xs : List Value} (h : w.ownsRow base e size v n xs) : (v = .slice none 0 0 ∧ n = 0 ∧ xs = []) ∨ ∃ g cap, v = .slice (some ⟨g, 0, none⟩) n cap ∧ (∀ j u, xs[j]? = some u → w.cell? ⟨g, j, none⟩ = some u) := by
  have h0 := h
  rcases h.2 with ⟨rfl, rfl⟩ | ⟨g, cap, cur, rfl, _⟩
  · exact .inl ⟨rfl, rfl, List.eq_nil_of_length_eq_zero (by simpa using h.1)⟩
  · refine .inr ⟨g, cap, rfl, fun j u hu => ?_⟩
    have := h0.cells (g := g) rfl j u hu
    have hadd : (⟨g, 0, none⟩ : Addr).add j = ⟨g, j, none⟩ := by unfold Addr.add; split <;> simp_all
    rwa [hadd] at this
set_option maxHeartbeats 1000000 in
theorem text_any (hc : c ≤ 40000) (i : Int) (hi : InI i) (h : SWd X B c vT vP vS ts nP ps Φ w) :
    Calls Tryz.prog 20 #[.pointer (some ⟨B, 0, none⟩), .int .i64 i] w fun e w' => ∃ t, e = .returned (.string t) ∧ t.size ≤ 20000 ∧ w.grownBy w' none := by
  have c0 := h.c0
  have hn := h.nT
  rcases own_forms h.own with ⟨hv, hn0, hx⟩ | ⟨g, cap, hv, hcell⟩
  · rw [hv] at c0
    clear h
    go_enter Tryz.func20, Tryz.ntmps20
    go_wp2
    go_ret
    exact ⟨_, rfl, by decide, World.grownBy.refl _ _⟩
  · rw [hv] at c0
    by_cases hz : ts.length = 0
    · rw [hz] at c0
      clear h hcell
      go_enter Tryz.func20, Tryz.ntmps20
      go_wp2
      go_ret
      exact ⟨_, rfl, by decide, World.grownBy.refl _ _⟩
    · have hs : ∀ k : Nat, (k : Int) < (ts.length : Int) → ∃ t, w.cell? ⟨g, k, none⟩ = some (.string t) ∧ t.size ≤ 20000 := fun k hk => by
        have hk' : k < ts.length := by omega
        exact ⟨ts[k], hcell k _ (by rw [List.getElem?_map, List.getElem?_eq_getElem hk']; rfl), h.short _ (List.getElem_mem hk')⟩
      have HS : Hid (∀ k : Nat, (k : Int) < (ts.length : Int) → ∃ t, w.cell? ⟨g, k, none⟩ = some (.string t) ∧ t.size ≤ 20000) := hs
      obtain ⟨n, hn9⟩ : ∃ n, n = ts.length := ⟨_, rfl⟩
      rw [← hn9] at c0 hz HS hn
      have n0 : (0 : Int) < (n : Int) := by omega
      have n1 : (n : Int) ≤ 9223372036854775807 := by omega
      have nz : ((n : Int) == 0) = false := by simp; omega
      clear h hcell hs hn9 hn hz
      go_enter Tryz.func20, Tryz.ntmps20
      go_wp2
      go_region_with (first | (go_at_call 22; refine (pick_any _ _ _ hi n0 n1).mono ?_; rintro e w' ⟨k, hk, rfl, rfl⟩; obtain ⟨t, ht, hts⟩ := HS.out k hk; have k0 : (0 : Int) ≤ (k : Int) := Int.natCast_nonneg k))
      all_goals
        go_wp2
        go_ret
        exact ⟨t, rfl, hts, grown_drew (World.grownBy.refl _ _)⟩

theorem SWd.setT (hX : X.Local) (h : SWd X B c vT vP vS ts nP ps Φ w) {w1 w2 : World} {v' : Value} {t : ByteArray} (ht : t.size ≤ 20000) (hg : w.grownBy w1 none) (ho : w2.ownsRow 0 9 1 v' (ts.length + 1) ((ts ++ [t]).map Value.string)) (hg2 : w1.grownBy w2 vT.ownBlock) (hb : v'.ownBlock = vT.ownBlock ∨ v'.ownBlock = some w1.heap.size) :
    SWd X B (c + 1) v' vP vS (ts ++ [t]) nP ps Φ (w2.setCell ⟨B, 0, none⟩ v') := by
  have h1 := h.keep hX hg
  have hTB := own_ne h1.own h1.blk (by decide)
  have b2 : w2.heap[B]? = _ := (hg2.block B h1.Blt (Ne.symm hTB)).trans h1.blk
  have hBlt2 : B < w2.heap.size := Nat.lt_of_lt_of_le h1.Blt hg2.size
  have hoB : v'.ownBlock ≠ some B := own_ne ho b2 (by decide)
  have hP2 := h1.ownP.kept hg2 (own_apart h1.ownP h1.own (by decide))
  have hPB := own_ne hP2 b2 (by decide)
  refine ⟨heap_setB b2, ?_, ?_, ?_, ?_, ?_, h.ints, h.fB, ?_, h.fP, ?_, ?_⟩
  · rw [List.length_append]
    exact ownsRow_setCell_other ho hoB _
  · have := h.nT; simp; omega
  · intro u hu
    rcases List.mem_append.1 hu with h2 | h2
    · exact h.short u h2
    · rw [List.mem_singleton.1 h2]; exact ht
  · exact ownsRow_setCell_other hP2 hPB _
  · have := h.nPc; omega
  · intro g hgv hΦ
    rcases hb with h2 | h2
    · rw [h2] at hgv; exact h.fT g hgv hΦ
    · rw [h2] at hgv; cases hgv; exact absurd (h1.lt _ hΦ) (by omega)
  · intro k hk
    have := h1.lt k hk
    have := hg2.size
    simp; omega
  · refine hX.more _ _ _ _ _ (Nat.le_succ c) (hX.loc _ _ _ _ _ hg2.os hg2.tape hg2.output (by have := hg2.size; simpa using this) (fun k hk => ?_) h1.side)
    rw [Below.heap_setCell _ _ _ _ (fun e => by have e2 : k = B := e; subst e2; exact h.fB hk)]
    exact hg2.block k (h1.lt k hk) (fun e => h.fT k e.symm hk)
theorem SWd.setP (hX : X.Local) (h : SWd X B c vT vP vS ts nP ps Φ w) {w1 w2 : World} {v' : Value} {L : Nat → Int} (hL : ∀ i, i < 256 → InI (L i)) (hg : w.grownBy w1 none) (ho : w2.ownsRow 0 43 256 v' (nP + 1) (ps ++ polyL .i64 L)) (hg2 : w1.grownBy w2 vP.ownBlock) (hb : v'.ownBlock = vP.ownBlock ∨ v'.ownBlock = some w1.heap.size) :
    SWd X B (c + 1) vT v' vS ts (nP + 1) (ps ++ polyL .i64 L) Φ (w2.setCell ⟨B, 1, none⟩ v') := by
  have h1 := h.keep hX hg
  have hPB := own_ne h1.ownP h1.blk (by decide)
  have b2 : w2.heap[B]? = _ := (hg2.block B h1.Blt (Ne.symm hPB)).trans h1.blk
  have hBlt2 : B < w2.heap.size := Nat.lt_of_lt_of_le h1.Blt hg2.size
  have hoB : v'.ownBlock ≠ some B := own_ne ho b2 (by decide)
  have hT2 := h1.own.kept hg2 (own_apart h1.own h1.ownP (by decide))
  have hTB := own_ne hT2 b2 (by decide)
  refine ⟨heap_setB b2, ownsRow_setCell_other hT2 hTB _, ?_, h.short, ownsRow_setCell_other ho hoB _, ?_, ?_, h.fB, h.fT, ?_, ?_, ?_⟩
  · have := h.nT; omega
  · have := h.nPc; omega
  · intro u hu
    rcases List.mem_append.1 hu with h2 | h2
    · exact h.ints u h2
    · unfold polyL at h2
      obtain ⟨i, hi, rfl⟩ := List.mem_map.1 h2
      exact ⟨L i, rfl, hL i (List.mem_range.1 hi)⟩
  · intro g hgv hΦ
    rcases hb with h2 | h2
    · rw [h2] at hgv; exact h.fP g hgv hΦ
    · rw [h2] at hgv; cases hgv; exact absurd (h1.lt _ hΦ) (by omega)
  · intro k hk
    have := h1.lt k hk
    have := hg2.size
    simp; omega
  · refine hX.more _ _ _ _ _ (Nat.le_succ c) (hX.loc _ _ _ _ _ hg2.os hg2.tape hg2.output (by have := hg2.size; simpa using this) (fun k hk => ?_) h1.side)
    rw [Below.heap_setCell _ _ _ _ (fun e => by have e2 : k = B := e; subst e2; exact h.fB hk)]
    exact hg2.block k (h1.lt k hk) (fun e => h.fP k e.symm hk)
end Go.Proofs.YtkijpphmiogbbaaGreatDoor.Z
