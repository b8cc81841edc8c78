import Derived.Test.YtkijpphmiogbbaaGreatDoorH16
import Derived.Test.YtkijpphmiogbbaaGreatDoorH47
namespace Go.Proofs.YtkijpphmiogbbaaGreatDoor.Z
open Go.RowKit
attribute [local go_sem ↓] Go.wp_at_zero Go.wp_at_succ

structure StR (B : Nat) (c : Nat) (vS : Value) (Φ : Nat → Prop) (w : World) (r : St) : Prop where
  at' : StAt w r
  fp : Φ r.p
  fb : Φ r.b
  bp : B ≤ r.p
  bb : B ≤ r.b
  s : r.s.size ≤ 20000 * c
  a : r.a ≤ 20000 * c
  np : vS.ownBlock ≠ some r.p
  nb : vS.ownBlock ≠ some r.b
def ptrs (m : Nat) (rs : Nat → St) : List Value := (List.range m).map (fun j => Value.pointer (some ⟨(rs j).p, 0, none⟩))
/-- What a script of hashes holds besides. -/
structure XHd (B : Nat) (w0 : World) (c : Nat) (vS : Value) (Φ : Nat → Prop) (w : World) (m : Nat) (rs : Nat → St) : Prop where
  low : Below B w0 w
  lowΦ : ∀ k, k < B → Φ k
  own : w.ownsRow 0 46 1 vS m (ptrs m rs)
  mc : m ≤ c
  fS : ∀ g, vS.ownBlock = some g → Φ g
  bS : ∀ g, vS.ownBlock = some g → B < g
  st : ∀ j, j < m → StR B c vS Φ w (rs j)
  apart : ∀ i j, i < m → j < m → i ≠ j → (rs i).p ≠ (rs j).p ∧ (rs i).b ≠ (rs j).b ∧ (rs i).p ≠ (rs j).b
def XH (B : Nat) (w0 : World) : Side := fun c v Φ w => v.l = .slice none 0 0 ∧ ∃ m rs, XHd B w0 c v.s Φ w m rs

theorem own_block {w w' : World} {base : Nat} {e : TypeId} {size : Nat} {v : Value} {n : Nat} {xs : List Value} (h : w.ownsRow base e size v n xs) (hb : ∀ g, v.ownBlock = some g → w'.heap[g]? = w.heap[g]?) : w'.ownsRow base e size v n xs := by
  refine ⟨h.1, ?_⟩
  rcases h.2 with hn | ⟨g, cap, cur, rfl, h1, hg, h2⟩
  · exact .inl hn
  · exact .inr ⟨g, cap, cur, rfl, h1, (hb g rfl).trans hg, h2⟩
theorem Sp_block {w w' : World} {b : Nat} {s : Spg} (h : Sp w b s) (hb : w'.heap[b]? = w.heap[b]?) : Sp w' b s := by
  have hc : ∀ i, w'.cell? ⟨b, i, none⟩ = w.cell? ⟨b, i, none⟩ := fun i => World.cell?_of_block (a := ⟨b, i, none⟩) hb
  have hf : ∀ i, w'.frozen? ⟨b, i, none⟩ = w.frozen? ⟨b, i, none⟩ := fun i => World.frozen?_of_block (a := ⟨b, i, none⟩) hb
  exact ⟨fun i hi => ⟨(hc i).trans (h.row i hi).1, (hf i).trans (h.row i hi).2⟩, (hc 25).trans h.c25, (hc 26).trans h.c26, (hc 27).trans h.c27, (hc 28).trans h.c28, fun i => (hf i).trans (h.fz i)⟩
theorem StAt_block {w w' : World} {r : St} (h : StAt w r) (hp : w'.heap[r.p]? = w.heap[r.p]?) (hb : w'.heap[r.b]? = w.heap[r.b]?) : StAt w' r :=
  ⟨hp.trans h.blk, Sp_block h.sp hb, h.k, h.b4, h.pb, h.a0⟩
theorem XHd.loc {B : Nat} {w0 : World} {c : Nat} {v : Value} {Φ : Nat → Prop} {w w' : World} {m : Nat} {rs : Nat → St} (h : XHd B w0 c v Φ w m rs) (h1 : w'.os = w.os) (h2 : w'.tape = w.tape) (h3 : w'.output = w.output) (h4 : w.heap.size ≤ w'.heap.size) (h5 : ∀ k, Φ k → w'.heap[k]? = w.heap[k]?) : XHd B w0 c v Φ w' m rs := by
  refine ⟨⟨h1.trans h.low.os, h2.trans h.low.tape, h3.trans h.low.output, Nat.le_trans h.low.size h4, fun k hk => (h5 k (h.lowΦ k hk)).trans (h.low.block k hk)⟩, h.lowΦ, own_block h.own (fun g hg => h5 g (h.fS g hg)), h.mc, h.fS, h.bS, fun j hj => ?_, h.apart⟩
  have s := h.st j hj
  exact ⟨StAt_block s.at' (h5 _ s.fp) (h5 _ s.fb), s.fp, s.fb, s.bp, s.bb, s.s, s.a, s.np, s.nb⟩
theorem XH_local (B : Nat) (w0 : World) : (XH B w0).Local where
  loc := by
    rintro c v Φ w w' h1 h2 h3 h4 h5 ⟨h0, m, rs, h⟩
    exact ⟨h0, m, rs, h.loc h1 h2 h3 h4 h5⟩
  more := by
    rintro c d v Φ w hcd ⟨h0, m, rs, h⟩
    refine ⟨h0, m, rs, h.low, h.lowΦ, h.own, Nat.le_trans h.mc hcd, h.fS, h.bS, fun j hj => ?_, h.apart⟩
    have s := h.st j hj
    have hm := Nat.mul_le_mul_left 20000 hcd
    exact ⟨s.at', s.fp, s.fb, s.bp, s.bb, Nat.le_trans s.s hm, Nat.le_trans s.a hm, s.np, s.nb⟩
  looks := fun _ _ _ _ _ _ _ _ _ _ h _ => looks_nil h h.side.1
variable {B c : Nat} {w0 w : World} {vT vP : Value} {vS : SV} {ts : List ByteArray} {nP : Nat} {ps : List Value} {Φ : Nat → Prop}
theorem SW_low (h : SW (XH B w0) B c w) : Below B w0 w := by
  obtain ⟨_, _, _, _, _, _, _, h⟩ := h
  obtain ⟨_, m, rs, hx⟩ := h.side
  exact hx.low
theorem Globs_low (hG : Globs w0) (hB : 4 ≤ B) (h : Below B w0 w) : Globs w := by
  have hc : ∀ k i v, k < 4 → w0.cell? ⟨k, i, none⟩ = some v → w.cell? ⟨k, i, none⟩ = some v := fun k i v hk hv => by
    rw [World.cell?_of_block (a := ⟨k, i, none⟩) (h.block k (by omega))]; exact hv
  exact ⟨fun i hi => hc _ _ _ (by decide) (hG.tg i hi), fun i hi => hc _ _ _ (by decide) (hG.tn i hi), fun i hi => hc _ _ _ (by decide) (hG.rb i hi), hc _ _ _ (by decide) hG.et⟩
/-- Something was done to one of the streams. -/
theorem SW_did (h : SWd (XH B w0) B c vT vP vS ts nP ps Φ w) {m : Nat} {rs : Nat → St} (hx : XHd B w0 c vS.s Φ w m rs) {i : Nat} (hi : i < m) {r' : St} {w' : World} (hd : Did 20000 (rs i) r' w w') : SW (XH B w0) B (c + 1) w' := by
  have s := hx.st i hi
  have hblk : ∀ k, k < w.heap.size → k ≠ (rs i).p → k ≠ (rs i).b → w'.heap[k]? = w.heap[k]? := hd.two.block
  have hBp : B ≠ (rs i).p := fun e => h.fB (by rw [e]; exact s.fp)
  have hBb : B ≠ (rs i).b := fun e => h.fB (by rw [e]; exact s.fb)
  have hown : ∀ (v : Value) (g : Nat), v.ownBlock = some g → g < w.heap.size → ¬ Φ g → w'.heap[g]? = w.heap[g]? := fun v g hg hl hn => hblk g hl (fun e => hn (by rw [e]; exact s.fp)) (fun e => hn (by rw [e]; exact s.fb))
  refine ⟨vT, vP, vS, ts, nP, ps, Φ, (hblk B h.Blt hBp hBb).trans h.blk, own_block h.own (fun g hg => hown vT g hg (h.own.lt g hg).2 (h.fT g hg)), by have := h.nT; omega, h.short, own_block h.ownP (fun g hg => hown vP g hg (h.ownP.lt g hg).2 (h.fP g hg)), by have := h.nPc; omega, h.ints, h.fB, h.fT, h.fP, fun k hk => Nat.lt_of_lt_of_le (h.lt k hk) hd.two.size, ?_⟩
  refine ⟨h.side.1, m, fun j => if j = i then r' else rs j, ⟨hd.two.os.trans hx.low.os, hd.two.tape.trans hx.low.tape, hd.two.output.trans hx.low.output, Nat.le_trans hx.low.size hd.two.size, fun k hk => ?_⟩, hx.lowΦ, ?_, by have := hx.mc; omega, hx.fS, hx.bS, fun j hj => ?_, fun a b ha hb hab => ?_⟩
  · exact (hblk k (h.lt k (hx.lowΦ k hk)) (by have := s.bp; omega) (by have := s.bb; omega)).trans (hx.low.block k hk)
  · have e : ptrs m (fun j => if j = i then r' else rs j) = ptrs m rs := by
      unfold ptrs
      refine List.map_congr_left (fun j _ => ?_)
      by_cases e : j = i
      · subst e; simp [hd.p]
      · simp [e]
    rw [e]
    exact own_block hx.own (fun g hg => hblk g (hx.own.lt g hg).2 (fun e => s.np (by rw [← e]; exact hg)) (fun e => s.nb (by rw [← e]; exact hg)))
  · by_cases e : j = i
    · subst e
      simp only [if_true]
      have hs := s.s
      have ha := s.a
      have h1 := hd.s
      have h2 := hd.a
      exact ⟨hd.at', by rw [hd.p]; exact s.fp, by rw [hd.b]; exact s.fb, by rw [hd.p]; exact s.bp, by rw [hd.b]; exact s.bb, by omega, by omega, by rw [hd.p]; exact s.np, by rw [hd.b]; exact s.nb⟩
    · simp only [e, if_false]
      have q := hx.st j hj
      have a1 := hx.apart j i hj hi e
      have a2 := hx.apart i j hi hj (Ne.symm e)
      have hl1 := h.lt _ q.fp
      have hl2 := h.lt _ q.fb
      exact ⟨StAt_block q.at' (hblk _ hl1 a1.1 a1.2.2) (hblk _ hl2 (Ne.symm a2.2.2) a1.2.1), q.fp, q.fb, q.bp, q.bb, by have := q.s; omega, by have := q.a; omega, q.np, q.nb⟩
  · have hp : ∀ j, (if j = i then r' else rs j).p = (rs j).p := fun j => by
      by_cases e : j = i
      · subst e; simp [hd.p]
      · simp [e]
    have hbb : ∀ j, (if j = i then r' else rs j).b = (rs j).b := fun j => by
      by_cases e : j = i
      · subst e; simp [hd.b]
      · simp [e]
    simp only [hp, hbb]
    exact hx.apart a b ha hb hab
/-- One stream more. -/
theorem SW_more (h : SWd (XH B w0) B c vT vP vS ts nP ps Φ w) {m : Nat} {rs : Nat → St} (hx : XHd B w0 c vS.s Φ w m rs) {w1 w2 w3 : World} {r : St} (hr : StAt w1 r) (hg : w.grownBy w1 none) (hp : w.heap.size ≤ r.p) (hb : w.heap.size ≤ r.b) (hs : r.s.size = 0) (ha : r.a = 0)
    (hg2 : w1.grownBy w2 none) {v' : Value} (ho : w3.ownsRow 0 46 1 v' (m + 1) (ptrs m rs ++ [.pointer (some ⟨r.p, 0, none⟩)])) (hg3 : w2.grownBy w3 vS.s.ownBlock) (hv : v'.ownBlock = vS.s.ownBlock ∨ v'.ownBlock = some w2.heap.size) :
    SW (XH B w0) B (c + 1) (w3.setCell ⟨B, 2, none⟩ v') := by
  have hX := XH_local B w0
  have h1 := h.keep hX hg
  have h2 := h1.keep hX hg2
  have hx1 : XHd B w0 c vS.s Φ w1 m rs := hx.loc hg.os hg.tape hg.output hg.size (fun k hk => hg.block k (h.lt k hk) (by simp))
  have hx2 : XHd B w0 c vS.s Φ w2 m rs := hx1.loc hg2.os hg2.tape hg2.output hg2.size (fun k hk => hg2.block k (h1.lt k hk) (by simp))
  have hBlt := h.Blt
  have s1 := hg.size
  have s2 := hg2.size
  have s3 := hg3.size
  have hSB : vS.s.ownBlock ≠ some B := own_ne hx2.own h2.blk (by decide)
  have b3 : w3.heap[B]? = _ := (hg3.block B h2.Blt (Ne.symm hSB)).trans h2.blk
  have hoB : v'.ownBlock ≠ some B := own_ne ho b3 (by decide)
  have hW3 : ∀ k, k < w2.heap.size → vS.s.ownBlock ≠ some k → w3.heap[k]? = w2.heap[k]? := fun k hk hn => hg3.block k hk (Ne.symm hn)
  have hW : ∀ k, k < w2.heap.size → k ≠ B → vS.s.ownBlock ≠ some k → (w3.setCell ⟨B, 2, none⟩ v').heap[k]? = w2.heap[k]? := fun k hk hb hn => (Below.heap_setCell _ _ _ _ hb).trans (hW3 k hk hn)
  have hST : ∀ g, vT.ownBlock = some g → vS.s.ownBlock ≠ some g := fun g hg0 hs0 => by
    rcases own_apart hx2.own h2.own (by decide) with e | e
    · rw [e] at hs0; cases hs0
    · exact e (hs0.trans hg0.symm)
  have hSP : ∀ g, vP.ownBlock = some g → vS.s.ownBlock ≠ some g := fun g hg0 hs0 => by
    rcases own_apart hx2.own h2.ownP (by decide) with e | e
    · rw [e] at hs0; cases hs0
    · exact e (hs0.trans hg0.symm)
  have hT3 : w3.ownsRow 0 9 1 vT ts.length (ts.map Value.string) := own_block h2.own (fun g hg0 => hW3 g (h2.own.lt g hg0).2 (hST g hg0))
  have hP3 : w3.ownsRow 0 43 256 vP nP ps := own_block h2.ownP (fun g hg0 => hW3 g (h2.ownP.lt g hg0).2 (hSP g hg0))
  have hvT : ∀ g, vT.ownBlock = some g → v'.ownBlock ≠ some g := fun g hg0 hs0 => by
    rcases own_apart ho hT3 (by decide) with e | e
    · rw [e] at hs0; cases hs0
    · exact e (hs0.trans hg0.symm)
  have hvP : ∀ g, vP.ownBlock = some g → v'.ownBlock ≠ some g := fun g hg0 hs0 => by
    rcases own_apart ho hP3 (by decide) with e | e
    · rw [e] at hs0; cases hs0
    · exact e (hs0.trans hg0.symm)
  have hvS : ∀ g, vS.s.ownBlock = some g → g < w.heap.size := fun g hg0 => (hx.own.lt g hg0).2
  have hrp := hr.plt
  have hrb := hr.sp.lt
  have hv2 : ∀ k, k < w2.heap.size → vS.s.ownBlock ≠ some k → v'.ownBlock ≠ some k := fun k hk hn hs0 => by
    rcases hv with e | e
    · rw [e] at hs0; exact hn hs0
    · rw [e] at hs0; cases hs0; omega
  have nrp : vS.s.ownBlock ≠ some r.p := fun e => by have := hvS _ e; omega
  have nrb : vS.s.ownBlock ≠ some r.b := fun e => by have := hvS _ e; omega
  refine ⟨vT, vP, ⟨v', vS.l, vS.k, vS.m⟩, ts, nP, ps, fun k => Φ k ∨ k = r.p ∨ k = r.b ∨ v'.ownBlock = some k, heap_setB b3, ownsRow_setCell_other hT3 (own_ne hT3 b3 (by decide)) _, by have := h.nT; omega, h.short, ownsRow_setCell_other hP3 (own_ne hP3 b3 (by decide)) _, by have := h.nPc; omega, h.ints, ?_, ?_, ?_, ?_, h.side.1, m + 1, fun j => if j = m then r else rs j, ?_, ?_, ?_, ?_, ?_, ?_, ?_, ?_⟩
  · rintro (e | e | e | e)
    · exact h.fB e
    · omega
    · omega
    · exact hoB e
  · rintro g hg0 (e | e | e | e)
    · exact h.fT g hg0 e
    · have := (h.own.lt g hg0).2; omega
    · have := (h.own.lt g hg0).2; omega
    · exact hvT g hg0 e
  · rintro g hg0 (e | e | e | e)
    · exact h.fP g hg0 e
    · have := (h.ownP.lt g hg0).2; omega
    · have := (h.ownP.lt g hg0).2; omega
    · exact hvP g hg0 e
  · rintro k (e | e | e | e)
    · have := h.lt k e; simp; omega
    · simp; omega
    · simp; omega
    · have := (ho.lt k e).2; simp; omega
  · refine ⟨hg3.os.trans hx2.low.os, hg3.tape.trans hx2.low.tape, hg3.output.trans hx2.low.output, by have := hx2.low.size; simp; omega, fun k hk => ?_⟩
    exact (hW k (by omega) (by omega) (fun e => by have := hx.bS k e; omega)).trans (hx2.low.block k hk)
  · exact fun k hk => Or.inl (hx.lowΦ k hk)
  · have e : ptrs (m + 1) (fun j => if j = m then r else rs j) = ptrs m rs ++ [.pointer (some ⟨r.p, 0, none⟩)] := by
      unfold ptrs
      rw [List.range_succ, List.map_append]
      congr 1
      · refine List.map_congr_left (fun j hj => ?_)
        have hj2 := List.mem_range.1 hj
        simp [show j ≠ m by omega]
      · simp
    rw [e]
    exact ownsRow_setCell_other ho hoB _
  · have := hx.mc; omega
  · exact fun g hg0 => Or.inr (Or.inr (Or.inr hg0))
  · intro g hg0
    rcases hv with e | e
    · exact hx.bS g (e ▸ hg0)
    · rw [e] at hg0; cases hg0; omega
  · intro j hj
    by_cases e : j = m
    · subst e
      simp only [if_true]
      exact ⟨StAt_block hr ((hW _ (by omega) (by omega) nrp).trans (hg2.block _ hrp (by simp))) ((hW _ (by omega) (by omega) nrb).trans (hg2.block _ hrb (by simp))), Or.inr (Or.inl rfl), Or.inr (Or.inr (Or.inl rfl)), by omega, by omega, by omega, by omega, hv2 _ (by omega) nrp, hv2 _ (by omega) nrb⟩
    · simp only [e, if_false]
      have q := hx2.st j (by omega)
      have l1 := h.lt _ q.fp
      have l2 := h.lt _ q.fb
      have p1 : (rs j).p ≠ B := fun e => h.fB (by rw [← e]; exact q.fp)
      have p2 : (rs j).b ≠ B := fun e => h.fB (by rw [← e]; exact q.fb)
      exact ⟨StAt_block q.at' (hW _ (by omega) p1 q.np) (hW _ (by omega) p2 q.nb), Or.inl q.fp, Or.inl q.fb, q.bp, q.bb, by have := q.s; omega, by have := q.a; omega, hv2 _ (by omega) q.np, hv2 _ (by omega) q.nb⟩
  · intro i j hi hj hij
    by_cases ei : i = m
    · have ej : j ≠ m := by omega
      have q := hx.st j (by omega)
      have l1 := h.lt _ q.fp
      have l2 := h.lt _ q.fb
      simp only [ei, ej, if_true, if_false]
      exact ⟨by omega, by omega, by omega⟩
    · by_cases ej : j = m
      · have q := hx.st i (by omega)
        have l1 := h.lt _ q.fp
        have l2 := h.lt _ q.fb
        simp only [ei, ej, if_true, if_false]
        exact ⟨by omega, by omega, by omega⟩
      · simp only [ei, ej, if_false]
        exact hx.apart i j (by omega) (by omega) hij
end Go.Proofs.YtkijpphmiogbbaaGreatDoor.Z
