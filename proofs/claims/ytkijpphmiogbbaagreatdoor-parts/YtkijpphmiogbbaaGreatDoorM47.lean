import Derived.Test.YtkijpphmiogbbaaGreatDoorM45
import Derived.Test.YtkijpphmiogbbaaGreatDoorM46
import Derived.Deep.QuietTactic
import Derived.BigQuiet
import Derived.ArgAppend
import Derived.Laws.IdiomCopy
namespace Go.Proofs.YtkijpphmiogbbaaGreatDoor.Z
open Go.RowKit
attribute [local go_sem ↓] Go.wp_at_zero Go.wp_at_succ

/-- A list that came out, and what it must read as. -/
structure Ent where
  n : Nat
  la : Option Addr
  lb : Nat
  lc : Nat
  ka : Option Addr
  kb : Nat
  kc : Nat
  L : Nat → Nat → Int
structure EntOK (B : Nat) (v : SV) (Φ : Nat → Prop) (w : World) (e : Ent) : Prop where
  n9 : e.n ≤ 9
  la : 0 < e.n → e.la = some ⟨e.lb, 0, none⟩
  ka : 0 < e.n → e.ka = some ⟨e.kb, 0, none⟩
  lr : ∀ s, s < e.n → PRow .i64 w e.lb (256 * s) (e.L s)
  kr : ∀ s, s < e.n → PRow .i64 w e.kb (256 * s) (e.L s)
  fl : 0 < e.n → Φ e.lb ∧ B ≤ e.lb ∧ v.l.ownBlock ≠ some e.lb ∧ v.k.ownBlock ≠ some e.lb
  fk : 0 < e.n → Φ e.kb ∧ B ≤ e.kb ∧ v.l.ownBlock ≠ some e.kb ∧ v.k.ownBlock ≠ some e.kb
def lvs (m : Nat) (es : Nat → Ent) : List Value := (List.range m).map (fun i => .slice (es i).la (es i).n (es i).lc)
def kvs (m : Nat) (es : Nat → Ent) : List Value := (List.range m).map (fun i => .slice (es i).ka (es i).n (es i).kc)
/-- What a script of parts holds besides. -/
structure XPd (B : Nat) (w0 : World) (c : Nat) (v : SV) (Φ : Nat → Prop) (w : World) (m : Nat) (es : Nat → Ent) : Prop where
  low : Below B w0 w
  lowΦ : ∀ k, k < B → Φ k
  ownL : w.ownsRow 0 60 1 v.l m (lvs m es)
  ownK : w.ownsRow 0 60 1 v.k m (kvs m es)
  mc : m ≤ 2 * c
  fL : ∀ g, v.l.ownBlock = some g → Φ g ∧ B < g ∧ v.k.ownBlock ≠ some g
  fK : ∀ g, v.k.ownBlock = some g → Φ g ∧ B < g
  en : ∀ i, i < m → EntOK B v Φ w (es i)
  mk0 : 0 ≤ v.m
  mk1 : v.m ≤ 20 * (c : Int)
def XP (B : Nat) (w0 : World) : Side := fun c v Φ w => ∃ m es, XPd B w0 c v Φ w m es
theorem own_blockP {w w' : World} {base : Nat} {e : TypeId} {size : Nat} {v : Value} {n : Nat} {xs : List Value} (h : w.ownsRow base e size v n xs) (hb : ∀ g, v.ownBlock = some g → w'.heap[g]? = w.heap[g]?) : w'.ownsRow base e size v n xs := by
  refine ⟨h.1, ?_⟩
  rcases h.2 with hn | ⟨g, cap, cur, rfl, h1, hg, h2⟩
  · exact .inl hn
  · exact .inr ⟨g, cap, cur, rfl, h1, (hb g rfl).trans hg, h2⟩
theorem PRow.block {k : IntKind} {w w' : World} {b o : Nat} {L : Nat → Int} (h : PRow k w b o L) (hb : w'.heap[b]? = w.heap[b]?) : PRow k w' b o L := fun i hi =>
  ⟨(World.cell?_of_block (a := ⟨b, o + i, none⟩) hb).trans (h i hi).1, (World.frozen?_of_block (a := ⟨b, o + i, none⟩) hb).trans (h i hi).2⟩
theorem EntOK.loc {B : Nat} {v : SV} {Φ : Nat → Prop} {w w' : World} {e : Ent} (h : EntOK B v Φ w e) (h5 : ∀ k, Φ k → w'.heap[k]? = w.heap[k]?) : EntOK B v Φ w' e :=
  ⟨h.n9, h.la, h.ka, fun s hs => (h.lr s hs).block (h5 _ (h.fl (by omega)).1), fun s hs => (h.kr s hs).block (h5 _ (h.fk (by omega)).1), h.fl, h.fk⟩
theorem XPd.loc {B : Nat} {w0 : World} {c : Nat} {v : SV} {Φ : Nat → Prop} {w w' : World} {m : Nat} {es : Nat → Ent} (h : XPd B w0 c v Φ w m es) (h1 : w'.os = w.os) (h2 : w'.tape = w.tape) (h3 : w'.output = w.output) (h4 : w.heap.size ≤ w'.heap.size) (h5 : ∀ k, Φ k → w'.heap[k]? = w.heap[k]?) : XPd B w0 c v Φ w' m es :=
  ⟨⟨h1.trans h.low.os, h2.trans h.low.tape, h3.trans h.low.output, Nat.le_trans h.low.size h4, fun k hk => (h5 k (h.lowΦ k hk)).trans (h.low.block k hk)⟩, h.lowΦ, own_blockP h.ownL (fun g hg => h5 g (h.fL g hg).1), own_blockP h.ownK (fun g hg => h5 g (h.fK g hg).1), h.mc, h.fL, h.fK, fun i hi => (h.en i hi).loc h5, h.mk0, h.mk1⟩
theorem XPd.more {B : Nat} {w0 : World} {c d : Nat} {v : SV} {Φ : Nat → Prop} {w : World} {m : Nat} {es : Nat → Ent} (h : XPd B w0 c v Φ w m es) (hd : c ≤ d) : XPd B w0 d v Φ w m es :=
  ⟨h.low, h.lowΦ, h.ownL, h.ownK, by have := h.mc; omega, h.fL, h.fK, h.en, h.mk0, by have := h.mk1; omega⟩
theorem lvs_at (m : Nat) (es : Nat → Ent) (i : Nat) (hi : i < m) : (lvs m es)[i]? = some (.slice (es i).la (es i).n (es i).lc) := by
  unfold lvs
  rw [List.getElem?_map, List.getElem?_range hi]; rfl
theorem kvs_at (m : Nat) (es : Nat → Ent) (i : Nat) (hi : i < m) : (kvs m es)[i]? = some (.slice (es i).ka (es i).n (es i).kc) := by
  unfold kvs
  rw [List.getElem?_map, List.getElem?_range hi]; rfl
def hidNe (x y : Value) : Sem Value := binOp .neq 71 x y
theorem ne_hide (x y : Value) : binOp .neq 71 x y = hidNe x y := rfl
theorem run_hidNe (L : Nat → Int) (W : World) : (hidNe (.agg (polyA .i64 L)) (.agg (polyA .i64 L))).run Tryz.prog W = .ok (.bool false) W := neq_poly L W
attribute [local go_sem ↓] ldA_hide ne_hide
set_option maxHeartbeats 4000000 in
set_option maxRecDepth 20000 in
theorem looks_P {B0 B : Nat} {w0 : World} {c : Nat} {vT vP : Value} {vS : SV} {ts : List ByteArray} {nP : Nat} {ps : List Value} {Φ : Nat → Prop} {w : World} (h : SWd (XP B0 w0) B c vT vP vS ts nP ps Φ w) (hc : c ≤ 50000) :
    Calls Tryz.prog 19 #[.pointer (some ⟨B, 0, none⟩)] w fun e w' => e = .returned (.bool true) ∧ w.grownBy w' none := by
  obtain ⟨m, es, hx⟩ := h.side
  have c3 := h.c3
  have c4 := h.c4
  have hm := hx.mc
  rcases own_forms hx.ownL with ⟨hl, hm0, _⟩ | ⟨gL, cL, hl, hcl⟩
  · exact looks_nil h hl
  · rcases own_forms hx.ownK with ⟨hk, hm0, _⟩ | ⟨gK, cK, hk, hck⟩
    · have c3' : w.cell? ⟨B, 3, none⟩ = some (.slice (some ⟨gL, 0, none⟩) 0 cL) := by rw [c3, hl, hm0]
      clear h c3 c4 hx hl hcl hk
      go_enter Tryz.func19, Tryz.ntmps19
      go_wp2
      refine wp_loop_rounds 1 ?_
      rw [rounds_succ]
      go_wp2
      go_ret
      exact ⟨rfl, World.grownBy.refl _ _⟩
    · rw [hl] at c3
      rw [hk] at c4
      have HL : Hid (∀ i, i < m → w.cell? ⟨gL, i, none⟩ = some (.slice (es i).la (es i).n (es i).lc) ∧ w.cell? ⟨gK, i, none⟩ = some (.slice (es i).ka (es i).n (es i).kc)) := fun i hi => ⟨hcl i _ (lvs_at m es i hi), hck i _ (kvs_at m es i hi)⟩
      have HE : Hid (∀ i, i < m → EntOK B0 vS Φ w (es i)) := hx.en
      have m9 : (m : Int) ≤ 100000 := by omega
      clear h hx hl hk hcl hck hm
      go_enter Tryz.func19, Tryz.ntmps19
      go_wp2
      go_loopw [3, 4] (fun i _ wr => ∃ (a k : Nat), a ≤ m ∧ i = .int .i64 a ∧ wr = w.drewN k) (fun i _ _ => m - (intOf i).toNat)
      case atStart => exact ⟨0, 0, by omega, rfl, rfl⟩
      case round =>
        obtain ⟨a, k, ha, rfl, rfl⟩ := hrel
        by_cases hlt : a < m
        · have a1 : (a : Int) < (m : Int) := by omega
          have he := HE.out a hlt
          obtain ⟨f1, f2⟩ := HL.out a hlt
          obtain ⟨n, hn⟩ : ∃ n, n = (es a).n := ⟨_, rfl⟩
          have n9 := he.n9
          rw [← hn] at f1 f2 n9
          have HEa : Hid (EntOK B0 vS Φ w (es a)) := he
          have HN : Hid (n = (es a).n) := hn
          clear he hn
          rcases Nat.eq_zero_or_pos n with hz | hz
          · subst hz
            generalize (es a).la = pa at f1
            generalize (es a).ka = qa at f2
            go_wp2
            refine wp_loop_rounds 1 ?_
            rw [rounds_succ]
            go_wp2
            go_roundw
            case rel => exact ⟨a + 1, k, by omega, by go_num, rfl⟩
            case measure => simp [intOf]; omega
          · rw [HEa.out.la (by rw [← HN.out]; exact hz)] at f1
            rw [HEa.out.ka (by rw [← HN.out]; exact hz)] at f2
            go_wp2
            go_loopw [4] (fun j wq => ∃ (b q : Nat), b ≤ n ∧ j = .int .i64 b ∧ wq = w.drewN q) (fun j _ => n - (intOf j).toNat)
            case atStart => exact ⟨0, k, by omega, rfl, rfl⟩
            case round =>
              obtain ⟨b, q, hb, rfl, rfl⟩ := hrel
              by_cases hbn : b < n
              · have b1 : (b : Int) < (n : Int) := by omega
                have ix1 := fun W => ixA (es a).lb n (es a).lc b hbn W
                have ix2 := fun W => ixA (es a).kb n (es a).kc b hbn W
                have ld1 := fun q => run_hidLdA (w.drewN q) (es a).lb (256 * b) _ (HEa.out.lr b (by rw [← HN.out]; exact hbn))
                have ld2 := fun q => run_hidLdA (w.drewN q) (es a).kb (256 * b) _ (HEa.out.kr b (by rw [← HN.out]; exact hbn))
                have ne := fun W => run_hidNe ((es a).L b) W
                generalize (es a).L b = L at *
                go_wp2_with fail
                go_quiet (fail)
                go_wp2
                go_roundw
                case rel => exact ⟨b + 1, _, by omega, by go_num, rfl⟩
                case measure => simp [intOf]; omega
              · obtain rfl : b = n := by omega
                go_wp2
                go_roundw
                case rel => exact ⟨a + 1, q, by omega, by go_num, rfl⟩
                case measure => simp [intOf]; omega
        · obtain rfl : a = m := by omega
          go_wp2
          go_ret
          exact ⟨rfl, ⟨rfl, rfl, rfl, Nat.le_refl _, fun _ _ _ => rfl⟩⟩
end Go.Proofs.YtkijpphmiogbbaaGreatDoor.Z

namespace Go.Proofs.YtkijpphmiogbbaaGreatDoor.Z
open Go.RowKit
attribute [local go_sem ↓] Go.wp_at_zero Go.wp_at_succ

theorem XP_local (B : Nat) (w0 : World) : (XP B w0).Local where
  loc := by
    rintro c v Φ w w' h1 h2 h3 h4 h5 ⟨m, es, h⟩
    exact ⟨m, es, h.loc h1 h2 h3 h4 h5⟩
  more := by
    rintro c d v Φ w hcd ⟨m, es, h⟩
    exact ⟨m, es, h.more hcd⟩
  looks := fun _ _ _ _ _ _ _ _ _ _ h hc => looks_P h hc
theorem mkA0 (m : Nat) (hm : m ≤ 9) (W : World) : (Instr.makeSlice 60 (.int .i64 (m : Int)) (.int .i64 (m : Int))).run Tryz.prog W = .ok (.slice (some ⟨W.heap.size, 0, none⟩) m m) (W.alloc (.cells (madeCells (polyA .i64 (fun _ => 0)) (m * 256)) 71)) := by
  have hinfo : (Tryz.prog.info? 71).map (fun i => (i.zero, i.size, i.bytes)) = some (some (.agg (polyA .i64 (fun _ => 0))), 256, 2048) := by kernel_rfl
  obtain ⟨i0, hi, hz0, hz1, hz2⟩ := info_of hinfo
  simp only at hz0 hz1 hz2
  have h := run_make (P := Tryz.prog) W 60 71 i0 _ (by kernel_rfl) hi hz0 .i64 .i64 m m (by omega) (by omega) (by rw [hz2]; omega) (by omega)
  rw [hz1] at h
  simpa [Value.cells] using h
/-- The cells of so many polynomials, one behind the other. -/
def rowsL (Ls : Nat → Nat → Int) (n : Nat) : List Value := (List.range n).flatMap (fun s => polyL .i64 (Ls s))
theorem rowsL_len (Ls : Nat → Nat → Int) : ∀ n, (rowsL Ls n).length = n * 256
  | 0 => rfl
  | n + 1 => by
    have := rowsL_len Ls n
    unfold rowsL at *
    rw [List.range_succ, List.flatMap_append, List.length_append, this]
    simp [polyL_len]
    omega
theorem rowsL_at (Ls : Nat → Nat → Int) : ∀ n s i, s < n → i < 256 → (rowsL Ls n)[256 * s + i]? = some (.int .i64 (Ls s i))
  | 0, s, i, hs, _ => absurd hs (by omega)
  | n + 1, s, i, hs, hi => by
    have hl := rowsL_len Ls n
    have ih := rowsL_at Ls n
    unfold rowsL at *
    rw [List.range_succ, List.flatMap_append]
    by_cases e : s = n
    · subst e
      rw [List.getElem?_append_right (by omega), hl]
      rw [show 256 * s + i - s * 256 = i by omega]
      simp [polyL, List.getElem?_range hi]
    · rw [List.getElem?_append_left (by omega)]
      exact ih s i (by omega) hi
theorem rowsL_split {Ls : Nat → Nat → Int} {n j : Nat} {u : Value} (h : (rowsL Ls n)[j]? = some u) : ∃ s i, s < n ∧ i < 256 ∧ j = 256 * s + i ∧ u = .int .i64 (Ls s i) := by
  have hj : j < n * 256 := by rw [← rowsL_len Ls n]; exact (List.getElem?_eq_some_iff.1 h).1
  have e : 256 * (j / 256) + j % 256 = j := Nat.div_add_mod j 256
  have h1 : j / 256 < n := by omega
  have h2 : j % 256 < 256 := Nat.mod_lt _ (by omega)
  have h3 := rowsL_at Ls n (j / 256) (j % 256) h1 h2
  rw [e, h] at h3
  exact ⟨j / 256, j % 256, h1, h2, e.symm, by simpa using h3⟩
theorem rowsL_one (Ls : Nat → Nat → Int) (n : Nat) : ∀ v ∈ rowsL Ls n, v.oneCell' = true := by
  intro v hv
  unfold rowsL at hv
  obtain ⟨s, _, hs⟩ := List.mem_flatMap.1 hv
  exact polyL_one (Ls s) v hs
theorem run_copyA (W : World) (b n : Nat) (a : Option Addr) (cp lb : Nat) (Ls : Nat → Nat → Int) (ha : 0 < n → a = some ⟨lb, 0, none⟩) (hl : ∀ s, s < n → PRow .i64 W lb (256 * s) (Ls s)) (hb : ∀ s, s < n → PRow .i64 W b (256 * s) (fun _ => 0)) :
    (Builtin.copy_ #[60, 60] 3 #[.slice (some ⟨b, 0, none⟩) n n, .slice a n cp]).run Tryz.prog W = .ok (goInt n) (W.setCells b 0 (rowsL Ls n)) := by
  have hu : Tryz.prog.underlying 60 = some (.slice 71) := by kernel_rfl
  have hz : (Tryz.prog.info? 71).map (fun i => (i.zero, i.size, i.bytes)) = some (some (.agg (polyA .i64 (fun _ => 0))), 256, 2048) := by kernel_rfl
  obtain ⟨i0, hi, _, hz1, _⟩ := info_of hz
  simp only at hz1
  have hst := run_storeCells_cells (P := Tryz.prog) b 0 (rowsL Ls n) 0 W (fun j hj => by
    rw [rowsL_len] at hj
    have e : 256 * (j / 256) + j % 256 = j := Nat.div_add_mod j 256
    have := (hb (j / 256) (by omega) (j % 256) (Nat.mod_lt _ (by omega))).1
    rw [e] at this
    simp [this]) (fun j hj => by
    rw [rowsL_len] at hj
    have e : 256 * (j / 256) + j % 256 = j := Nat.div_add_mod j 256
    have := (hb (j / 256) (by omega) (j % 256) (Nat.mod_lt _ (by omega))).2
    rw [e] at this
    simp [this]) (rowsL_one Ls n)
  have hfc : (Builtin.firstCells 256 n (.slice a n cp)).run Tryz.prog W = .ok (rowsL Ls n).toArray W := by
    by_cases h0 : n = 0
    · subst h0
      cases a with
      | none => simp [Builtin.firstCells, rowsL]
      | some ad =>
        have := run_firstCells_some (P := Tryz.prog) W 256 0 ad 0 cp (rowsL Ls 0) rfl (fun j v h => by simp [rowsL] at h)
        exact this
    · rw [ha (by omega)]
      refine run_firstCells_some (P := Tryz.prog) W 256 n ⟨lb, 0, none⟩ n cp (rowsL Ls n) (rowsL_len Ls n) (fun j u hu => ?_)
      obtain ⟨s, i, hs, hi, rfl, rfl⟩ := rowsL_split hu
      have hadd : (⟨lb, 0, none⟩ : Addr).add (256 * s + i) = ⟨lb, 256 * s + i, none⟩ := by unfold Addr.add; split <;> simp_all
      rw [hadd]
      exact (hl s hs i hi).1
  simp only [Nat.add_zero] at hst
  simp [Builtin.copy_, run_underlying hu, Builtin.lenOf, sizeOf, typeInfo, hi, hz1, hfc, hst]
theorem rowsL_put (W : World) (b n : Nat) (Ls : Nat → Nat → Int) (hb : ∀ s, s < n → PRow .i64 W b (256 * s) (fun _ => 0)) : ∀ s, s < n → PRow .i64 (W.setCells b 0 (rowsL Ls n)) b (256 * s) (Ls s) := by
  intro s hs i hi
  have hj : 256 * s + i < (rowsL Ls n).length := by rw [rowsL_len]; omega
  refine ⟨?_, by rw [World.frozen?_setCells]; exact (hb s hs i hi).2⟩
  have h1 := World.cell?_setCells_in b (rowsL Ls n) 0 W (fun j hj => by
    rw [rowsL_len] at hj
    have e : 256 * (j / 256) + j % 256 = j := Nat.div_add_mod j 256
    have := (hb (j / 256) (by omega) (j % 256) (Nat.mod_lt _ (by omega))).1
    rw [e] at this
    simp [this]) (256 * s + i) hj
  rw [Nat.zero_add] at h1
  rw [h1, ← List.getElem?_eq_getElem hj]
  exact rowsL_at Ls n s i hs hi
/-- What became of the blocks, but for the script's own and some others. -/
structure Frm (B : Nat) (w W : World) (cs : Array Value) (A : Nat → Prop) : Prop where
  blk : W.heap[B]? = some (.cells cs 35)
  os : W.os = w.os
  tape : W.tape = w.tape
  output : W.output = w.output
  size : w.heap.size ≤ W.heap.size
  same : ∀ k, k < w.heap.size → k ≠ B → ¬ A k → W.heap[k]? = w.heap[k]?
theorem Frm.Blt {B : Nat} {w W : World} {cs : Array Value} {A : Nat → Prop} (h : Frm B w W cs A) : B < W.heap.size := (Array.getElem?_eq_some_iff.1 h.blk).1
theorem Frm.grow {B : Nat} {w W W' : World} {cs : Array Value} {A : Nat → Prop} {r : Option Nat} (h : Frm B w W cs A) (hg : W.grownBy W' r) (hr : ∀ k, r = some k → k ≠ B ∧ (A k ∨ w.heap.size ≤ k)) : Frm B w W' cs A :=
  ⟨(hg.block B h.Blt (fun e => (hr B e.symm).1 rfl)).trans h.blk, hg.os.trans h.os, hg.tape.trans h.tape, hg.output.trans h.output, Nat.le_trans h.size hg.size, fun k hk hB hA => (hg.block k (Nat.lt_of_lt_of_le hk h.size) (fun e => by
    rcases (hr k e.symm).2 with h1 | h1
    · exact hA h1
    · omega)).trans (h.same k hk hB hA)⟩
theorem Frm.set {B : Nat} {w W : World} {cs : Array Value} {A : Nat → Prop} (h : Frm B w W cs A) (i : Nat) (v : Value) : Frm B w (W.setCell ⟨B, i, none⟩ v) (cs.setIfInBounds i v) A :=
  ⟨heap_setB h.blk, h.os, h.tape, h.output, by simpa using h.size, fun k hk hB hA => (Below.heap_setCell _ _ _ _ hB).trans (h.same k hk hB hA)⟩
theorem Frm.cell {B : Nat} {w W : World} {cs : Array Value} {A : Nat → Prop} (h : Frm B w W cs A) (i : Nat) (v : Value) (hi : cs[i]? = some v) : W.cell? ⟨B, i, none⟩ = some v := by rw [cell_of_row W B i _ _ _ h.blk]; exact hi
theorem Frm.fz {B : Nat} {w W : World} {cs : Array Value} {A : Nat → Prop} (h : Frm B w W cs A) (i : Nat) : W.frozen? ⟨B, i, none⟩ = false := by simp [World.frozen?, h.blk]
/-- The list is held. -/
theorem hold_end {B : Nat} {w0 : World} {c : Nat} {vT vP : Value} {vS : SV} {ts : List ByteArray} {nP : Nat} {ps : List Value} {Φ : Nat → Prop} {w W : World} {m : Nat} {es : Nat → Ent}
    (h : SWd (XP B w0) B c vT vP vS ts nP ps Φ w) (hx : XPd B w0 c vS Φ w m es) (hmc : m + 1 ≤ 2 * c) (e : Ent) (hn : e.n ≤ 9) (hla : 0 < e.n → e.la = some ⟨e.lb, 0, none⟩) (hka : 0 < e.n → e.ka = some ⟨e.kb, 0, none⟩)
    (hl : ∀ s, s < e.n → PRow .i64 w e.lb (256 * s) (e.L s)) (hk : ∀ s, s < e.n → PRow .i64 w e.kb (256 * s) (e.L s))
    (fl : 0 < e.n → B < e.lb ∧ vT.ownBlock ≠ some e.lb ∧ vP.ownBlock ≠ some e.lb ∧ vS.l.ownBlock ≠ some e.lb ∧ vS.k.ownBlock ≠ some e.lb)
    (fk : 0 < e.n → B < e.kb ∧ vT.ownBlock ≠ some e.kb ∧ vP.ownBlock ≠ some e.kb ∧ vS.l.ownBlock ≠ some e.kb ∧ vS.k.ownBlock ≠ some e.kb)
    {vl vk : Value} {A : Nat → Prop} (hA : ∀ k, A k → vS.l.ownBlock = some k ∨ vS.k.ownBlock = some k) (F : Frm B w W #[vT, vP, vS.s, vl, vk, .int .i64 vS.m] A)
    (ol : W.ownsRow 0 60 1 vl (m + 1) (lvs m es ++ [.slice e.la e.n e.lc])) (ok : W.ownsRow 0 60 1 vk (m + 1) (kvs m es ++ [.slice e.ka e.n e.kc]))
    (bl : vl.ownBlock = vS.l.ownBlock ∨ ∃ g, vl.ownBlock = some g ∧ w.heap.size ≤ g) (bk : vk.ownBlock = vS.k.ownBlock ∨ ∃ g, vk.ownBlock = some g ∧ w.heap.size ≤ g) (lk : ∀ g, vl.ownBlock = some g → vk.ownBlock ≠ some g) :
    ∃ Φ' es', SWd (XP B w0) B c vT vP ⟨vS.s, vl, vk, vS.m⟩ ts nP ps Φ' W ∧ XPd B w0 c ⟨vS.s, vl, vk, vS.m⟩ Φ' W (m + 1) es' := by
  have hT : ∀ g, vT.ownBlock = some g → g < w.heap.size := fun g hg => (h.own.lt g hg).2
  have hP : ∀ g, vP.ownBlock = some g → g < w.heap.size := fun g hg => (h.ownP.lt g hg).2
  have hL : ∀ g, vS.l.ownBlock = some g → g < w.heap.size := fun g hg => (hx.ownL.lt g hg).2
  have hK : ∀ g, vS.k.ownBlock = some g → g < w.heap.size := fun g hg => (hx.ownK.lt g hg).2
  have sT : ∀ g, vT.ownBlock = some g → W.heap[g]? = w.heap[g]? := fun g hg => F.same g (hT g hg) (fun e => own_ne h.own h.blk (by decide) (by rw [← e]; exact hg)) (fun hAg => by
    rcases hA g hAg with h1 | h1
    · exact h.fT g hg (hx.fL g h1).1
    · exact h.fT g hg (hx.fK g h1).1)
  have sP : ∀ g, vP.ownBlock = some g → W.heap[g]? = w.heap[g]? := fun g hg => F.same g (hP g hg) (fun e => own_ne h.ownP h.blk (by decide) (by rw [← e]; exact hg)) (fun hAg => by
    rcases hA g hAg with h1 | h1
    · exact h.fP g hg (hx.fL g h1).1
    · exact h.fP g hg (hx.fK g h1).1)
  have bl' : ∀ k, k < w.heap.size → vS.l.ownBlock ≠ some k → vl.ownBlock ≠ some k := fun k hk h1 h2 => by
    rcases bl with h3 | ⟨g, h3, h4⟩
    · rw [h3] at h2; exact h1 h2
    · rw [h3] at h2; cases h2; omega
  have bk' : ∀ k, k < w.heap.size → vS.k.ownBlock ≠ some k → vk.ownBlock ≠ some k := fun k hk h1 h2 => by
    rcases bk with h3 | ⟨g, h3, h4⟩
    · rw [h3] at h2; exact h1 h2
    · rw [h3] at h2; cases h2; omega
  have lb : 0 < e.n → e.lb < w.heap.size := fun h0 => (hl 0 h0).lt
  have kb : 0 < e.n → e.kb < w.heap.size := fun h0 => (hk 0 h0).lt
  have oB : vl.ownBlock ≠ some B := own_ne ol F.blk (by decide)
  have pB : vk.ownBlock ≠ some B := own_ne ok F.blk (by decide)
  have sΦ : ∀ k, Φ k → vS.l.ownBlock ≠ some k → vS.k.ownBlock ≠ some k → W.heap[k]? = w.heap[k]? := fun k hk h1 h2 => F.same k (h.lt k hk) (fun e => h.fB (by rw [← e]; exact hk)) (fun hAg => by
    rcases hA k hAg with h3 | h3
    · exact h1 h3
    · exact h2 h3)
  have sl : 0 < e.n → W.heap[e.lb]? = w.heap[e.lb]? := fun h0 => F.same _ (lb h0) (by have := (fl h0).1; omega) (fun hAg => by
    rcases hA _ hAg with h3 | h3
    · exact (fl h0).2.2.2.1 h3
    · exact (fl h0).2.2.2.2 h3)
  have sk : 0 < e.n → W.heap[e.kb]? = w.heap[e.kb]? := fun h0 => F.same _ (kb h0) (by have := (fk h0).1; omega) (fun hAg => by
    rcases hA _ hAg with h3 | h3
    · exact (fk h0).2.2.2.1 h3
    · exact (fk h0).2.2.2.2 h3)
  have hXP : XPd B w0 c ⟨vS.s, vl, vk, vS.m⟩ (fun k => Φ k ∨ (0 < e.n ∧ k = e.lb) ∨ (0 < e.n ∧ k = e.kb) ∨ vl.ownBlock = some k ∨ vk.ownBlock = some k) W (m + 1) (fun i => if i = m then e else es i) := by
    have hB := h.Blt
    have el : lvs (m + 1) (fun i => if i = m then e else es i) = lvs m es ++ [.slice e.la e.n e.lc] := by
      unfold lvs
      rw [List.range_succ, List.map_append]
      congr 1
      · refine List.map_congr_left (fun j hj => ?_)
        have hj2 := List.mem_range.1 hj
        simp [show j ≠ m by omega]
      · simp
    have ek : kvs (m + 1) (fun i => if i = m then e else es i) = kvs m es ++ [.slice e.ka e.n e.kc] := by
      unfold kvs
      rw [List.range_succ, List.map_append]
      congr 1
      · refine List.map_congr_left (fun j hj => ?_)
        have hj2 := List.mem_range.1 hj
        simp [show j ≠ m by omega]
      · simp
    refine ⟨⟨F.os.trans hx.low.os, F.tape.trans hx.low.tape, F.output.trans hx.low.output, Nat.le_trans hx.low.size F.size, fun k hk => ?_⟩, fun k hk => Or.inl (hx.lowΦ k hk), by rw [el]; exact ol, by rw [ek]; exact ok, hmc, ?_, ?_, ?_, hx.mk0, hx.mk1⟩
    · refine (sΦ k (hx.lowΦ k hk) (fun e => ?_) (fun e => ?_)).trans (hx.low.block k hk)
      · have := (hx.fL k e).2.1; omega
      · have := (hx.fK k e).2; omega
    · intro g hg
      refine ⟨Or.inr (Or.inr (Or.inr (Or.inl hg))), ?_, lk g hg⟩
      rcases bl with h3 | ⟨g', h3, h4⟩
      · exact (hx.fL g (h3 ▸ hg)).2.1
      · have e9 : g' = g := by rw [show vl.ownBlock = some g from hg] at h3; exact (Option.some.inj h3).symm
        omega
    · intro g hg
      refine ⟨Or.inr (Or.inr (Or.inr (Or.inr hg))), ?_⟩
      rcases bk with h3 | ⟨g', h3, h4⟩
      · exact (hx.fK g (h3 ▸ hg)).2
      · have e9 : g' = g := by rw [show vk.ownBlock = some g from hg] at h3; exact (Option.some.inj h3).symm
        omega
    · intro i hi
      by_cases ei : i = m
      · simp only [ei, if_true]
        exact ⟨hn, hla, hka, fun s hs => (hl s hs).block (sl (by omega)), fun s hs => (hk s hs).block (sk (by omega)), fun h0 => ⟨Or.inr (Or.inl ⟨h0, rfl⟩), Nat.le_of_lt (fl h0).1, bl' _ (lb h0) (fl h0).2.2.2.1, bk' _ (lb h0) (fl h0).2.2.2.2⟩, fun h0 => ⟨Or.inr (Or.inr (Or.inl ⟨h0, rfl⟩)), Nat.le_of_lt (fk h0).1, bl' _ (kb h0) (fk h0).2.2.2.1, bk' _ (kb h0) (fk h0).2.2.2.2⟩⟩
      · simp only [ei, if_false]
        have q := hx.en i (by omega)
        exact ⟨q.n9, q.la, q.ka, fun s hs => (q.lr s hs).block (sΦ _ (q.fl (by omega)).1 (q.fl (by omega)).2.2.1 (q.fl (by omega)).2.2.2), fun s hs => (q.kr s hs).block (sΦ _ (q.fk (by omega)).1 (q.fk (by omega)).2.2.1 (q.fk (by omega)).2.2.2), fun h0 => ⟨Or.inl (q.fl h0).1, (q.fl h0).2.1, bl' _ (q.lr 0 h0).lt (q.fl h0).2.2.1, bk' _ (q.lr 0 h0).lt (q.fl h0).2.2.2⟩, fun h0 => ⟨Or.inl (q.fk h0).1, (q.fk h0).2.1, bl' _ (q.kr 0 h0).lt (q.fk h0).2.2.1, bk' _ (q.kr 0 h0).lt (q.fk h0).2.2.2⟩⟩
  refine ⟨_, _, ⟨F.blk, own_blockP h.own sT, h.nT, h.short, own_blockP h.ownP sP, h.nPc, h.ints, ?_, ?_, ?_, ?_, _, _, hXP⟩, hXP⟩
  · rintro (h1 | ⟨h0, h1⟩ | ⟨h0, h1⟩ | h1 | h1)
    · exact h.fB h1
    · have := (fl h0).1; omega
    · have := (fk h0).1; omega
    · exact oB h1
    · exact pB h1
  · rintro g hg (h1 | ⟨h0, h1⟩ | ⟨h0, h1⟩ | h1 | h1)
    · exact h.fT g hg h1
    · subst h1; exact (fl h0).2.1 hg
    · subst h1; exact (fk h0).2.1 hg
    · exact bl' g (hT g hg) (fun h2 => h.fT g hg (hx.fL g h2).1) h1
    · exact bk' g (hT g hg) (fun h2 => h.fT g hg (hx.fK g h2).1) h1
  · rintro g hg (h1 | ⟨h0, h1⟩ | ⟨h0, h1⟩ | h1 | h1)
    · exact h.fP g hg h1
    · subst h1; exact (fl h0).2.2.1 hg
    · subst h1; exact (fk h0).2.2.1 hg
    · exact bl' g (hP g hg) (fun h2 => h.fP g hg (hx.fL g h2).1) h1
    · exact bk' g (hP g hg) (fun h2 => h.fP g hg (hx.fK g h2).1) h1
  · rintro k (h1 | ⟨h0, h1⟩ | ⟨h0, h1⟩ | h1 | h1)
    · exact Nat.lt_of_lt_of_le (h.lt k h1) F.size
    · have := lb h0; have := F.size; omega
    · have := kb h0; have := F.size; omega
    · exact (ol.lt k h1).2
    · exact (ok.lt k h1).2
end Go.Proofs.YtkijpphmiogbbaaGreatDoor.Z
