import Derived.Test.YtkijpphmiogbbaaGreatDoorM27
import Derived.Test.YtkijpphmiogbbaaGreatDoorM11
import Derived.Laws.StructEq
namespace Go.Proofs.YtkijpphmiogbbaaGreatDoor.Z
open Go.RowKit
attribute [local go_sem ↓] Go.wp_at_zero Go.wp_at_succ
variable {X : Side} {B c : Nat} {w : World}

/-- A script that came in. -/
structure Scr (w : World) (a0 : Option Addr) (len cap : Nat) (ops : Nat → OpV) (adr : Nat → Addr) : Prop where
  ix : ∀ i W, i < len → (Instr.indexAt 22 (.slice a0 len cap) (.int .i64 (i : Int))).run Tryz.prog W = .ok (.pointer (some (adr i))) W
  cell : ∀ i k v, i < len → (opL (ops i))[k]? = some v → w.cell? ((adr i).add k) = some v
  ok : ∀ i, i < len → InI (ops i).kind ∧ InI (ops i).x ∧ InI (ops i).y ∧ InI (ops i).z ∧ InI (ops i).w ∧ InI (ops i).a ∧ InI (ops i).b ∧ (ops i).s.size ≤ 9223372036854775807
  len : len ≤ 9223372036854775807

set_option maxHeartbeats 2000000 in
set_option maxRecDepth 20000 in
theorem small_any (a0 : Option Addr) (len cap : Nat) (ops : Nat → OpV) (adr : Nat → Addr) (h : Scr w a0 len cap ops adr) :
    Calls Tryz.prog 12 #[.slice a0 len cap] w fun e w' => w' = w ∧ (e = .returned (.bool false) ∨ (e = .returned (.bool true) ∧ len ≤ 16384)) := by
  have hl := h.len
  by_cases hbig : 16384 < len
  · have b0 : (16384 : Int) < (len : Int) := by omega
    clear h
    go_enter Tryz.func12, Tryz.ntmps12
    go_wp2
    go_ret
    exact ⟨rfl, Or.inl rfl⟩
  · have b0 : ¬ (16384 : Int) < (len : Int) := by omega
    have b1 : (len : Int) ≤ 16384 := by omega
    have H : Hid (Scr w a0 len cap ops adr) := h
    clear h hbig
    go_enter Tryz.func12, Tryz.ntmps12
    go_wp2
    go_loopw [3, 4] (fun n i wr => ∃ (k : Nat) (m : Int), k ≤ len ∧ i = .int .i64 k ∧ n = .int .i64 m ∧ wr = w) (fun _ i _ => len - (intOf i).toNat)
    case atStart => exact ⟨0, len, by omega, rfl, rfl, rfl⟩
    case round =>
      obtain ⟨k, m, hk, rfl, rfl, rfl⟩ := hrel
      by_cases hlt : k < len
      · have k0 : (k : Int) < (len : Int) := by omega
        have hx := fun W => H.out.ix k W hlt
        have cs : wr.cell? ⟨(adr k).block, (adr k).off + 7, none⟩ = some (.string (ops k).s) := H.out.cell k 7 _ hlt rfl
        by_cases hs : 16384 < IntKind.i64.wrap (m + ((ops k).s.size : Int))
        · have w1 : (16384 : Int) < wrap64 (m + ((ops k).s.size : Int)) := by rw [← IntWalk.i64_left]; exact hs
          have w2 : (16384 : Int) < IntKind.i64.wrap (m + ((ops k).s.size : Int)) := hs
          clear hs
          go_wp2
          go_ret
          exact ⟨rfl, Or.inl rfl⟩
        · have w1 : ¬ (16384 : Int) < wrap64 (m + ((ops k).s.size : Int)) := by rw [← IntWalk.i64_left]; exact hs
          have w2 : ¬ (16384 : Int) < IntKind.i64.wrap (m + ((ops k).s.size : Int)) := hs
          clear hs
          go_wp2
          go_roundw
          case rel => exact ⟨k + 1, _, by omega, by go_num, rfl, trivial⟩
          case measure => simp [intOf]; omega
      · have hkl : len = k := by omega
        subst hkl
        go_wp2
        go_ret
        exact ⟨rfl, Or.inr ⟨rfl, by omega⟩⟩
end Go.Proofs.YtkijpphmiogbbaaGreatDoor.Z

namespace Go.Proofs.YtkijpphmiogbbaaGreatDoor.Z
open Go.RowKit
attribute [local go_sem ↓] Go.wp_at_zero Go.wp_at_succ
variable {X : Side} {B c : Nat} {w : World}

def flat (ops : List OpV) : List Value := ops.flatMap opL
theorem flat_len (ops : List OpV) : (flat ops).length = ops.length * 8 := by
  unfold flat
  induction ops with
  | nil => rfl
  | cons o r ih => rw [List.flatMap_cons, List.length_append, ih, List.length_cons]; show 8 + _ = _; omega
theorem flat_at : ∀ (ops : List OpV) (k j : Nat) (h : k < ops.length), j < 8 → (flat ops)[k * 8 + j]? = (opL ops[k])[j]?
  | o :: r, 0, j, _, hj => by
    unfold flat
    rw [List.flatMap_cons, List.getElem?_append_left (by show 0 * 8 + j < 8; omega)]
    simp
  | o :: r, k + 1, j, h, hj => by
    have h1 : k < r.length := by simpa using h
    have e : (k + 1) * 8 + j = 8 + (k * 8 + j) := by omega
    unfold flat
    rw [List.flatMap_cons, List.getElem?_append_right (by show 8 ≤ _; omega)]
    show (List.flatMap opL r)[(k + 1) * 8 + j - 8]? = _
    rw [show (k + 1) * 8 + j - 8 = k * 8 + j by omega]
    exact flat_at r k j h1 hj
theorem own_op {base : Nat} {v : Value} {ops : List OpV} (h : w.ownsRow base 28 8 v ops.length (flat ops)) (k : Nat) (hk : k < ops.length) {g cap : Nat} (hv : v = .slice (some ⟨g, 0, none⟩) ops.length cap) (j : Nat) (hj : j < 8) (u : Value) (hu : (opL ops[k])[j]? = some u) : w.cell? ⟨g, k * 8 + j, none⟩ = some u := by
  have hc := h.cells (g := g) (by rw [hv]; rfl) (k * 8 + j) u (by rw [flat_at ops k j hk hj]; exact hu)
  have hadd : (⟨g, 0, none⟩ : Addr).add (k * 8 + j) = ⟨g, k * 8 + j, none⟩ := by unfold Addr.add; split <;> simp_all
  rwa [hadd] at hc

abbrev newW (w : World) : World := w.alloc (.cells #[.slice none 0 0, .slice none 0 0, .slice none 0 0, .slice none 0 0, .slice none 0 0, .int .i64 0] 35)
set_option maxHeartbeats 2000000 in
set_option maxRecDepth 20000 in
theorem upTo_any (v : Value) (ops : List OpV) (base : Nat) (hn : ops.length ≤ 16384) (hown : w.ownsRow base 28 8 v ops.length (flat ops))
    (hlow : ∀ W c, SW X w.heap.size c W → ∀ k, k < w.heap.size → W.heap[k]? = w.heap[k]?) (hinit : SW X w.heap.size 0 (newW w))
    (hstep : ∀ o ∈ ops, ∀ c W, c + 1 ≤ 40000 → SW X w.heap.size c W → Calls Tryz.prog 14 #[.pointer (some ⟨w.heap.size, 0, none⟩), opVal o] W fun e W' => e = .returned (.bool true) ∧ SW X w.heap.size (c + 2) W') :
    Calls Tryz.prog 13 #[v] w fun e w' => e = .returned (.int .i64 (-1)) ∧ SW X w.heap.size (2 * ops.length) w' := by
  rcases own_forms hown with ⟨hv, hn0, hx⟩ | ⟨g, cap, hv, hcell⟩
  · subst hv
    rw [hn0]
    go_enter Tryz.func13, Tryz.ntmps13
    go_wp2
    refine wp_loop_rounds 1 ?_
    rw [rounds_succ]
    go_wp2
    go_ret
    exact ⟨rfl, hinit⟩
  · have HC : Hid (∀ k W c, k < ops.length → SW X w.heap.size c W → ∀ j u, j < 8 → (opL (ops[k]?.getD ⟨0, 0, 0, 0, 0, 0, 0, ByteArray.empty⟩))[j]? = some u → W.cell? ⟨g, k * 8 + j, none⟩ = some u) := fun k W c hk hW j u hj hu => by
      rw [List.getElem?_eq_getElem hk] at hu
      have h1 := own_op hown k hk hv j hj u hu
      have hg : g < w.heap.size := cell_lt h1
      rw [World.cell?_of_block (a := ⟨g, k * 8 + j, none⟩) (hlow W c hW g hg)]; exact h1
    have HS : Hid (∀ o ∈ ops, ∀ c W, c + 1 ≤ 40000 → SW X w.heap.size c W → Calls Tryz.prog 14 #[.pointer (some ⟨w.heap.size, 0, none⟩), opVal o] W fun e W' => e = .returned (.bool true) ∧ SW X w.heap.size (c + 2) W') := hstep
    obtain ⟨n, hn9⟩ : ∃ n, n = ops.length := ⟨_, rfl⟩
    have HN : Hid (n = ops.length) := hn9
    rw [← hn9] at hv hn
    subst hv
    clear hcell hstep hown hlow hn9
    go_enter Tryz.func13, Tryz.ntmps13
    go_wp2
    go_loopw [4] (fun i wr => ∃ k : Nat, k ≤ n ∧ i = .int .i64 k ∧ SW X w.heap.size (2 * k) wr) (fun i _ => n - (intOf i).toNat)
    case atStart => exact ⟨0, by omega, rfl, hinit⟩
    case round =>
      clear hinit
      obtain ⟨k, hk, rfl, hW⟩ := hrel
      by_cases hlt : k < n
      · have k0 : (k : Int) < (n : Int) := by omega
        have n0 : (n : Int) ≤ 16384 := by omega
        have hkn : k < ops.length := by rw [← HN.out]; exact hlt
        obtain ⟨o, ho9⟩ : ∃ o, o = ops[k]?.getD ⟨0, 0, 0, 0, 0, 0, 0, ByteArray.empty⟩ := ⟨_, rfl⟩
        have hmem : o ∈ ops := by rw [ho9, List.getElem?_eq_getElem hkn]; exact List.getElem_mem hkn
        have cc := HC.out k wr _ hkn hW
        rw [← ho9] at cc
        have e0 : wr.cell? ⟨g, k * 8, none⟩ = some (.int .i64 o.kind) := cc 0 _ (by omega) rfl
        have e1 := cc 1 _ (by omega) rfl
        have e2 := cc 2 _ (by omega) rfl
        have e3 := cc 3 _ (by omega) rfl
        have e4 := cc 4 _ (by omega) rfl
        have e5 := cc 5 _ (by omega) rfl
        have e6 := cc 6 _ (by omega) rfl
        have e7 := cc 7 _ (by omega) rfl
        clear cc ho9
        go_wp2_with fail
        refine (HS.out o hmem (2 * k) wr (by omega) hW).mono ?_
        rintro e w1 ⟨rfl, h1⟩
        clear e0 e1 e2 e3 e4 e5 e6 e7
        go_wp2
        go_roundw
        case rel => exact ⟨k + 1, by omega, by go_num, h1⟩
        case measure => simp [intOf]; omega
      · have hkn : n = k := by omega
        subst hkn
        go_wp2
        go_ret
        refine ⟨rfl, ?_⟩
        rw [← HN.out]; exact hW
end Go.Proofs.YtkijpphmiogbbaaGreatDoor.Z

namespace Go.Proofs.YtkijpphmiogbbaaGreatDoor.Z
open Go.RowKit
attribute [local go_sem ↓] Go.wp_at_zero Go.wp_at_succ
variable {w : World}

theorem Tryz.uOps : Tryz.prog.underlying 22 = some (.slice 28) := by kernel_rfl
theorem Tryz.iOp : (Tryz.prog.info? 28).map (fun i => (i.zero, i.size, i.bytes)) = some (some (.agg #[.int .i64 0, .int .i64 0, .int .i64 0, .int .i64 0, .int .i64 0, .int .i64 0, .int .i64 0, .string ByteArray.empty]), 8, 72) := by kernel_rfl
theorem grown_own {w w1 w2 : World} {v : Value} (g1 : w.grownBy w1 none) (g2 : w1.grownBy w2 v.ownBlock) (hb : ∀ b, v.ownBlock = some b → w.heap.size ≤ b) : w.grownBy w2 none :=
  ⟨g2.os.trans g1.os, g2.tape.trans g1.tape, g2.output.trans g1.output, Nat.le_trans g1.size g2.size, fun k hk hr => (g2.block k (Nat.lt_of_lt_of_le hk g1.size) (fun e => by have := hb k e.symm; omega)).trans (g1.block k hk hr)⟩
theorem flat_snoc (ops : List OpV) (o : OpV) : flat (ops ++ [o]) = flat ops ++ opL o := by unfold flat; rw [List.flatMap_append]; simp
def Good (ks : Nat → Int) (m : Nat) (o : OpV) : Prop := OpOK o ∧ (o.kind < 8 ∨ ∃ j, j < m ∧ o.kind = ks j)
set_option maxHeartbeats 4000000 in
set_option maxRecDepth 20000 in
theorem plays_any (a0 : Option Addr) (len cap : Nat) (ops : Nat → OpV) (adr : Nat → Addr) (h : Scr w a0 len cap ops adr) (K m : Nat) (ks : Nat → Int) (hm : m ≤ 100) (hks : ∀ j, j < m → w.cell? ⟨K, j, none⟩ = some (.int .i64 (ks j)))
    (hup : ∀ wr v (os : List OpV), w.grownBy wr none → wr.ownsRow w.heap.size 28 8 v os.length (flat os) → os.length ≤ 16384 → (∀ o ∈ os, Good ks m o) →
      Calls Tryz.prog 13 #[v] wr fun e w' => e = .returned (.int .i64 (-1)) ∧ Below w.heap.size w w') :
    Calls Tryz.prog 11 #[.slice a0 len cap, .slice (some ⟨K, 0, none⟩) m m] w fun e w' => e = .returned (.bool true) ∧ Below w.heap.size w w' := by
  have H : Hid (Scr w a0 len cap ops adr) := h
  have HK : Hid (∀ j, j < m → w.cell? ⟨K, j, none⟩ = some (.int .i64 (ks j))) := hks
  have HUP : Hid (∀ wr v (os : List OpV), w.grownBy wr none → wr.ownsRow w.heap.size 28 8 v os.length (flat os) → os.length ≤ 16384 → (∀ o ∈ os, Good ks m o) →
      Calls Tryz.prog 13 #[v] wr fun e w' => e = .returned (.int .i64 (-1)) ∧ Below w.heap.size w w') := hup
  have hl := h.len
  clear hks hup h
  go_enter Tryz.func11, Tryz.ntmps11
  go_wp2_with fail
  refine (small_any a0 len cap ops adr H.out).mono ?_
  rintro e w' ⟨hw, he⟩
  rw [hw]
  clear hw w'
  rcases he with rfl | ⟨rfl, hlen⟩
  · go_wp2
    go_ret
    exact ⟨rfl, below_of_grown (World.grownBy.refl _ _)⟩
  · have l0 : (len : Int) ≤ 16384 := by omega
    have m0 : (m : Int) ≤ 100 := by omega
    go_wp2
    go_loopw [6, 7] (fun v i wr => ∃ (k : Nat) (os : List OpV), k ≤ len ∧ os.length ≤ k ∧ i = .int .i64 k ∧ w.grownBy wr none ∧ wr.ownsRow w.heap.size 28 8 v os.length (flat os) ∧ Hid (∀ o ∈ os, Good ks m o)) (fun _ i _ => len - (intOf i).toNat)
    case atStart => exact ⟨0, [], by omega, Nat.le_refl _, rfl, World.grownBy.refl _ _, World.ownsRow_nil _ _ _ _, fun o ho => by cases ho⟩
    case round =>
      obtain ⟨k, os, hk, hos, rfl, hg, hO, HG⟩ := hrel
      by_cases hlt : k < len
      · have k0 : (k : Int) < (len : Int) := by omega
        have hx := fun W => H.out.ix k W hlt
        have cc := fun j v hv => hg.cell (H.out.cell k j v hlt hv) (by simp)
        have e0 : wr.cell? (adr k) = some (.int .i64 (ops k).kind) := cc 0 _ rfl
        have e1 : wr.cell? ⟨(adr k).block, (adr k).off + 1, none⟩ = some (.int .i64 (ops k).x) := cc 1 _ rfl
        have e2 : wr.cell? ⟨(adr k).block, (adr k).off + 2, none⟩ = some (.int .i64 (ops k).y) := cc 2 _ rfl
        have e3 : wr.cell? ⟨(adr k).block, (adr k).off + 3, none⟩ = some (.int .i64 (ops k).z) := cc 3 _ rfl
        have e4 : wr.cell? ⟨(adr k).block, (adr k).off + 4, none⟩ = some (.int .i64 (ops k).w) := cc 4 _ rfl
        have e5 : wr.cell? ⟨(adr k).block, (adr k).off + 5, none⟩ = some (.int .i64 (ops k).a) := cc 5 _ rfl
        have e6 : wr.cell? ⟨(adr k).block, (adr k).off + 6, none⟩ = some (.int .i64 (ops k).b) := cc 6 _ rfl
        have e7 : wr.cell? ⟨(adr k).block, (adr k).off + 7, none⟩ = some (.string (ops k).s) := cc 7 _ rfl
        have hok := H.out.ok k hlt
        have HOK : Hid (OpOK (ops k)) := ⟨hok.1, hok.2.1, hok.2.2.1, hok.2.2.2.1, hok.2.2.2.2.1, hok.2.2.2.2.2.1, hok.2.2.2.2.2.2.1, hok.2.2.2.2.2.2.2⟩
        clear cc hok
        generalize ops k = o at *
        generalize adr k = ad at *
        go_wp2
        go_loopw [9, 10] (fun b j wv => ∃ (t : Bool) (jj : Nat), jj ≤ m ∧ b = .bool t ∧ j = .int .i64 jj ∧ wv = wr ∧ Hid (t = true → o.kind < 8 ∨ ∃ j, j < m ∧ o.kind = ks j)) (fun _ j _ => m - (intOf j).toNat)
        case atStart => exact ⟨_, 0, by omega, rfl, rfl, rfl, fun ht => Or.inl (by simpa using ht)⟩
        case round =>
          obtain ⟨t, jj, hj, rfl, rfl, rfl, HT⟩ := hrel
          by_cases hjl : jj < m
          · have j0 : (jj : Int) < (m : Int) := by omega
            have kc := hg.cell (HK.out jj hjl) (by simp)
            cases t with
            | true =>
              go_wp2
              go_roundw
              case rel => exact ⟨true, jj + 1, by omega, rfl, by go_num, trivial, HT.out⟩
              case measure => simp [intOf]; omega
            | false =>
              go_wp2
              go_roundw
              case rel => exact ⟨_, jj + 1, by omega, rfl, by go_num, trivial, fun ht => Or.inr ⟨jj, hjl, by simpa using ht⟩⟩
              case measure => simp [intOf]; omega
          · have hjm : m = jj := by omega
            subst hjm
            cases t with
            | false =>
              go_wp2
              go_roundw
              case rel => exact ⟨k + 1, os, by omega, by omega, by go_num, hg, hO, HG.out⟩
              case measure => simp [intOf]; omega
            | true =>
              obtain ⟨i0, hi, hz0, hz1, hz2⟩ := info_of Tryz.iOp
              simp only at hz0 hz1 hz2
              have HI : Hid (Tryz.prog.info? 28 = some i0) := hi
              have HO : Hid (wr.ownsRow w.heap.size 28 8 u6 os.length (flat os)) := hO
              have hbb : ∀ b, Value.ownBlock u6 = some b → w.heap.size ≤ b := fun b hb => (hO.lt b hb).1
              clear hi hO
              go_wp2_with (first | (at_builtin; refine wpList_append_own_at _ rfl _ _ 22 rfl w.heap.size 28 i0 _ 8 72 Tryz.uOps HI.out hz0 hz1 hz2 rfl (by decide) _ os.length (flat os) rfl (HO.out.alloc _) ⟨_, 0, none⟩ 1 1 (opL o) rfl rfl ?c1 ?c2 ?c3 ?c4 ?c5 ?_))
              case c1 =>
                intro j u hj
                exact hj
              case c2 =>
                intro u hu
                unfold opL at hu
                simp only [List.mem_cons, List.not_mem_nil, or_false] at hu
                rcases hu with rfl | rfl | rfl | rfl | rfl | rfl | rfl | rfl <;> rfl
              case c3 => unfold maxLen; omega
              case c4 => omega
              case c5 => have := hg.size; omega
              intro v' w2 ho hg2 _ _
              clear e0 e1 e2 e3 e4 e5 e6 e7
              go_wp2
              go_roundw
              case rel =>
                refine ⟨k + 1, os ++ [o], by omega, by simp; omega, by go_num, grown_own (grownBy_trans hg (World.grownBy_alloc _ _ none)) hg2 hbb, ?_, ?_⟩
                · rw [flat_snoc, List.length_append]; exact ho
                · intro p hp
                  rcases List.mem_append.1 hp with h1 | h1
                  · exact HG.out p h1
                  · rw [List.mem_singleton.1 h1]; exact ⟨HOK.out, HT.out trivial⟩
              case measure => simp [intOf]; omega
      · have hkl : len = k := by omega
        subst hkl
        go_wp2_with fail
        refine (HUP.out _ _ os hg hO (by omega) HG.out).mono ?_
        rintro e w2 ⟨rfl, hb⟩
        go_wp2
        go_ret
        exact ⟨rfl, hb⟩
end Go.Proofs.YtkijpphmiogbbaaGreatDoor.Z

namespace Go.Proofs.YtkijpphmiogbbaaGreatDoor
open Go.RowKit

theorem run_part1 {P : Program} {e : TypeId} (k : IntKind) (L : Nat → Int) (i : Nat) (hi : i < 256) (W : World) (he : (P.underlying e).map (fun d => match d with | .struct _ | .array _ _ => true | _ => false) = some false) :
    (part e (polyA k L) i).run P W = .ok (.int k (L i)) W := by
  cases hd : P.underlying e with
  | none => simp [hd] at he
  | some d =>
    have hagg : (isAgg e).run P W = .ok false W := by
      unfold isAgg
      rw [Sem.run_bind, run_underlying hd W]
      cases d <;> simp_all
    have hp : (polyA k L)[i]? = some (.int k (L i)) := polyA_at k L i hi
    simp [part, Sem.run_bind, hagg, hp]
theorem run_eq_poly (d : Nat) (L : Nat → Int) (W : World) : (Op.equalIn (d + 2) 71 (.agg (polyA .i64 L)) (.agg (polyA .i64 L))).run Tryz.prog W = .ok true W := by
  have hu : Tryz.prog.underlying 3 = some (.int .i64) := by kernel_rfl
  have hs : (sizeOf 3).run Tryz.prog W = .ok 1 W := by kernel_rfl
  have hp : ∀ i, i < 256 → (part 3 (polyA .i64 L) (i * 1)).run Tryz.prog W = .ok (.int .i64 (L i)) W := fun i hi => by rw [Nat.mul_one]; exact run_part1 .i64 L i hi W (by kernel_rfl)
  have he : ∀ i, (Op.equalIn (d + 1) 3 (.int .i64 (L i)) (.int .i64 (L i))).run Tryz.prog W = .ok true W := fun i => by rw [run_equalIn_int W d 3 .i64 .i64 (L i) (L i) hu]; simp
  rw [Op.equalIn]
  simp only [Sem.run_bind, run_underlying Tryz.uP W, Result.andThen_ok, hs]
  simp only [Std.Legacy.Range.forIn_eq_forIn_range']
  have key : ∀ l : List Nat, (∀ i ∈ l, i < 256) → Sem.run Tryz.prog (forIn l ((none : Option Bool), ()) fun i (_ : Option Bool × Unit) => do
            let a ← part 3 (polyA IntKind.i64 L) (i * 1)
            let b ← part 3 (polyA IntKind.i64 L) (i * 1)
            let r ← Op.equalIn (d + 1) 3 a b
            if (!r) = true then pure (ForInStep.done (some false, ())) else pure (ForInStep.yield (none, ()))) W = .ok (none, ()) W := by
    intro l
    induction l with
    | nil => intro _; rfl
    | cons x l ih =>
      intro h
      have hx := h x (List.mem_cons_self ..)
      rw [List.forIn_cons]
      simp only [Sem.run_bind, hp x hx, Result.andThen_ok, he x, Bool.not_true, Bool.false_eq_true, if_false, Sem.run_pure]
      exact ih (fun i hi => h i (List.mem_cons_of_mem _ hi))
  rw [key (List.range' 0 [:256].size) (fun i hi => by
    have := List.mem_range'_1.1 hi
    have e : [:256].size = 256 := rfl
    omega)]
  simp
/-- One and the same polynomial is equal to itself. -/
theorem neq_poly (L : Nat → Int) (W : World) : (binOp .neq 71 (.agg (polyA .i64 L)) (.agg (polyA .i64 L))).run Tryz.prog W = .ok (.bool false) W := by
  rw [run_neq_struct, run_eq_poly 9998 L W]; rfl
theorem eql_poly (L : Nat → Int) (W : World) : (binOp .eql 71 (.agg (polyA .i64 L)) (.agg (polyA .i64 L))).run Tryz.prog W = .ok (.bool true) W := by
  rw [run_eql_struct, run_eq_poly 9998 L W]; rfl
theorem Tryz.guardP : Tryz.prog.eqGuardType Tryz.prog.depth 71 = false := by kernel_rfl
section
variable {ops : Array Oper} {rest : List Oper} {o : Oper} {a : Act} {w : World} {Q : Exit → Act → World → Prop}
theorem wpG_load {P : Program} (hw : Region.wanted o (yielded ops a.tmps) = true) (k : IntKind) (ty : TypeId) (x : Operand) (ho : o.op = .load ty x) (b f : Nat) (hx : a.eval x = .pointer (some ⟨b, f, none⟩)) (L : Nat → Int) (hr : PRow k w b f L)
    (hu : ∃ e, P.underlying ty = some (.array 256 e)) (hi : (P.info? ty).map (·.size) = some 256)
    (h : wpList P ops Q rest (a.put o.dst (.agg (polyA k L))) w) : wpList P ops Q (o :: rest) a w := by
  unfold wpList
  rw [if_pos hw]
  exact Or.inl (wpO_load k ty x ho b f hx L hr hu hi h)
theorem wpG_neq (hw : Region.wanted o (yielded ops a.tmps) = true) (x y : Operand) (t : TypeId) (ho : o.op = .binOp .neq 71 x y t) (L : Nat → Int) (hx : a.eval x = .agg (polyA .i64 L)) (hy : a.eval y = .agg (polyA .i64 L))
    (h : wpList Tryz.prog ops Q rest (a.put o.dst (.bool false)) w) : wpList Tryz.prog ops Q (o :: rest) a w := by
  unfold wpList
  rw [if_pos hw]
  left
  unfold Oper.wp execOp
  simp only [ho, hx, hy, Sem.run_bind, run_eqGuard_agg w .neq 71 x y _ _ Tryz.guardP, neq_poly, Result.andThen_ok]
  exact h
theorem wpG_eql (hw : Region.wanted o (yielded ops a.tmps) = true) (x y : Operand) (t : TypeId) (ho : o.op = .binOp .eql 71 x y t) (L : Nat → Int) (hx : a.eval x = .agg (polyA .i64 L)) (hy : a.eval y = .agg (polyA .i64 L))
    (h : wpList Tryz.prog ops Q rest (a.put o.dst (.bool true)) w) : wpList Tryz.prog ops Q (o :: rest) a w := by
  unfold wpList
  rw [if_pos hw]
  left
  unfold Oper.wp execOp
  simp only [ho, hx, hy, Sem.run_bind, run_eqGuard_agg w .eql 71 x y _ _ Tryz.guardP, eql_poly, Result.andThen_ok]
  exact h
end
end Go.Proofs.YtkijpphmiogbbaaGreatDoor
