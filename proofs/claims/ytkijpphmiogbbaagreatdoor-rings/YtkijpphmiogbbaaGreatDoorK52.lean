import Derived.Test.YtkijpphmiogbbaaGreatDoorRows
import Derived.Test.YtkijpphmiogbbaaGreatDoorK49
import Derived.Test.YtkijpphmiogbbaaGreatDoorK50
import Derived.Test.YtkijpphmiogbbaaGreatDoorK51
import Derived.ProofKit
import Derived.OpenShut
import Derived.ShutString
import Derived.ChangeOld
import Derived.Below
import Derived.LaidMore
import Derived.Lay
import Derived.LaidHandle
import Derived.LaidLaws
import Derived.Lib.LaidTab
import Derived.Stop.Joined
import Derived.Deep.Slices
import Derived.ChangeArms
namespace Go.Proofs.YtkijpphmiogbbaaGreatDoor
open Go.ChangeShapes Go.WideShapes Go.ChangeAt Go.RowKit
open Z (OpV opL InI Scr rings_any)

theorem Tryz.own : ownKnob Tryz.prog.godebug = none := by kernel_rfl
theorem Tryz.laidOut : laidOutB Tryz.prog = true := by kernel_rfl
theorem Tryz.gEt : Tryz.prog.globalNamed "errors.errorType" = some 0 := by kernel_rfl
theorem Tryz.u3 : Tryz.prog.underlying 3 = some (.int .i64) := by kernel_rfl
theorem Tryz.rt : (Tryz.prog.cutTypes.find? (·.1 == "internal/reflectlite.rtype")).map (·.2) = some 370 := by kernel_rfl
theorem Tryz.oneRow : ((List.range 483).filter fun t => Tryz.prog.rowNamed t [101, 114, 114, 111, 114]) = [73] := by kernel_rfl
theorem Tryz.size : Tryz.prog.types.size = 483 := by kernel_rfl

/-- WHAT THE CONDITION GIVES THE WALKS. -/
theorem of_laid {W : World} (h : laidMetH Tryz.prog Rows.ringsRow.laid W) : Z.Et W := by
  have h' : laidMet Tryz.prog [("latticekeys/sponge.roundBits", Rows.laid_latticekeys_sponge_roundBits), ("latticekeys/sponge.turns", Rows.laid_latticekeys_sponge_turns), ("latticekeys/sponge.targets", Rows.laid_latticekeys_sponge_targets), ("unicode/utf8.acceptRanges", Rows.laid_unicode_utf8_acceptRanges), ("unicode/utf8.first", Rows.laid_unicode_utf8_first)] W ∧ handlesMet Tryz.prog [("errors.errorType", Rows.laid_errors_errorType)] W := h
  have hh := h'.2
  obtain ⟨name, u, ty, f1, f2, f3, f4, f5⟩ := hh _ (List.mem_singleton.2 rfl)
  have en : name = [101, 114, 114, 111, 114] := (Option.some.inj f1).symm
  subst en
  obtain rfl := Option.some.inj (Tryz.rt.symm.trans f2)
  have hm : ty ∈ (List.range 483).filter fun t => Tryz.prog.rowNamed t [101, 114, 114, 111, 114] := List.mem_filter.2 ⟨List.mem_range.2 (by rw [← Tryz.size]; exact f3), f4⟩
  rw [Tryz.oneRow] at hm
  obtain rfl := List.mem_singleton.1 hm
  have hh : typeHandle Tryz.prog 73 = .pointer (some ⟨7, 73, none⟩) := by kernel_rfl
  rw [hh] at f5
  simpa [Z.Et] using World.var?_cell Tryz.gEt f5 0

theorem wf_bounds {n : Int} (h : (Lit.int .i64 n).wf = true) : InI n := by
  have := bounds_i64 h
  unfold InI
  omega
theorem Tryz.opFields : (Tryz.prog.underlying 28).map (fun d => match d with | .struct fs => fs.toList.map (fun f => (f.offset, f.type)) | _ => []) = some [(0, 3), (1, 3), (2, 3), (3, 3), (4, 3), (5, 3), (6, 3), (7, 9)] := by kernel_rfl
theorem Tryz.uOpsR : Tryz.prog.underlying 22 = some (.slice 28) := by kernel_rfl
theorem Tryz.cOp : Tryz.prog.cellsOf 28 = 8 := by kernel_rfl
theorem Tryz.cInt : Tryz.prog.cellsOf 3 = 1 := by kernel_rfl
theorem Tryz.cStr : Tryz.prog.cellsOf 9 = 1 := by kernel_rfl
theorem Tryz.uStrR : Tryz.prog.underlying 9 = some .string := by kernel_rfl
theorem one_of {cs : List Value} {i : Nat} {v : Value} (h : (cs.drop i).take 1 = [v]) : cs[i]? = some v := by
  have h1 : ((cs.drop i).take 1)[0]? = some v := by rw [h]; rfl
  rw [List.getElem?_take] at h1
  simpa using h1
def OpFine (o : OpV) : Prop := InI o.kind ∧ InI o.x ∧ InI o.y ∧ InI o.z ∧ InI o.w ∧ InI o.a ∧ InI o.b ∧ o.s.size ≤ 9223372036854775807
/-- A step, opened. -/
theorem open_op {H : Type} {enc : TypeId × Value → H} {w : World} {base : Nat} {spare : Nat → Bool} {held : Bool} {n : Nat} {cs : List Value} {x : DataW H × List MemPlace}
    (h : DataW.trod enc Tryz.prog w base spare held n 28 cs = some x) : ∃ o : OpV, OpFine o ∧ cs = opL o := by
  have hf := Tryz.opFields
  cases hd : Tryz.prog.underlying 28 with
  | none => rw [hd] at hf; cases hf
  | some d =>
    rw [hd] at hf
    cases d with
    | struct fs =>
      simp only [Option.map_some, Option.some.injEq] at hf
      obtain ⟨xs, k, _, _, hl, hxl, hfs⟩ := DataW.trod_struct hd h
      rw [Tryz.cOp] at hl
      have hsz : fs.size = 8 := by have := congrArg List.length hf; simpa using this
      have hat : ∀ i (t : TypeId), i < 8 → ([(0, 3), (1, 3), (2, 3), (3, 3), (4, 3), (5, 3), (6, 3), (7, 9)] : List (Nat × TypeId))[i]? = some (i, t) → Tryz.prog.cellsOf t = 1 → ∃ y, DataW.trod enc Tryz.prog w base spare held k t ((cs.drop i).take 1) = some y := fun i t hi ht hc => by
        rw [← hf, List.getElem?_map] at ht
        cases hg : fs.toList[i]? with
        | none => rw [hg] at ht; cases ht
        | some f =>
          rw [hg] at ht
          simp only [Option.map_some, Option.some.injEq, Prod.mk.injEq] at ht
          have h1 := hfs i f (by rw [← Array.getElem?_toList]; exact hg)
          rw [ht.1, ht.2, hc] at h1
          exact ⟨xs[i]'(by omega), by rw [h1]; exact List.getElem?_eq_getElem _⟩
      have hint : ∀ i, i < 7 → ∃ z, cs[i]? = some (.int .i64 z) ∧ InI z := fun i hi => by
        have hm : ([(0, 3), (1, 3), (2, 3), (3, 3), (4, 3), (5, 3), (6, 3), (7, 9)] : List (Nat × TypeId))[i]? = some (i, 3) := by
          match i, hi with
          | 0, _ => rfl
          | 1, _ => rfl
          | 2, _ => rfl
          | 3, _ => rfl
          | 4, _ => rfl
          | 5, _ => rfl
          | 6, _ => rfl
        obtain ⟨y, hy⟩ := hat i 3 (by omega) hm Tryz.cInt
        obtain ⟨z, h1, _, h2⟩ := DataW.trod_int Tryz.u3 hy
        exact ⟨z, one_of h1, wf_bounds h2⟩
      obtain ⟨y, hy⟩ := hat 7 9 (by omega) rfl Tryz.cStr
      obtain ⟨s, h1, _, h2⟩ := DataW.trod_string Tryz.uStrR hy
      have hs := one_of h1
      obtain ⟨z0, e0, b0⟩ := hint 0 (by omega)
      obtain ⟨z1, e1, b1⟩ := hint 1 (by omega)
      obtain ⟨z2, e2, b2⟩ := hint 2 (by omega)
      obtain ⟨z3, e3, b3⟩ := hint 3 (by omega)
      obtain ⟨z4, e4, b4⟩ := hint 4 (by omega)
      obtain ⟨z5, e5, b5⟩ := hint 5 (by omega)
      obtain ⟨z6, e6, b6⟩ := hint 6 (by omega)
      refine ⟨⟨z0, z1, z2, z3, z4, z5, z6, s⟩, ⟨b0, b1, b2, b3, b4, b5, b6, by unfold maxLen at h2; omega⟩, ?_⟩
      refine List.ext_getElem? (fun i => ?_)
      match i with
      | 0 => exact e0
      | 1 => exact e1
      | 2 => exact e2
      | 3 => exact e3
      | 4 => exact e4
      | 5 => exact e5
      | 6 => exact e6
      | 7 => exact hs
      | i + 8 => rw [List.getElem?_eq_none (by omega)]; rfl
    | _ => simp at hf
/-- A script that came in. -/
def IsScr (w : World) (a : Option Addr) (len cap : Nat) : Prop := ∃ ops adr, Scr w a len cap ops adr
theorem walk (a0 : Option Addr) (len cap : Nat) (w : World) (h : IsScr w a0 len cap) (hG : Z.Et w) :
    Calls Tryz.prog 4 #[.slice a0 len cap] w fun e w' => e = .returned (.bool true) ∧ Below w.heap.size w w' := by
  obtain ⟨ops, adr, h⟩ := h
  exact rings_any w a0 len cap ops adr h hG
theorem script_open {H : Type} {enc : TypeId × Value → H} {w : World} {base : Nat} {spare : Nat → Bool} {held : Bool} {fuel : Nat} {a0 : Option Addr} {len0 cap0 : Nat} {x : DataW H × List MemPlace}
    (h : DataW.trod enc Tryz.prog w base spare held fuel 22 [.slice a0 len0 cap0] = some x) : IsScr w a0 len0 cap0 := by
  rcases Go.Deep.open_slice Tryz.uOpsR h with ⟨hcs, _⟩ | ⟨a, len, cap, m, n, D, Pl, hcs, _, hl, hm, hmm, _, hel⟩
  · simp at hcs
    obtain ⟨rfl, rfl, rfl⟩ := hcs
    exact ⟨fun _ => ⟨0, 0, 0, 0, 0, 0, 0, ByteArray.empty⟩, fun _ => ⟨0, 0, none⟩, fun i W hi => absurd hi (by omega), fun i k v hi => absurd hi (by omega), fun i hi => absurd hi (by omega), Nat.zero_le _⟩
  · simp at hcs
    obtain ⟨rfl, rfl, rfl⟩ := hcs
    have hlm : len0 ≤ m := by rw [hmm]; split <;> omega
    have each : ∀ i, i < m → ∃ o : OpV, OpFine o ∧ ∀ k v, (opL o)[k]? = some v → w.cell? ((a.add (i * 8)).add k) = some v := fun i hi => by
      obtain ⟨cs', h1, h2⟩ := hel i hi
      rw [Tryz.cOp] at h1
      obtain ⟨_, hlen, hcell⟩ := World.cells?_some h1
      obtain ⟨o, ho, hc⟩ := open_op h2
      refine ⟨o, ho, fun k v hv => ?_⟩
      rw [← hc] at hv
      have hk : k < 8 := by
        rcases Nat.lt_or_ge k 8 with h8 | h8
        · exact h8
        · rw [List.getElem?_eq_none (by omega)] at hv; cases hv
      rw [hcell k hk]; exact hv
    haveI : Inhabited OpV := ⟨⟨0, 0, 0, 0, 0, 0, 0, ByteArray.empty⟩⟩
    obtain ⟨q, hq⟩ := Go.Deep.choose_lt each
    refine ⟨q, fun i => a.add (i * 8), fun i W hi => ?_, fun i k v hi hv => (hq i (by omega)).2 k v hv, fun i hi => (hq i (by omega)).1, by unfold maxLen at hm; omega⟩
    have hs : (sizeOf (Tryz.prog.elem 22)).run Tryz.prog W = .ok 8 W := by kernel_rfl
    rw [run_indexAt_slice W 22 a len0 cap0 .i64 i (by kernel_rfl), if_pos ⟨by omega, by omega⟩, hs]
    simp [Result.andThen]
set_option maxRecDepth 100000 in
theorem lifted (os : Os) (started : os.Started) (H : Type) (enc : TypeId × Value → H) :
    ReturnsInHanded {} Tryz.checked os 4 .any (fun w args => (Rows.ringsSpec.pre enc Tryz.prog Tryz.f4 [] false w args ∧ laidMetH Tryz.prog Rows.ringsRow.laid w) ∧ sizedMet enc Tryz.prog Tryz.f4 (OpenSpec.ofChange Rows.ringsSpec) false w args)
      (Rows.ringsSpec.post enc Tryz.prog Tryz.f4 false true false false) := by
  obtain ⟨w0, y1, y2, y3, y4, y5, y6⟩ := wit_all enc os
  refine returnsInHanded_of_change_and (C := Tryz.checked) (X := fun w _ => laidMetH Tryz.prog Rows.ringsRow.laid w) (fun _ _ _ hh h => h.of_heap hh) Tryz.own started (by kernel_rfl) Tryz.func4
    (ChangeSpec.witness_shaped (enc := enc) (C := Tryz.checked) (os := os) (X := fun w _ => laidMetH Tryz.prog Rows.ringsRow.laid w) false w0 #[.slice none 0 0] 8 y1 y2 y3 y4 y5 y6) ?_
  intro W base args ds gs before hval0 hW _ _ hL _
  have hval : ∀ (j : Nat) t v, Tryz.f4.params[j]? = some t → args[j]? = some v → Value.okWide Tryz.prog W .any base t v := hval0
  have hW' := hW
  obtain ⟨p, q, hA0, hV, rfl, hfz, hnd⟩ := hW
  have hA : DataW.TrodAll enc Tryz.prog W 0 (fun _ => true) true Tryz.f4.params.toList args.toList ds p := hA0
  rw [Tryz.params4] at hA hval
  obtain ⟨v0, vs0, d0, ds0, p0, q0, hargs, rfl, rfl, h0, r0⟩ := trodAll_cons hA
  obtain ⟨rfl, rfl, rfl⟩ := trodAll_nil r0
  obtain rfl : args = #[v0] := by cases args; simp_all
  obtain ⟨rfl, rfl⟩ := trodVars_none hV
  obtain ⟨a2, len2, cap2, rfl⟩ := okWide_slice Tryz.underlying22 (hval 0 22 v0 rfl rfl)
  have k2 := h0
  have lt2 : ∀ x ∈ p0, x.block < W.heap.size := by obtain ⟨m, hm⟩ := k2; exact DataW.trod_lt m _ _ _ hm
  have w2 : IsScr W a2 len2 cap2 := by
    obtain ⟨fuel, hf⟩ := h0
    exact script_open hf
  clear hA0 hval0
  refine (walk a2 len2 cap2 W w2 (of_laid hL)).mono fun e W' ⟨he, bel⟩ => ?_
  subst he
  exact ⟨_, rfl, _, _, _, [], _, [], hW', trodAll_mk1 (shut_bool Tryz.underlying4 _), (trodAll_cons_mk (Below.trod Tryz.laidOut (by kernel_rfl) (of_decide_eq_true (by kernel_rfl)) k2 bel lt2) trodAll_mk0), rfl, bel.frame _, fun h => by cases h⟩

theorem rings_inst : Tryz.f4.isInstance Tryz.pinned.checked.prog Rows.ringsRow.origin Rows.ringsRow.targs := of_decide_eq_true (by kernel_rfl)
theorem rings_wrap : Tryz.f4.isWrapper Tryz.pinned.checked.prog Rows.ringsRow.wrapper Rows.ringsRow.mainSum := by
  unfold Func.isWrapper
  first
    | (rw [if_pos (by decide +kernel)]; kernel_rfl)
    | (rw [if_neg (by decide +kernel)]; exact ⟨rfl, rfl⟩)
theorem rings_said : Rows.RingsSaid :=
  OpenClaim.holds_of_wide 4 Tryz.f4 rfl rfl rfl rfl rfl rfl rfl ⟨rfl, rfl, rfl, rfl, rfl⟩ rfl rfl rfl rfl rfl rings_named Tryz.func4 rings_cells
    rings_inst rings_wrap (fun os started H enc _ => lifted os started H enc)
end Go.Proofs.YtkijpphmiogbbaaGreatDoor
