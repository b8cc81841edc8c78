import Derived.Test.YtkijpphmiogbbaaL0
namespace Go.Proofs.Ytkijpphmiogbbaa
open Go.RowKit
attribute [local go_sem ↓] Go.wp_at_zero Go.wp_at_succ

theorem Try.uP : Try.prog.underlying 24 = some (.array 256 3) := by kernel_rfl
theorem Try.sP : (Try.prog.info? 24).map (·.size) = some 256 := by kernel_rfl
theorem Try.zP : (Try.prog.info? 24).map (·.zero) = some (some (.agg (polyA .i64 (fun _ => 0)))) := by kernel_rfl

theorem Try.z24 : Try.zeroCells24 = polyA .i64 (fun _ => 0) := by kernel_rfl
theorem run_loadRow {P : Program} (k : IntKind) (w : World) (ty : TypeId) (b f : Nat) (L : Nat → Int) (hr : PRow k w b f L)
    (hu : ∃ e, P.underlying ty = some (.array 256 e)) (hi : (P.info? ty).map (·.size) = some 256) :
    (loadVar ty ⟨b, f, none⟩).run P w = .ok (.agg (polyA k L)) w := by
  obtain ⟨_, hu⟩ := hu; exact run_loadVar_mid w b f ty (polyL k L) _ hr.range hu rfl (by rw [polyL_len]; exact hi)
theorem run_index_poly {P : Program} {ty e : TypeId} (k : IntKind) (L : Nat → Int) (i : Nat) (hi : i < 256) (W : World) (hu : P.underlying ty = some (.array 256 e)) (hs : (P.info? e).map (·.size) = some 1) (he : (P.underlying e).map (fun d => match d with | .struct _ | .array _ _ => true | _ => false) = some false) :
    (Instr.index ty (.agg (polyA k L)) (.int .i64 (i : Int))).run P W = .ok (.int k (L i)) W := by
  have h0 : (0 : Int) ≤ (i : Int) ∧ (i : Int) < ((256 : Nat) : Int) := by omega
  cases hq : P.info? e with
  | none => simp [hq] at hs
  | some f =>
    have hs' : f.size = 1 := by simpa [hq] using hs
    cases hd : P.underlying e with
    | none => simp [hd] at he
    | some d =>
      have hagg : (isAgg e).run P W = .ok false W := by
        unfold isAgg
        rw [Sem.run_bind, run_underlying hd W]
        cases d <;> simp_all
      have hp : (polyA k L)[i]? = some (.int k (L i)) := polyA_at k L i hi
      unfold Instr.index
      simp [Sem.run_bind, asIntOf, run_underlying hu W, h0, sizeOf, typeInfo, hq, hs', part, hagg, hp]
      intro h; omega
theorem ixP (L : Nat → Int) (i : Nat) (hi : i < 256) (W : World) : (Instr.index 24 (.agg (polyA .i64 L)) (.int .i64 (i : Int))).run Try.prog W = .ok (.int .i64 (L i)) W :=
  run_index_poly (e := 3) .i64 L i hi W Try.uP (by kernel_rfl) (by kernel_rfl)
theorem res1 {P : Program} {fn : Func} {p : Tmp} {ty : TypeId} (h : fn.results = #[.cell p ty]) (k : IntKind) (tmps : Array Value) (w : World) (g : Nat) (L : Nat → Int)
    (hp : tmps.getD p undef = .pointer (some ⟨g, 0, none⟩)) (hr : PRow k w g 0 L)
    (hu : ∃ e, P.underlying ty = some (.array 256 e)) (hi : (P.info? ty).map (·.size) = some 256) :
    (results fn tmps).run P w = .ok (.agg (polyA k L)) w := by
  have hp' : tmps[p]?.getD undef = .pointer (some ⟨g, 0, none⟩) := by simpa using hp
  simp [results, h, hp', asAddr, run_loadRow k w ty g 0 L hr hu hi]
theorem res2 {P : Program} {fn : Func} {p s : Tmp} {ty : TypeId} (h : fn.results = #[.cell p ty, .tmp s]) (k : IntKind) (tmps : Array Value) (w : World) (g : Nat) (L : Nat → Int) (v : Value)
    (hp : tmps.getD p undef = .pointer (some ⟨g, 0, none⟩)) (hs : tmps.getD s undef = v) (hr : PRow k w g 0 L)
    (hu : ∃ e, P.underlying ty = some (.array 256 e)) (hi : (P.info? ty).map (·.size) = some 256) :
    (results fn tmps).run P w = .ok (.tuple #[.agg (polyA k L), v]) w := by
  have hp' : tmps[p]?.getD undef = .pointer (some ⟨g, 0, none⟩) := by simpa using hp
  have hs' : tmps[s]?.getD undef = v := by simpa using hs
  simp [results, h, hp', hs', asAddr, run_loadRow k w ty g 0 L hr hu hi]

theorem mix_step (M L : Nat → Int) (k : Nat) (j : Nat) : upd (fun j => if j < k then M j else L j) k (M k) j = if j < k + 1 then M j else L j := by
  unfold upd
  by_cases e : j = k
  · subst e; simp
  · simp only [if_neg e]
    by_cases h : j < k
    · rw [if_pos h, if_pos (by omega)]
    · rw [if_neg h, if_neg (by omega)]
end Go.Proofs.Ytkijpphmiogbbaa
