import Derived.Test.YtkijpphmiogbbaaL1
import Derived.Laws.StructEq
namespace Go.Proofs.Ytkijpphmiogbbaa
open Go.RowKit

theorem run_part1 {P : Program} {e : TypeId} (k : IntKind) (L : Nat → Int) (i : Nat) (hi : i < 256) (W : World) (he : (P.underlying e).map (fun d => match d with | .struct _ | .array _ _ => true | _ => false) = some false) :
    (part e (polyA k L) i).run P W = .ok (.int k (L i)) W := by
  cases hd : P.underlying e with
  | none => simp [hd] at he
  | some d =>
    have hagg : (isAgg e).run P W = .ok false W := by
      unfold isAgg
      rw [Sem.run_bind, run_underlying hd W]
      cases d <;> simp_all
    have hp : (polyA k L)[i]? = some (.int k (L i)) := polyA_at k L i hi
    simp [part, Sem.run_bind, hagg, hp]
theorem run_eq_poly (d : Nat) (L : Nat → Int) (W : World) : (Op.equalIn (d + 2) 24 (.agg (polyA .i64 L)) (.agg (polyA .i64 L))).run Try.prog W = .ok true W := by
  have hu : Try.prog.underlying 3 = some (.int .i64) := by kernel_rfl
  have hs : (sizeOf 3).run Try.prog W = .ok 1 W := by kernel_rfl
  have hp : ∀ i, i < 256 → (part 3 (polyA .i64 L) (i * 1)).run Try.prog W = .ok (.int .i64 (L i)) W := fun i hi => by rw [Nat.mul_one]; exact run_part1 .i64 L i hi W (by kernel_rfl)
  have he : ∀ i, (Op.equalIn (d + 1) 3 (.int .i64 (L i)) (.int .i64 (L i))).run Try.prog W = .ok true W := fun i => by rw [run_equalIn_int W d 3 .i64 .i64 (L i) (L i) hu]; simp
  rw [Op.equalIn]
  simp only [Sem.run_bind, run_underlying Try.uP W, Result.andThen_ok, hs]
  simp only [Std.Legacy.Range.forIn_eq_forIn_range']
  have key : ∀ l : List Nat, (∀ i ∈ l, i < 256) → Sem.run Try.prog (forIn l ((none : Option Bool), ()) fun i (_ : Option Bool × Unit) => do
            let a ← part 3 (polyA IntKind.i64 L) (i * 1)
            let b ← part 3 (polyA IntKind.i64 L) (i * 1)
            let r ← Op.equalIn (d + 1) 3 a b
            if (!r) = true then pure (ForInStep.done (some false, ())) else pure (ForInStep.yield (none, ()))) W = .ok (none, ()) W := by
    intro l
    induction l with
    | nil => intro _; rfl
    | cons x l ih =>
      intro h
      have hx := h x (List.mem_cons_self ..)
      rw [List.forIn_cons]
      simp only [Sem.run_bind, hp x hx, Result.andThen_ok, he x, Bool.not_true, Bool.false_eq_true, if_false, Sem.run_pure]
      exact ih (fun i hi => h i (List.mem_cons_of_mem _ hi))
  rw [key (List.range' 0 [:256].size) (fun i hi => by
    have := List.mem_range'_1.1 hi
    have e : [:256].size = 256 := rfl
    omega)]
  simp
/-- One and the same polynomial is equal to itself. -/
theorem neq_poly (L : Nat → Int) (W : World) : (binOp .neq 24 (.agg (polyA .i64 L)) (.agg (polyA .i64 L))).run Try.prog W = .ok (.bool false) W := by
  rw [run_neq_struct, run_eq_poly 9998 L W]; rfl
theorem eql_poly (L : Nat → Int) (W : World) : (binOp .eql 24 (.agg (polyA .i64 L)) (.agg (polyA .i64 L))).run Try.prog W = .ok (.bool true) W := by
  rw [run_eql_struct, run_eq_poly 9998 L W]; rfl
theorem Try.guardP : Try.prog.eqGuardType Try.prog.depth 24 = false := by kernel_rfl
section
variable {ops : Array Oper} {rest : List Oper} {o : Oper} {a : Act} {w : World} {Q : Exit → Act → World → Prop}
theorem wpG_load {P : Program} (hw : Region.wanted o (yielded ops a.tmps) = true) (k : IntKind) (ty : TypeId) (x : Operand) (ho : o.op = .load ty x) (b f : Nat) (hx : a.eval x = .pointer (some ⟨b, f, none⟩)) (L : Nat → Int) (hr : PRow k w b f L)
    (hu : ∃ e, P.underlying ty = some (.array 256 e)) (hi : (P.info? ty).map (·.size) = some 256)
    (h : wpList P ops Q rest (a.put o.dst (.agg (polyA k L))) w) : wpList P ops Q (o :: rest) a w := by
  unfold wpList
  rw [if_pos hw]
  exact Or.inl (wpO_load k ty x ho b f hx L hr hu hi h)
theorem wpG_neq (hw : Region.wanted o (yielded ops a.tmps) = true) (x y : Operand) (t : TypeId) (ho : o.op = .binOp .neq 24 x y t) (L : Nat → Int) (hx : a.eval x = .agg (polyA .i64 L)) (hy : a.eval y = .agg (polyA .i64 L))
    (h : wpList Try.prog ops Q rest (a.put o.dst (.bool false)) w) : wpList Try.prog ops Q (o :: rest) a w := by
  unfold wpList
  rw [if_pos hw]
  left
  unfold Oper.wp execOp
  simp only [ho, hx, hy, Sem.run_bind, run_eqGuard_agg w .neq 24 x y _ _ Try.guardP, neq_poly, Result.andThen_ok]
  exact h
theorem wpG_eql (hw : Region.wanted o (yielded ops a.tmps) = true) (x y : Operand) (t : TypeId) (ho : o.op = .binOp .eql 24 x y t) (L : Nat → Int) (hx : a.eval x = .agg (polyA .i64 L)) (hy : a.eval y = .agg (polyA .i64 L))
    (h : wpList Try.prog ops Q rest (a.put o.dst (.bool true)) w) : wpList Try.prog ops Q (o :: rest) a w := by
  unfold wpList
  rw [if_pos hw]
  left
  unfold Oper.wp execOp
  simp only [ho, hx, hy, Sem.run_bind, run_eqGuard_agg w .eql 24 x y _ _ Try.guardP, eql_poly, Result.andThen_ok]
  exact h
end
end Go.Proofs.Ytkijpphmiogbbaa
