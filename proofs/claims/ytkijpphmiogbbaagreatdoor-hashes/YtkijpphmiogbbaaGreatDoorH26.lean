import Derived.Test.YtkijpphmiogbbaaGreatDoorProg
import Derived.WalkKit
import Derived.LaidEql
import Derived.Stop.Asserts
import Derived.RowKitTokens
namespace Go.Proofs.YtkijpphmiogbbaaGreatDoor
open Go.RowKit Go.Extern.Stop Go.Stop Go.Extern

theorem Tryz.valueOf49 (t : Addr) (w : World) : (ReflectliteValue.unpack (.iface 228 (.pointer (some t)))).run Tryz.prog w
    = .ok (.agg #[.pointer (some ⟨7, 228, none⟩), .pointer (some ⟨w.heap.size, 0, none⟩), .int .u64 150]) (w.alloc (.cells #[.pointer (some t)] 228)) := by kernel_rfl
theorem Tryz.type49 (a : Addr) (w : World) : (ReflectliteValue.methodAny (ReflectliteValue.valueError "reflectlite.Value.Type" 0) (fun t _ _ _ => ReflectliteType.toType t) #[.agg #[.pointer (some ⟨7, 228, none⟩), .pointer (some a), .int .u64 150]]).run Tryz.prog w
    = .ok (.iface 370 (.agg #[.pointer (some ⟨7, 228, none⟩)])) w := by kernel_rfl
theorem Tryz.methodKind (h : Value) (w : World) : (Go.method 583 370 (.agg #[h]) "Kind").run Tryz.prog w = .ok (424, h) w := by kernel_rfl
theorem Tryz.kind49 (w : World) : ((ReflectliteType.abiMethod fun t => (fun a : Nat => Value.int IntKind.u8 (a : Int)) <$> Rtype.kind t) #[.pointer (some ⟨7, 228, none⟩)]).run Tryz.prog w = .ok (.int .u8 22) w := by kernel_rfl
theorem Tryz.kind32 (w : World) : ((ReflectliteType.abiMethod fun t => (fun a : Nat => Value.int IntKind.u8 (a : Int)) <$> Rtype.kind t) #[.pointer (some ⟨7, 138, none⟩)]).run Tryz.prog w = .ok (.int .u8 2) w := by kernel_rfl
theorem rl_method (z : Sem Value) (f : TypeId → Addr → Nat → Nat → Sem Value) (v : Value) (w : World) (t : TypeId) (a : Addr) (fl : Nat) (h : (ReflectliteValue.parts v).run Tryz.prog w = .ok (some (t, a, fl)) w) :
    (ReflectliteValue.method z f #[v]).run Tryz.prog w = (f t a fl (fl % 32)).run Tryz.prog w := by
  have e : ∀ (g : Value → Sem Value) (h : Array Value → Sem Value), ReflectliteValue.method.match_2 (fun _ => Sem Value) #[v] g h = g v := fun _ _ => rfl
  delta ReflectliteValue.method
  rw [e]
  simp only [Sem.run_bind, h, Result.andThen]
theorem Tryz.parts49 (a : Addr) (w : World) : (ReflectliteValue.parts (.agg #[.pointer (some ⟨7, 228, none⟩), .pointer (some a), .int .u64 150])).run Tryz.prog w = .ok (some (228, a, 150)) w := by kernel_rfl
theorem Tryz.isNil49 (a p : Addr) (W : World) (ha : W.cell? a = some (.pointer (some p))) :
    (ReflectliteValue.method (ReflectliteValue.valueError "reflectlite.Value.IsNil" 0) ReflectliteValue.isNil #[.agg #[.pointer (some ⟨7, 228, none⟩), .pointer (some a), .int .u64 150]]).run Tryz.prog W = .ok (.bool false) W := by
  rw [rl_method _ _ _ _ _ _ _ (Tryz.parts49 a W)]
  simp [ReflectliteValue.isNil, loadVar, isAgg, underlying, Tryz.underlying228, ha, Result.andThen]
theorem Tryz.methodElem (h : Value) (w : World) : (Go.method 583 370 (.agg #[h]) "Elem").run Tryz.prog w = .ok (437, .agg #[h]) w := by kernel_rfl
theorem Tryz.methodImplements (h : Value) (w : World) : (Go.method 583 370 (.agg #[h]) "Implements").run Tryz.prog w = .ok (438, .agg #[h]) w := by kernel_rfl
theorem Tryz.methodAssignableTo (h : Value) (w : World) : (Go.method 583 370 (.agg #[h]) "AssignableTo").run Tryz.prog w = .ok (435, .agg #[h]) w := by kernel_rfl
theorem Tryz.elem49 (w : World) : (ReflectliteType.method ReflectliteType.elem #[.agg #[.pointer (some ⟨7, 228, none⟩)]]).run Tryz.prog w = .ok (.iface 370 (.agg #[.pointer (some ⟨7, 138, none⟩)])) w := by kernel_rfl
theorem Tryz.implements32 (w : World) : (ReflectliteType.relation "Implements" ReflectliteType.implements_ #[.agg #[.pointer (some ⟨7, 138, none⟩)], .iface 370 (.agg #[.pointer (some ⟨7, 73, none⟩)])]).run Tryz.prog w = .ok (.bool true) w := by kernel_rfl
theorem Tryz.typeOf32 (v : Value) (w : World) : (ReflectliteType.typeOf #[.iface 138 v]).run Tryz.prog w = .ok (.iface 370 (.agg #[.pointer (some ⟨7, 138, none⟩)])) w := by kernel_rfl
theorem Tryz.assignable32 (w : World) : (ReflectliteType.relation "AssignableTo" ReflectliteType.assignableTo #[.agg #[.pointer (some ⟨7, 138, none⟩)], .iface 370 (.agg #[.pointer (some ⟨7, 138, none⟩)])]).run Tryz.prog w = .ok (.bool true) w := by kernel_rfl
theorem Tryz.valueOf32 (e : Int) (w : World) : (ReflectliteValue.unpack (.iface 138 (.int .i64 e))).run Tryz.prog w
    = .ok (.agg #[.pointer (some ⟨7, 138, none⟩), .pointer (some ⟨w.heap.size, 0, none⟩), .int .u64 130]) (w.alloc (.cells #[.int .i64 e] 138)) := by kernel_rfl
theorem Tryz.elemOf49 (w : World) : (Rtype.elem? 228).run Tryz.prog w = .ok (some 138) w := by kernel_rfl
theorem Tryz.mk32 (p : Addr) (w : World) : (ReflectliteValue.mk 138 p ReflectliteValue.flagAddr).run Tryz.prog w = .ok (.agg #[.pointer (some ⟨7, 138, none⟩), .pointer (some p), .int .u64 386]) w := by kernel_rfl
theorem Tryz.elemV49 (a p : Addr) (W : World) (ha : W.cell? a = some (.pointer (some p))) :
    (ReflectliteValue.method (ReflectliteValue.valueError "reflectlite.Value.Elem" 0) ReflectliteValue.elem #[.agg #[.pointer (some ⟨7, 228, none⟩), .pointer (some a), .int .u64 150]]).run Tryz.prog W
      = .ok (.agg #[.pointer (some ⟨7, 138, none⟩), .pointer (some p), .int .u64 386]) W := by
  rw [rl_method _ _ _ _ _ _ _ (Tryz.parts49 a W)]
  simp [ReflectliteValue.elem, loadVar, isAgg, underlying, Tryz.underlying228, ha, Result.andThen, Tryz.elemOf49, Tryz.mk32]
theorem Tryz.parts32a (a : Addr) (w : World) : (ReflectliteValue.parts (.agg #[.pointer (some ⟨7, 138, none⟩), .pointer (some a), .int .u64 386])).run Tryz.prog w = .ok (some (138, a, 386)) w := by kernel_rfl
theorem Tryz.parts32 (a : Addr) (w : World) : (ReflectliteValue.parts (.agg #[.pointer (some ⟨7, 138, none⟩), .pointer (some a), .int .u64 130])).run Tryz.prog w = .ok (some (138, a, 130)) w := by kernel_rfl
theorem Tryz.direct32 (w : World) : (Rtype.directlyAssignable 138 138).run Tryz.prog w = .ok true w := by kernel_rfl
theorem Tryz.set32 (ta b : Addr) (e : Int) (old : Value) (W : World) (hb : W.cell? b = some (.int .i64 e)) (ht : W.cell? ta = some old) (hf : W.frozen? ta = false) :
    (ReflectliteValue.set #[.agg #[.pointer (some ⟨7, 138, none⟩), .pointer (some ta), .int .u64 386], .agg #[.pointer (some ⟨7, 138, none⟩), .pointer (some b), .int .u64 130]]).run Tryz.prog W
      = .ok (.tuple #[]) (W.setCell ta (.int .i64 e)) := by
  have e9 : ∀ (v x : Value) (g : Value → Value → Sem Value) (h : Array Value → Sem Value), ReflectliteValue.set.match_3 (fun _ => Sem Value) #[v, x] g h = g v x := fun _ _ _ _ => rfl
  delta ReflectliteValue.set
  rw [e9]
  simp only [Sem.run_bind, Tryz.parts32a, Tryz.parts32, Result.andThen]
  simp [ReflectliteValue.flagAddr, loadVar, isAgg, underlying, Tryz.underlying138, hb, Result.andThen, Tryz.direct32, storeVar, Value.cells, storeCells, Addr.add]
  rw [run_store Tryz.prog W ta _ _ (by rfl)]
  simp [ht, hf]

set_option maxHeartbeats 4000000 in
theorem as_hit (e : Int) (t : Addr) (old : Value) (w : World) (hg : w.cell? ⟨0, 0, none⟩ = some (.iface 370 (.agg #[.pointer (some ⟨7, 73, none⟩)]))) (ht0 : w.cell? t = some old) (hf0 : w.frozen? t = false) :
    Calls Tryz.prog 183 #[.iface 138 (.int .i64 e), .iface 228 (.pointer (some t))] w fun ev w' => ev = .returned (.bool true) ∧ w' = ((((w.alloc (.cells #[.pointer (some t)] 228)).alloc (.cells #[.pointer (some ⟨7, 228, none⟩), .pointer (some ⟨w.heap.size, 0, none⟩), .int .u64 150] 308)).alloc (.cells #[.pointer (some ⟨7, 228, none⟩), .pointer (some ⟨w.heap.size, 0, none⟩), .int .u64 150] 308)).alloc (.cells #[.int .i64 e] 138)).setCell t (.int .i64 e) := by
  have h6 := @run_callFunc_extern Tryz.prog 269 _ (fun args => ReflectliteValue.unpack (args.getD 0 (.tuple #[]))) Tryz.func269 (by kernel_rfl) (by kernel_rfl) (by kernel_rfl) (by kernel_rfl)
  have h7 := @run_callFunc_extern Tryz.prog 270 _ (ReflectliteValue.methodAny (ReflectliteValue.valueError "reflectlite.Value.Type" 0) (fun t _ _ _ => ReflectliteType.toType t)) Tryz.func270 (by kernel_rfl) (by kernel_rfl) (by kernel_rfl) (by kernel_rfl)
  have h8 := @run_callFunc_extern Tryz.prog 271 _ (ReflectliteValue.method (ReflectliteValue.valueError "reflectlite.Value.IsNil" 0) ReflectliteValue.isNil) Tryz.func271 (by kernel_rfl) (by kernel_rfl) (by kernel_rfl) (by kernel_rfl)
  have h27 := @run_callFunc_extern Tryz.prog 424 _ (ReflectliteType.abiMethod fun t => do pure (.int .u8 (← Rtype.kind t))) Tryz.func424 (by kernel_rfl) (by kernel_rfl) (by kernel_rfl) (by kernel_rfl)
  have h37 := @run_callFunc_extern Tryz.prog 437 _ (ReflectliteType.method ReflectliteType.elem) Tryz.func437 (by kernel_rfl) (by kernel_rfl) (by kernel_rfl) (by kernel_rfl)
  have h38 := @run_callFunc_extern Tryz.prog 438 _ (ReflectliteType.relation "Implements" ReflectliteType.implements_) Tryz.func438 (by kernel_rfl) (by kernel_rfl) (by kernel_rfl) (by kernel_rfl)
  have h10 := @run_callFunc_extern Tryz.prog 335 _ ReflectliteType.typeOf Tryz.func335 (by kernel_rfl) (by kernel_rfl) (by kernel_rfl) (by kernel_rfl)
  have h35 := @run_callFunc_extern Tryz.prog 435 _ (ReflectliteType.relation "AssignableTo" ReflectliteType.assignableTo) Tryz.func435 (by kernel_rfl) (by kernel_rfl) (by kernel_rfl) (by kernel_rfl)
  have h11 := @run_callFunc_extern Tryz.prog 336 _ (ReflectliteValue.method (ReflectliteValue.valueError "reflectlite.Value.Elem" 0) ReflectliteValue.elem) Tryz.func336 (by kernel_rfl) (by kernel_rfl) (by kernel_rfl) (by kernel_rfl)
  have h12 := @run_callFunc_extern Tryz.prog 337 _ ReflectliteValue.set Tryz.func337 (by kernel_rfl) (by kernel_rfl) (by kernel_rfl) (by kernel_rfl)
  have tO := Tryz.typeOf32
  have mA := Tryz.methodAssignableTo
  have a25 := Tryz.assignable32
  have v25 := Tryz.valueOf32
  have f6 := Tryz.valueOf49
  have f7 := Tryz.type49
  have mK := Tryz.methodKind
  have mE := Tryz.methodElem
  have mI := Tryz.methodImplements
  have k27 := Tryz.kind49
  have k25 := Tryz.kind32
  have e27 := Tryz.elem49
  have i25 := Tryz.implements32
  have n8 := Tryz.isNil49 ⟨w.heap.size, 0, none⟩ t ((w.alloc (.cells #[.pointer (some t)] 228)).alloc (.cells #[.pointer (some ⟨7, 228, none⟩), .pointer (some ⟨w.heap.size, 0, none⟩), .int .u64 150] 308)) (by simp)
  have hlt : 0 < w.heap.size := by
    rcases Nat.eq_zero_or_pos w.heap.size with h0 | h
    · simp [World.cell?, h0] at hg
    · exact h
  have hg2 : ((w.alloc (.cells #[.pointer (some t)] 228)).alloc (.cells #[.pointer (some ⟨7, 228, none⟩), .pointer (some ⟨w.heap.size, 0, none⟩), .int .u64 150] 308)).cell? ⟨0, 0, none⟩ = some (.iface 370 (.agg #[.pointer (some ⟨7, 73, none⟩)])) := by
    rw [World.cell?_alloc_lt _ _ ⟨0, 0, none⟩ (by simp), World.cell?_alloc_lt _ _ ⟨0, 0, none⟩ hlt]; exact hg
  have htl : t.block < w.heap.size := by
    rcases Nat.lt_or_ge t.block w.heap.size with h | h
    · exact h
    · simp [World.cell?, Array.getElem?_eq_none h] at ht0
  have el := Tryz.elemV49 ⟨w.heap.size, 0, none⟩ t (((w.alloc (.cells #[.pointer (some t)] 228)).alloc (.cells #[.pointer (some ⟨7, 228, none⟩), .pointer (some ⟨w.heap.size, 0, none⟩), .int .u64 150] 308)).alloc (.cells #[.pointer (some ⟨7, 228, none⟩), .pointer (some ⟨w.heap.size, 0, none⟩), .int .u64 150] 308)) (by rw [World.cell?_alloc_lt _ _ ⟨w.heap.size, 0, none⟩ (by simp; omega)]; simp)
  have st := Tryz.set32 t ⟨w.heap.size + 1 + 1 + 1, 0, none⟩ e old ((((w.alloc (.cells #[.pointer (some t)] 228)).alloc (.cells #[.pointer (some ⟨7, 228, none⟩), .pointer (some ⟨w.heap.size, 0, none⟩), .int .u64 150] 308)).alloc (.cells #[.pointer (some ⟨7, 228, none⟩), .pointer (some ⟨w.heap.size, 0, none⟩), .int .u64 150] 308)).alloc (.cells #[.int .i64 e] 138))
    (by rw [World.cell?_alloc_at _ _ _ _ (by simp)]; rfl)
    (by rw [World.cell?_alloc_lt _ _ t (by simp; omega), World.cell?_alloc_lt _ _ t (by simp; omega), World.cell?_alloc_lt _ _ t (by simp; omega), World.cell?_alloc_lt _ _ t htl]; exact ht0)
    (by rw [World.frozen?_alloc_old _ _ t (by simp; omega), World.frozen?_alloc_old _ _ t (by simp; omega), World.frozen?_alloc_old _ _ t (by simp; omega), World.frozen?_alloc_old _ _ t (Nat.ne_of_lt htl)]; exact hf0)
  go_enter Tryz.func183, Tryz.ntmps183
  go_wp2
  refine wp_loop_rounds 1 ?_
  rw [rounds_succ]
  go_wp2
  go_ret
  exact ⟨rfl, rfl⟩
end Go.Proofs.YtkijpphmiogbbaaGreatDoor
