import Derived.Test.YtkijpphmiogbbaaGreatDoorM08
import Derived.Test.YtkijpphmiogbbaaGreatDoorProg
import Derived.WalkKit
import Derived.LaidEql
import Derived.Stop.Asserts
import Derived.RowKitTokens
import Derived.Test.YtkijpphmiogbbaaGreatDoorM01
namespace Go.Proofs.YtkijpphmiogbbaaGreatDoor.Z
open Go.RowKit
attribute [local go_sem ↓] Go.wp_at_zero Go.wp_at_succ

set_option maxHeartbeats 2000000 in
theorem bounded_set (how : Int) (h0 : how ≤ 2) (d : Int) (h1 : (d != 3329) = true) (h2 : (d != 8380417) = true) (w : World) :
    Calls Tryz.prog 51 #[.int .i64 how, .int .i64 d] w fun e w' => e = .returned (.tuple #[.int .i64 1, .int .i64 0]) ∧ w' = w := by
  go_enter Tryz.func51, Tryz.ntmps51
  go_wp2
  go_ret2
  exact ⟨rfl, rfl⟩
set_option maxHeartbeats 2000000 in
theorem bounded_16 (how : Int) (h0 : how ≤ 2) (w : World) :
    Calls Tryz.prog 51 #[.int .i64 how, .int .i64 3329] w fun e w' => e = .returned (.tuple #[.int .i64 0, .int .i64 3329]) ∧ w' = w := by
  go_enter Tryz.func51, Tryz.ntmps51
  go_wp2
  go_ret2
  exact ⟨rfl, rfl⟩
set_option maxHeartbeats 2000000 in
theorem bounded_32 (how : Int) (h0 : how ≤ 2) (w : World) :
    Calls Tryz.prog 51 #[.int .i64 how, .int .i64 8380417] w fun e w' => e = .returned (.tuple #[.int .i64 0, .int .i64 8380417]) ∧ w' = w := by
  go_enter Tryz.func51, Tryz.ntmps51
  go_wp2
  go_ret2
  exact ⟨rfl, rfl⟩
set_option maxHeartbeats 2000000 in
theorem bounded_low (how : Int) (h0 : 2 < how) (d : Int) (h1 : d < 1) (w : World) :
    Calls Tryz.prog 51 #[.int .i64 how, .int .i64 d] w fun e w' => e = .returned (.tuple #[.int .i64 1, .int .i64 0]) ∧ w' = w := by
  go_enter Tryz.func51, Tryz.ntmps51
  go_wp2
  go_ret2
  exact ⟨rfl, rfl⟩
set_option maxHeartbeats 2000000 in
theorem bounded_high (how : Int) (h0 : 2 < how) (d : Int) (h1 : 11 < d) (w : World) :
    Calls Tryz.prog 51 #[.int .i64 how, .int .i64 d] w fun e w' => e = .returned (.tuple #[.int .i64 1, .int .i64 0]) ∧ w' = w := by
  have h2 : ¬ d < 1 := by omega
  go_enter Tryz.func51, Tryz.ntmps51
  go_wp2
  go_ret2
  exact ⟨rfl, rfl⟩
set_option maxHeartbeats 2000000 in
theorem bounded_c (d : Int) (h1 : 1 ≤ d) (h2 : d ≤ 11) (w : World) :
    Calls Tryz.prog 51 #[.int .i64 3, .int .i64 d] w fun e w' => e = .returned (.tuple #[.int .i64 0, .int .i64 3329]) ∧ w' = w := by
  go_enter Tryz.func51, Tryz.ntmps51
  go_wp2
  go_ret2
  exact ⟨rfl, rfl⟩
theorem pow_11 (d : Nat) (h : d ≤ 11) : wrap64 (2 ^ d) = 2 ^ d := by
  have h1 : (2 : Nat) ^ d ≤ 2 ^ 11 := Nat.pow_le_pow_right (by omega) h
  have e : (2 : Int) ^ d = ((2 ^ d : Nat) : Int) := by rw [Int.natCast_pow]; rfl
  rw [e]
  generalize (2 : Nat) ^ d = x at *
  exact wrap_id _ (by omega) (by omega)
set_option maxHeartbeats 2000000 in
theorem bounded_d (d : Nat) (h1 : 1 ≤ d) (h2 : d ≤ 11) (w : World) :
    Calls Tryz.prog 51 #[.int .i64 4, .int .i64 d] w fun e w' => e = .returned (.tuple #[.int .i64 0, .int .i64 (2 ^ d)]) ∧ w.grownBy w' none := by
  have d0 : (0 : Int) ≤ (d : Int) := Int.natCast_nonneg d
  have d1 : (1 : Int) ≤ (d : Int) := by omega
  have d2 : (d : Int) ≤ 11 := by omega
  have e1 := pow_11 d h2
  have gd := grown_drew (World.grownBy.refl w none)
  go_enter Tryz.func51, Tryz.ntmps51
  go_wp2
  go_region
  go_wp2
  go_ret2
  rw [e1]
  exact ⟨rfl, gd⟩
end Go.Proofs.YtkijpphmiogbbaaGreatDoor.Z

namespace Go.Proofs.YtkijpphmiogbbaaGreatDoor
open Go.RowKit Go.Extern.Stop Go.Stop Go.Extern

theorem Tryz.valueOf49 (t : Addr) (w : World) : (ReflectliteValue.unpack (.iface 228 (.pointer (some t)))).run Tryz.prog w
    = .ok (.agg #[.pointer (some ⟨7, 228, none⟩), .pointer (some ⟨w.heap.size, 0, none⟩), .int .u64 150]) (w.alloc (.cells #[.pointer (some t)] 228)) := by kernel_rfl
theorem Tryz.type49 (a : Addr) (w : World) : (ReflectliteValue.methodAny (ReflectliteValue.valueError "reflectlite.Value.Type" 0) (fun t _ _ _ => ReflectliteType.toType t) #[.agg #[.pointer (some ⟨7, 228, none⟩), .pointer (some a), .int .u64 150]]).run Tryz.prog w
    = .ok (.iface 370 (.agg #[.pointer (some ⟨7, 228, none⟩)])) w := by kernel_rfl
theorem Tryz.methodKind (h : Value) (w : World) : (Go.method 583 370 (.agg #[h]) "Kind").run Tryz.prog w = .ok (424, h) w := by kernel_rfl
theorem Tryz.kind49 (w : World) : ((ReflectliteType.abiMethod fun t => (fun a : Nat => Value.int IntKind.u8 (a : Int)) <$> Rtype.kind t) #[.pointer (some ⟨7, 228, none⟩)]).run Tryz.prog w = .ok (.int .u8 22) w := by kernel_rfl
theorem Tryz.kind32 (w : World) : ((ReflectliteType.abiMethod fun t => (fun a : Nat => Value.int IntKind.u8 (a : Int)) <$> Rtype.kind t) #[.pointer (some ⟨7, 138, none⟩)]).run Tryz.prog w = .ok (.int .u8 2) w := by kernel_rfl
theorem rl_method (z : Sem Value) (f : TypeId → Addr → Nat → Nat → Sem Value) (v : Value) (w : World) (t : TypeId) (a : Addr) (fl : Nat) (h : (ReflectliteValue.parts v).run Tryz.prog w = .ok (some (t, a, fl)) w) :
    (ReflectliteValue.method z f #[v]).run Tryz.prog w = (f t a fl (fl % 32)).run Tryz.prog w := by
  have e : ∀ (g : Value → Sem Value) (h : Array Value → Sem Value), ReflectliteValue.method.match_2 (fun _ => Sem Value) #[v] g h = g v := fun _ _ => rfl
  delta ReflectliteValue.method
  rw [e]
  simp only [Sem.run_bind, h, Result.andThen]
theorem Tryz.parts49 (a : Addr) (w : World) : (ReflectliteValue.parts (.agg #[.pointer (some ⟨7, 228, none⟩), .pointer (some a), .int .u64 150])).run Tryz.prog w = .ok (some (228, a, 150)) w := by kernel_rfl
theorem Tryz.isNil49 (a p : Addr) (W : World) (ha : W.cell? a = some (.pointer (some p))) :
    (ReflectliteValue.method (ReflectliteValue.valueError "reflectlite.Value.IsNil" 0) ReflectliteValue.isNil #[.agg #[.pointer (some ⟨7, 228, none⟩), .pointer (some a), .int .u64 150]]).run Tryz.prog W = .ok (.bool false) W := by
  rw [rl_method _ _ _ _ _ _ _ (Tryz.parts49 a W)]
  simp [ReflectliteValue.isNil, loadVar, isAgg, underlying, Tryz.underlying228, ha, Result.andThen]
theorem Tryz.methodElem (h : Value) (w : World) : (Go.method 583 370 (.agg #[h]) "Elem").run Tryz.prog w = .ok (437, .agg #[h]) w := by kernel_rfl
theorem Tryz.methodImplements (h : Value) (w : World) : (Go.method 583 370 (.agg #[h]) "Implements").run Tryz.prog w = .ok (438, .agg #[h]) w := by kernel_rfl
theorem Tryz.methodAssignableTo (h : Value) (w : World) : (Go.method 583 370 (.agg #[h]) "AssignableTo").run Tryz.prog w = .ok (435, .agg #[h]) w := by kernel_rfl
theorem Tryz.elem49 (w : World) : (ReflectliteType.method ReflectliteType.elem #[.agg #[.pointer (some ⟨7, 228, none⟩)]]).run Tryz.prog w = .ok (.iface 370 (.agg #[.pointer (some ⟨7, 138, none⟩)])) w := by kernel_rfl
theorem Tryz.implements32 (w : World) : (ReflectliteType.relation "Implements" ReflectliteType.implements_ #[.agg #[.pointer (some ⟨7, 138, none⟩)], .iface 370 (.agg #[.pointer (some ⟨7, 73, none⟩)])]).run Tryz.prog w = .ok (.bool true) w := by kernel_rfl
theorem Tryz.typeOf32 (v : Value) (w : World) : (ReflectliteType.typeOf #[.iface 138 v]).run Tryz.prog w = .ok (.iface 370 (.agg #[.pointer (some ⟨7, 138, none⟩)])) w := by kernel_rfl
theorem Tryz.assignable32 (w : World) : (ReflectliteType.relation "AssignableTo" ReflectliteType.assignableTo #[.agg #[.pointer (some ⟨7, 138, none⟩)], .iface 370 (.agg #[.pointer (some ⟨7, 138, none⟩)])]).run Tryz.prog w = .ok (.bool true) w := by kernel_rfl
theorem Tryz.valueOf32 (e : Int) (w : World) : (ReflectliteValue.unpack (.iface 138 (.int .i64 e))).run Tryz.prog w
    = .ok (.agg #[.pointer (some ⟨7, 138, none⟩), .pointer (some ⟨w.heap.size, 0, none⟩), .int .u64 130]) (w.alloc (.cells #[.int .i64 e] 138)) := by kernel_rfl
theorem Tryz.elemOf49 (w : World) : (Rtype.elem? 228).run Tryz.prog w = .ok (some 138) w := by kernel_rfl
theorem Tryz.mk32 (p : Addr) (w : World) : (ReflectliteValue.mk 138 p ReflectliteValue.flagAddr).run Tryz.prog w = .ok (.agg #[.pointer (some ⟨7, 138, none⟩), .pointer (some p), .int .u64 386]) w := by kernel_rfl
theorem Tryz.elemV49 (a p : Addr) (W : World) (ha : W.cell? a = some (.pointer (some p))) :
    (ReflectliteValue.method (ReflectliteValue.valueError "reflectlite.Value.Elem" 0) ReflectliteValue.elem #[.agg #[.pointer (some ⟨7, 228, none⟩), .pointer (some a), .int .u64 150]]).run Tryz.prog W
      = .ok (.agg #[.pointer (some ⟨7, 138, none⟩), .pointer (some p), .int .u64 386]) W := by
  rw [rl_method _ _ _ _ _ _ _ (Tryz.parts49 a W)]
  simp [ReflectliteValue.elem, loadVar, isAgg, underlying, Tryz.underlying228, ha, Result.andThen, Tryz.elemOf49, Tryz.mk32]
theorem Tryz.parts32a (a : Addr) (w : World) : (ReflectliteValue.parts (.agg #[.pointer (some ⟨7, 138, none⟩), .pointer (some a), .int .u64 386])).run Tryz.prog w = .ok (some (138, a, 386)) w := by kernel_rfl
theorem Tryz.parts32 (a : Addr) (w : World) : (ReflectliteValue.parts (.agg #[.pointer (some ⟨7, 138, none⟩), .pointer (some a), .int .u64 130])).run Tryz.prog w = .ok (some (138, a, 130)) w := by kernel_rfl
theorem Tryz.direct32 (w : World) : (Rtype.directlyAssignable 138 138).run Tryz.prog w = .ok true w := by kernel_rfl
theorem Tryz.set32 (ta b : Addr) (e : Int) (old : Value) (W : World) (hb : W.cell? b = some (.int .i64 e)) (ht : W.cell? ta = some old) (hf : W.frozen? ta = false) :
    (ReflectliteValue.set #[.agg #[.pointer (some ⟨7, 138, none⟩), .pointer (some ta), .int .u64 386], .agg #[.pointer (some ⟨7, 138, none⟩), .pointer (some b), .int .u64 130]]).run Tryz.prog W
      = .ok (.tuple #[]) (W.setCell ta (.int .i64 e)) := by
  have e9 : ∀ (v x : Value) (g : Value → Value → Sem Value) (h : Array Value → Sem Value), ReflectliteValue.set.match_3 (fun _ => Sem Value) #[v, x] g h = g v x := fun _ _ _ _ => rfl
  delta ReflectliteValue.set
  rw [e9]
  simp only [Sem.run_bind, Tryz.parts32a, Tryz.parts32, Result.andThen]
  simp [ReflectliteValue.flagAddr, loadVar, isAgg, underlying, Tryz.underlying138, hb, Result.andThen, Tryz.direct32, storeVar, Value.cells, storeCells, Addr.add]
  rw [run_store Tryz.prog W ta _ _ (by rfl)]
  simp [ht, hf]

set_option maxHeartbeats 4000000 in
theorem as_hit (e : Int) (t : Addr) (old : Value) (w : World) (hg : w.cell? ⟨0, 0, none⟩ = some (.iface 370 (.agg #[.pointer (some ⟨7, 73, none⟩)]))) (ht0 : w.cell? t = some old) (hf0 : w.frozen? t = false) :
    Calls Tryz.prog 183 #[.iface 138 (.int .i64 e), .iface 228 (.pointer (some t))] w fun ev w' => ev = .returned (.bool true) ∧ w' = ((((w.alloc (.cells #[.pointer (some t)] 228)).alloc (.cells #[.pointer (some ⟨7, 228, none⟩), .pointer (some ⟨w.heap.size, 0, none⟩), .int .u64 150] 308)).alloc (.cells #[.pointer (some ⟨7, 228, none⟩), .pointer (some ⟨w.heap.size, 0, none⟩), .int .u64 150] 308)).alloc (.cells #[.int .i64 e] 138)).setCell t (.int .i64 e) := by
  have h6 := @run_callFunc_extern Tryz.prog 269 _ (fun args => ReflectliteValue.unpack (args.getD 0 (.tuple #[]))) Tryz.func269 (by kernel_rfl) (by kernel_rfl) (by kernel_rfl) (by kernel_rfl)
  have h7 := @run_callFunc_extern Tryz.prog 270 _ (ReflectliteValue.methodAny (ReflectliteValue.valueError "reflectlite.Value.Type" 0) (fun t _ _ _ => ReflectliteType.toType t)) Tryz.func270 (by kernel_rfl) (by kernel_rfl) (by kernel_rfl) (by kernel_rfl)
  have h8 := @run_callFunc_extern Tryz.prog 271 _ (ReflectliteValue.method (ReflectliteValue.valueError "reflectlite.Value.IsNil" 0) ReflectliteValue.isNil) Tryz.func271 (by kernel_rfl) (by kernel_rfl) (by kernel_rfl) (by kernel_rfl)
  have h27 := @run_callFunc_extern Tryz.prog 424 _ (ReflectliteType.abiMethod fun t => do pure (.int .u8 (← Rtype.kind t))) Tryz.func424 (by kernel_rfl) (by kernel_rfl) (by kernel_rfl) (by kernel_rfl)
  have h37 := @run_callFunc_extern Tryz.prog 437 _ (ReflectliteType.method ReflectliteType.elem) Tryz.func437 (by kernel_rfl) (by kernel_rfl) (by kernel_rfl) (by kernel_rfl)
  have h38 := @run_callFunc_extern Tryz.prog 438 _ (ReflectliteType.relation "Implements" ReflectliteType.implements_) Tryz.func438 (by kernel_rfl) (by kernel_rfl) (by kernel_rfl) (by kernel_rfl)
  have h10 := @run_callFunc_extern Tryz.prog 335 _ ReflectliteType.typeOf Tryz.func335 (by kernel_rfl) (by kernel_rfl) (by kernel_rfl) (by kernel_rfl)
  have h35 := @run_callFunc_extern Tryz.prog 435 _ (ReflectliteType.relation "AssignableTo" ReflectliteType.assignableTo) Tryz.func435 (by kernel_rfl) (by kernel_rfl) (by kernel_rfl) (by kernel_rfl)
  have h11 := @run_callFunc_extern Tryz.prog 336 _ (ReflectliteValue.method (ReflectliteValue.valueError "reflectlite.Value.Elem" 0) ReflectliteValue.elem) Tryz.func336 (by kernel_rfl) (by kernel_rfl) (by kernel_rfl) (by kernel_rfl)
  have h12 := @run_callFunc_extern Tryz.prog 337 _ ReflectliteValue.set Tryz.func337 (by kernel_rfl) (by kernel_rfl) (by kernel_rfl) (by kernel_rfl)
  have tO := Tryz.typeOf32
  have mA := Tryz.methodAssignableTo
  have a25 := Tryz.assignable32
  have v25 := Tryz.valueOf32
  have f6 := Tryz.valueOf49
  have f7 := Tryz.type49
  have mK := Tryz.methodKind
  have mE := Tryz.methodElem
  have mI := Tryz.methodImplements
  have k27 := Tryz.kind49
  have k25 := Tryz.kind32
  have e27 := Tryz.elem49
  have i25 := Tryz.implements32
  have n8 := Tryz.isNil49 ⟨w.heap.size, 0, none⟩ t ((w.alloc (.cells #[.pointer (some t)] 228)).alloc (.cells #[.pointer (some ⟨7, 228, none⟩), .pointer (some ⟨w.heap.size, 0, none⟩), .int .u64 150] 308)) (by simp)
  have hlt : 0 < w.heap.size := by
    rcases Nat.eq_zero_or_pos w.heap.size with h0 | h
    · simp [World.cell?, h0] at hg
    · exact h
  have hg2 : ((w.alloc (.cells #[.pointer (some t)] 228)).alloc (.cells #[.pointer (some ⟨7, 228, none⟩), .pointer (some ⟨w.heap.size, 0, none⟩), .int .u64 150] 308)).cell? ⟨0, 0, none⟩ = some (.iface 370 (.agg #[.pointer (some ⟨7, 73, none⟩)])) := by
    rw [World.cell?_alloc_lt _ _ ⟨0, 0, none⟩ (by simp), World.cell?_alloc_lt _ _ ⟨0, 0, none⟩ hlt]; exact hg
  have htl : t.block < w.heap.size := by
    rcases Nat.lt_or_ge t.block w.heap.size with h | h
    · exact h
    · simp [World.cell?, Array.getElem?_eq_none h] at ht0
  have el := Tryz.elemV49 ⟨w.heap.size, 0, none⟩ t (((w.alloc (.cells #[.pointer (some t)] 228)).alloc (.cells #[.pointer (some ⟨7, 228, none⟩), .pointer (some ⟨w.heap.size, 0, none⟩), .int .u64 150] 308)).alloc (.cells #[.pointer (some ⟨7, 228, none⟩), .pointer (some ⟨w.heap.size, 0, none⟩), .int .u64 150] 308)) (by rw [World.cell?_alloc_lt _ _ ⟨w.heap.size, 0, none⟩ (by simp; omega)]; simp)
  have st := Tryz.set32 t ⟨w.heap.size + 1 + 1 + 1, 0, none⟩ e old ((((w.alloc (.cells #[.pointer (some t)] 228)).alloc (.cells #[.pointer (some ⟨7, 228, none⟩), .pointer (some ⟨w.heap.size, 0, none⟩), .int .u64 150] 308)).alloc (.cells #[.pointer (some ⟨7, 228, none⟩), .pointer (some ⟨w.heap.size, 0, none⟩), .int .u64 150] 308)).alloc (.cells #[.int .i64 e] 138))
    (by rw [World.cell?_alloc_at _ _ _ _ (by simp)]; rfl)
    (by rw [World.cell?_alloc_lt _ _ t (by simp; omega), World.cell?_alloc_lt _ _ t (by simp; omega), World.cell?_alloc_lt _ _ t (by simp; omega), World.cell?_alloc_lt _ _ t htl]; exact ht0)
    (by rw [World.frozen?_alloc_old _ _ t (by simp; omega), World.frozen?_alloc_old _ _ t (by simp; omega), World.frozen?_alloc_old _ _ t (by simp; omega), World.frozen?_alloc_old _ _ t (Nat.ne_of_lt htl)]; exact hf0)
  go_enter Tryz.func183, Tryz.ntmps183
  go_wp2
  refine wp_loop_rounds 1 ?_
  rw [rounds_succ]
  go_wp2
  go_ret
  exact ⟨rfl, rfl⟩
end Go.Proofs.YtkijpphmiogbbaaGreatDoor

namespace Go.Proofs.YtkijpphmiogbbaaGreatDoor.Z
open Go.RowKit
attribute [local go_sem ↓] Go.wp_at_zero Go.wp_at_succ

/-- What the package variable errors.errorType holds. -/
def Et (w : World) : Prop := w.cell? ⟨0, 0, none⟩ = some (.iface 370 (.agg #[.pointer (some ⟨7, 73, none⟩)]))
theorem Et.new {w w' : World} (h : Et w) (hg : w.grownBy w' none) : Et w' := hg.cell h (by simp)
theorem grown_set (b i : Nat) (w : World) (v : Value) : w.grownBy (w.setCell ⟨b, i, none⟩ v) (some b) :=
  ⟨rfl, rfl, rfl, by simp, fun k _ hr => Below.heap_setCell _ _ _ _ (fun e => hr (by simp [e]))⟩
set_option maxHeartbeats 1000000 in
theorem told_err (k : Int) (w : World) (hG : Et w) :
    Calls Tryz.prog 95 #[.iface 138 (.int .i64 k)] w fun e w' => e = .returned (.int .i64 k) ∧ w.grownBy w' none := by
  have hlt : 0 < w.heap.size := by have := cell_lt hG; simpa using this
  have hg : (w.alloc (.cells #[.int .i64 0] 138)).cell? ⟨0, 0, none⟩ = some (.iface 370 (.agg #[.pointer (some ⟨7, 73, none⟩)])) := by
    rw [World.cell?_alloc_lt _ _ ⟨0, 0, none⟩ hlt]; exact hG
  go_enter Tryz.func95, Tryz.ntmps95
  go_wp2_with fail
  refine (as_hit k ⟨w.heap.size, 0, none⟩ (.int .i64 0) _ hg (by simp) (World.frozen?_alloc_at _ _ _ _ rfl)).mono ?_
  rintro e w1 ⟨rfl, hw1⟩
  have g1 : w.grownBy w1 none := by
    rw [hw1]
    refine grown_new (b := w.heap.size) ?_ (grown_set _ _ _ _) (Nat.le_refl _)
    exact grownBy_trans (grownBy_trans (grownBy_trans (grownBy_trans (World.grownBy_alloc _ _ _) (World.grownBy_alloc _ _ _)) (World.grownBy_alloc _ _ _)) (World.grownBy_alloc _ _ _)) (World.grownBy_alloc _ _ _)
  have c1 : w1.cell? ⟨w.heap.size, 0, none⟩ = some (.int .i64 k) := by
    rw [hw1]
    refine cell_same (u := .int .i64 0) ?_
    rw [World.cell?_alloc_lt _ _ ⟨w.heap.size, 0, none⟩ (by simp; omega), World.cell?_alloc_lt _ _ ⟨w.heap.size, 0, none⟩ (by simp; omega), World.cell?_alloc_lt _ _ ⟨w.heap.size, 0, none⟩ (by simp; omega), World.cell?_alloc_lt _ _ ⟨w.heap.size, 0, none⟩ (by simp)]
    simp
  clear hw1 hg
  go_wp2
  go_ret
  exact ⟨rfl, g1⟩
set_option maxHeartbeats 1000000 in
theorem told_nil (w : World) :
    Calls Tryz.prog 95 #[.nilIface] w fun e w' => e = .returned (.int .i64 0) ∧ w' = w := by
  go_enter Tryz.func95, Tryz.ntmps95
  go_wp2
  go_ret
  exact ⟨rfl, rfl⟩
theorem num_any (k : Int) (w : World) :
    Calls Tryz.prog 96 #[.int .i64 k] w fun e w' => e = .returned (.int .i64 k) ∧ w' = w := by
  go_enter Tryz.func96, Tryz.ntmps96
  go_wp2
  go_ret
  exact ⟨rfl, rfl⟩
set_option maxHeartbeats 1000000 in
/-- The law's 'told': an error has this number. -/
theorem ltold_err (k : Int) (w : World) (hG : Et w) (hk : (k == 0) = false) :
    Calls Tryz.prog 45 #[.iface 138 (.int .i64 k), .int .i64 k] w fun e w' => e = .returned (.bool true) ∧ w.grownBy w' none := by
  go_enter Tryz.func45, Tryz.ntmps45
  go_wp2_with fail
  refine (told_err k _ hG).mono ?_
  rintro e w1 ⟨rfl, hg1⟩
  go_wp2_with (first | (go_at_call 96; refine (num_any _ _).mono ?_; rintro e w' ⟨rfl, rfl⟩))
  go_ret
  exact ⟨rfl, hg1⟩
set_option maxHeartbeats 1000000 in
theorem ltold_nil (w : World) :
    Calls Tryz.prog 45 #[.nilIface, .int .i64 0] w fun e w' => e = .returned (.bool true) ∧ w' = w := by
  go_enter Tryz.func45, Tryz.ntmps45
  go_wp2_with (first | (go_at_call 95; refine (told_nil _).mono ?_; rintro e w' ⟨rfl, rfl⟩) | (go_at_call 96; refine (num_any _ _).mono ?_; rintro e w' ⟨rfl, rfl⟩))
  go_ret
  exact ⟨rfl, rfl⟩
end Go.Proofs.YtkijpphmiogbbaaGreatDoor.Z
