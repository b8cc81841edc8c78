import Derived.WalkKit
import Derived.WalkSpells
import Derived.Deep.AppendLies
import Derived.Lib.ConvBytes
import Derived.Test.YtkijpphmiogbbaaGreatDoorK03
namespace Go.Proofs.YtkijpphmiogbbaaGreatDoor
open Go.RowKit

/-- A row of bytes in a block of its own, told cell by cell, whatever mark the block bears past its cells. -/
def OwnB (w : World) (base : Nat) (v : Value) (xs : List Int) : Prop :=
  ∃ g cap, v = .slice (some ⟨g, 0, none⟩) xs.length cap ∧ base ≤ g ∧ g < w.heap.size ∧ xs.length ≤ cap ∧ cap ≤ maxLen ∧
    (∀ j, j < cap → (w.cell? ⟨g, j, none⟩).isSome = true ∧ w.frozen? ⟨g, j, none⟩ = false) ∧
    ∀ j u, xs[j]? = some u → w.cell? ⟨g, j, none⟩ = some (.int .u8 u)

theorem add_lit (g j : Nat) : (⟨g, 0, none⟩ : Addr).add j = ⟨g, j, none⟩ := by unfold Addr.add; split <;> simp_all

theorem OwnB.kept {w w' : World} {base : Nat} {v : Value} {xs : List Int} {row : Option Nat} (h : OwnB w base v xs) (hg : w.grownBy w' row) (hne : v.ownBlock ≠ row ∨ row = none) : OwnB w' base v xs := by
  obtain ⟨g, cap, rfl, h1, h2, h3, h4, h5, h6⟩ := h
  have hb : w'.heap[g]? = w.heap[g]? := hg.block g h2 (by rcases hne with h | rfl; exact h; simp)
  refine ⟨g, cap, rfl, h1, Nat.lt_of_lt_of_le h2 hg.size, h3, h4, fun j hj => ?_, fun j u hu => ?_⟩
  · rw [World.cell?_of_block (a := ⟨g, j, none⟩) hb, World.frozen?_of_block (a := ⟨g, j, none⟩) hb]; exact h5 j hj
  · rw [World.cell?_of_block (a := ⟨g, j, none⟩) hb]; exact h6 j u hu

theorem run_app1 {P : Program} (w : World) (base : Nat) (t ty e : TypeId) (i : TypeInfo) (ht : P.underlying t = some (.slice e)) (hi : P.info? e = some i) (hz : i.zero = some (.int .u8 0)) (hsz : i.size = 1) (hby : i.bytes = 1)
    (v : Value) (xs : List Int) (h : OwnB w base v xs) (hb : base ≤ w.heap.size) (k c : Nat) (x : Int) (ha : w.cell? ⟨k, 0, none⟩ = some (.int .u8 x)) (hs : xs.length < 1000000000000) :
    ∃ v' w', (Builtin.append_ #[t, t] ty #[v, .slice (some ⟨k, 0, none⟩) 1 c]).run P w = .ok v' w' ∧ OwnB w' base v' (xs ++ [x]) ∧ w.grownBy w' v.ownBlock := by
  obtain ⟨g, cap, rfl, h1, h2, h3, h4, h5, h6⟩ := h
  have hnews : ∀ j u, [Value.int .u8 x][j]? = some u → w.cell? ((⟨k, 0, none⟩ : Addr).add j) = some u := by
    intro j u hu
    match j with
    | 0 => simp at hu; subst hu; rw [add_lit]; exact ha
    | j + 1 => simp at hu
  by_cases hroom : xs.length + 1 ≤ cap
  · have hf := run_firstCells_some (P := P) w i.size 1 ⟨k, 0, none⟩ 1 c [.int .u8 x] (by simp [hsz]) hnews
    have h7 := h5 xs.length (by omega)
    obtain ⟨old, hold⟩ := Option.isSome_iff_exists.1 h7.1
    have hst : (storeCells ⟨g, xs.length * i.size, none⟩ [Value.int .u8 x]).run P w = .ok () (w.setCell ⟨g, xs.length, none⟩ (.int .u8 x)) := by
      rw [hsz, Nat.mul_one]
      simp only [storeCells, Addr.add, Sem.run_bind, Sem.run_pure]
      rw [run_store P w _ _ _ (by rfl)]
      simp [hold, h7.2, Result.andThen]
    refine ⟨.slice (some ⟨g, 0, none⟩) (xs.length + 1) cap, w.setCell ⟨g, xs.length, none⟩ (.int .u8 x), ?_, ?_, ?_⟩
    · simp [Builtin.append_, run_underlying ht, sizeOf, typeInfo, hi, Builtin.lenOf, hroom, hf, Addr.add_lit, hst]
    · refine ⟨g, cap, by simp, h1, by simpa using h2, by simpa using hroom, h4, fun j hj => ⟨?_, ?_⟩, fun j u hu => ?_⟩
      · by_cases e1 : j = xs.length
        · subst e1; rw [World.cell?_setCell_same w _ _ hold]; rfl
        · rw [World.cell?_setCell_other w _ _ _ (by intro e2; have e3 := congrArg Addr.off e2; simp at e3; exact e1 e3.symm)]; exact (h5 j hj).1
      · rw [World.frozen?_setCell]; exact (h5 j hj).2
      · rcases Nat.lt_trichotomy j xs.length with h8 | h8 | h8
        · rw [World.cell?_setCell_other w _ _ _ (by intro e2; have := congrArg Addr.off e2; simp at this; omega)]
          rw [List.getElem?_append_left h8] at hu
          exact h6 j u hu
        · subst h8
          rw [List.getElem?_append_right (Nat.le_refl _)] at hu
          simp at hu; subst hu
          exact World.cell?_setCell_same w _ _ hold
        · rw [List.getElem?_eq_none (by simp; omega)] at hu; cases hu
    · exact ⟨rfl, rfl, rfl, by simp, fun j _ hr => Below.heap_setCell _ _ _ _ (fun e2 => hr (by simp [Value.ownBlock, e2]))⟩
  · have hr := run_append_grow (P := P) w t ty e i (.int .u8 0) ht hi hz ⟨g, 0, none⟩ xs.length cap (xs.map (Value.int .u8)) (by simp [hsz]) (by
      intro j u hu
      rw [add_lit]
      rw [List.getElem?_map] at hu
      cases hx : xs[j]? with
      | none => rw [hx] at hu; cases hu
      | some y => rw [hx] at hu; cases hu; exact h6 j y hx) ⟨k, 0, none⟩ 1 c [.int .u8 x] (by simp [hsz]) hnews (by omega) (by omega) (growslice_fits (by omega) (by rw [hby]; omega))
    have hge := grownCap_ge w (xs.length + 1) cap e
    have hcm := grownCap_le_maxLen w (xs.length + 1) cap e (by unfold maxLen; omega)
    refine ⟨_, _, hr, ⟨w.heap.size, grownCap w (xs.length + 1) cap e, by simp, hb, by simp, by simpa using hge, hcm, fun j hj => ⟨?_, ?_⟩, fun j u hu => ?_⟩, ⟨rfl, rfl, rfl, by simp, fun j hj _ => (World.grownBy_alloc w.drew _ none).block j hj (by simp)⟩⟩
    · rw [show w.heap.size = w.drew.heap.size from rfl, World.cell?_alloc_new]
      rw [Array.getElem?_eq_getElem]
      · rfl
      · simp [size_zeroCells, Value.cells]; omega
    · exact World.frozen?_alloc_at _ _ _ _ rfl
    · have hj : j < xs.length + 1 := by
        rcases Nat.lt_or_ge j (xs.length + 1) with h8 | h8
        · exact h8
        · rw [List.getElem?_eq_none (by simpa using h8)] at hu; cases hu
      rw [show w.heap.size = w.drew.heap.size from rfl, World.cell?_alloc_new, Array.getElem?_append_left (by simpa using hj)]
      have e9 : ((xs.map (Value.int .u8)).toArray ++ [Value.int .u8 x].toArray) = ((xs ++ [x]).map (Value.int .u8)).toArray := by simp
      rw [e9, List.getElem?_toArray, List.getElem?_map, hu]; rfl

theorem wpList_app1 {P : Program} {ops : Array Oper} {rest : List Oper} {o : Oper} {a : Act} {Q : Exit → Act → World → Prop} {w : World} (hgd : o.guard = none) (s x : Operand) (t : TypeId)
    (ho : o.op = .call { callee := .builtin .append, args := #[s, x], argTypes := #[t, t] })
    (base : Nat) (e : TypeId) (i : TypeInfo) (ht : P.underlying t = some (.slice e)) (hi : P.info? e = some i) (hz : i.zero = some (.int .u8 0)) (hsz : i.size = 1) (hby : i.bytes = 1)
    (v : Value) (xs : List Int) (hs : a.eval s = v) (hown : OwnB w base v xs) (hbase : base ≤ w.heap.size)
    (k c : Nat) (u : Int) (hx : a.eval x = .slice (some ⟨k, 0, none⟩) 1 c) (ha : w.cell? ⟨k, 0, none⟩ = some (.int .u8 u)) (hlen : xs.length < 1000000000000)
    (h : ∀ v' w', OwnB w' base v' (xs ++ [u]) → w.grownBy w' v.ownBlock → wpList P ops Q rest (a.put o.dst v') w') :
    wpList P ops Q (o :: rest) a w := by
  refine wpList_plain hgd fun K hK => ?_
  obtain ⟨v', w', hr, h2, h3⟩ := run_app1 (P := P) w base t o.type e i ht hi hz hsz hby v xs hown hbase k c u ha hlen
  unfold Oper.wp execOp
  simp only [ho, resolve, invoke, builtin, Sem.run_bind, Sem.run_pure, Result.andThen_ok, List.map_toArray, List.map_cons, List.map_nil, hs, hx, hr]
  exact hK _ _ (h v' w' h2 h3)

theorem OwnB_conv (w : World) (base : Nat) (e : TypeId) (s : ByteArray) (hs : s.size ≤ maxLen) (hb : base ≤ w.heap.size) :
    OwnB (Lib.bytesWorld w e s) base (.slice (some ⟨w.heap.size, 0, none⟩) s.size (grownCap w s.size 0 e)) (s.data.toList.map (fun b => (b.toNat : Int))) := by
  have hge := grownCap_ge w s.size 0 e
  have hl : (s.data.toList.map (fun b => (b.toNat : Int))).length = s.size := by simp
  have hc : (Lib.bytesCells w e s).size = grownCap w s.size 0 e := by
    unfold Lib.bytesCells
    simp only [Array.size_append, Array.size_map, Array.size_replicate]
    show s.size + _ = _
    omega
  refine ⟨w.heap.size, grownCap w s.size 0 e, by rw [hl], hb, by rw [Lib.bytesWorld_size]; omega, by rw [hl]; exact hge, grownCap_le_maxLen _ _ _ _ hs, fun j hj => ⟨?_, ?_⟩, fun j u hu => ?_⟩
  · simp only [World.cell?, Lib.bytesWorld_at_new]
    rw [← hc] at hj
    simp [Array.getElem?_eq_getElem hj]
  · simp [World.frozen?, Lib.bytesWorld_at_new, hc]; omega
  · have hj : j < s.size := by
      rcases Nat.lt_or_ge j s.size with h8 | h8
      · exact h8
      · rw [List.getElem?_eq_none (by rw [hl]; exact h8)] at hu; cases hu
    rw [Lib.bytesWorld_cell w e s j hj]
    have hd : s.data.toList.length = s.size := by simp
    rw [List.getElem?_map, List.getElem?_eq_getElem (by rw [hd]; exact hj)] at hu
    simp only [Option.map_some, Option.some.injEq] at hu
    subst hu
    simp [List.getD, List.getElem?_eq_getElem (show j < s.data.toList.length by rw [hd]; exact hj)]
theorem grown_conv (w : World) (e : TypeId) (s : ByteArray) (row : Option Nat) : w.grownBy (Lib.bytesWorld w e s) row :=
  ⟨rfl, rfl, rfl, by rw [Lib.bytesWorld_size]; omega, fun k hk _ => Lib.bytesWorld_at_old w e s k hk⟩

theorem OwnB.put {w : World} {base : Nat} {xs : List Int} {g cap : Nat} (h : OwnB w base (.slice (some ⟨g, 0, none⟩) xs.length cap) xs) (i : Nat) (hi : i < xs.length) (x : Int) :
    OwnB (w.setCell ⟨g, i, none⟩ (.int .u8 x)) base (.slice (some ⟨g, 0, none⟩) xs.length cap) (xs.set i x) := by
  obtain ⟨g', cap', e, h1, h2, h3, h4, h5, h6⟩ := h
  cases e
  obtain ⟨old, hold⟩ := Option.isSome_iff_exists.1 (h5 i (by omega)).1
  refine ⟨g, cap, by simp, h1, by simpa using h2, by simpa using h3, h4, fun j hj => ⟨?_, ?_⟩, fun j u hu => ?_⟩
  · by_cases e1 : j = i
    · subst e1; rw [World.cell?_setCell_same w _ _ hold]; rfl
    · rw [World.cell?_setCell_other w _ _ _ (by intro e2; have e3 := congrArg Addr.off e2; simp at e3; exact e1 e3.symm)]; exact (h5 j hj).1
  · rw [World.frozen?_setCell]; exact (h5 j hj).2
  · by_cases e1 : j = i
    · subst e1
      rw [List.getElem?_set_self hi] at hu
      cases hu
      exact World.cell?_setCell_same w _ _ hold
    · rw [List.getElem?_set_ne (Ne.symm e1)] at hu
      rw [World.cell?_setCell_other w _ _ _ (by intro e2; have e3 := congrArg Addr.off e2; simp at e3; exact e1 e3.symm)]
      exact h6 j u hu
theorem OwnB.form {w : World} {base : Nat} {v : Value} {xs : List Int} (h : OwnB w base v xs) : ∃ g cap, v = .slice (some ⟨g, 0, none⟩) xs.length cap ∧ base ≤ g ∧ g < w.heap.size := by
  obtain ⟨g, cap, e, h1, h2, _⟩ := h
  exact ⟨g, cap, e, h1, h2⟩
theorem OwnB.at {w : World} {base : Nat} {xs : List Int} {g cap : Nat} (h : OwnB w base (.slice (some ⟨g, 0, none⟩) xs.length cap) xs) (i : Nat) (hi : i < xs.length) : w.cell? ⟨g, i, none⟩ = some (.int .u8 xs[i]) ∧ w.frozen? ⟨g, i, none⟩ = false := by
  obtain ⟨g', cap', e, h1, h2, h3, h4, h5, h6⟩ := h
  cases e
  exact ⟨h6 i _ (List.getElem?_eq_getElem hi), (h5 i (by omega)).2⟩
end Go.Proofs.YtkijpphmiogbbaaGreatDoor

namespace Go.Proofs.YtkijpphmiogbbaaGreatDoor.Z
open Go.RowKit
attribute [local go_sem ↓] Go.wp_at_zero Go.wp_at_succ
variable {X : Side} {B c : Nat} {vT vP : Value} {vS : SV} {ts : List ByteArray} {nP : Nat} {ps : List Value} {Φ : Nat → Prop} {w : World}

set_option maxHeartbeats 2000000 in
set_option maxRecDepth 20000 in
theorem owner_none (hX : X.Local) (hc : c ≤ 40000) (o : OpV) (ho : OpOK o) (hk : o.kind < 1 ∨ 7 < o.kind) (h : SW X B c w) :
    Calls Tryz.prog 15 #[.pointer (some ⟨B, 0, none⟩), opVal o] w fun e w' => e = .returned (.bool false) ∧ w.grownBy w' none := by
  go_enter Tryz.func15, Tryz.ntmps15
  go_wp2_with fail
  obtain ⟨vT, vP, vS, ts, nP, ps, Φ, h⟩ := h
  have hO := opAt_new w o
  have h1 : SWd X B c vT vP vS ts nP ps Φ (opBox w o) := h.keep hX (World.grownBy_alloc w _ none)
  refine (text_any hc _ ho.x h1).mono ?_
  rintro e w1 ⟨t, rfl, ht, hg1⟩
  have h2 := h1.keep hX hg1
  have hO1 := hO.far hg1 (by simp)
  have blt : w.heap.size < w1.heap.size := Nat.lt_of_lt_of_le (by simp) hg1.size
  have hgw : w.grownBy w1 none := grownBy_trans (World.grownBy_alloc w _ none) hg1
  generalize w.heap.size = b at *
  have qk := hO1.kind
  clear h h1 hO hg1
  have hkk := ho.kind
  have k1 : (o.kind == 1) = false := by simp; omega
  have k2 : (o.kind == 2) = false := by simp; omega
  have k3 : (o.kind == 3) = false := by simp; omega
  have k4 : (o.kind == 4) = false := by simp; omega
  have k5 : (o.kind == 5) = false := by simp; omega
  have k6 : (o.kind == 6) = false := by simp; omega
  have k7 : (o.kind == 7) = false := by simp; omega
  clear hk hkk
  go_wp2
  go_ret
  exact ⟨rfl, hgw⟩
set_option maxHeartbeats 2000000 in
set_option maxRecDepth 20000 in
theorem owner_1 (hX : X.Local) (hc : c ≤ 40000) (o : OpV) (ho : OpOK o) (hk : Hid (o.kind = 1)) (h : SW X B c w) :
    Calls Tryz.prog 15 #[.pointer (some ⟨B, 0, none⟩), opVal o] w fun e w' => e = .returned (.bool true) ∧ SW X B (c + 1) w' := by
  go_enter Tryz.func15, Tryz.ntmps15
  go_wp2_with fail
  obtain ⟨vT, vP, vS, ts, nP, ps, Φ, h⟩ := h
  have hO := opAt_new w o
  have h1 : SWd X B c vT vP vS ts nP ps Φ (opBox w o) := h.keep hX (World.grownBy_alloc w _ none)
  refine (text_any hc _ ho.x h1).mono ?_
  rintro e w1 ⟨t, rfl, ht, hg1⟩
  have h2 := h1.keep hX hg1
  have hO1 := hO.far hg1 (by simp)
  have blt : w.heap.size < w1.heap.size := Nat.lt_of_lt_of_le (by simp) hg1.size
  generalize w.heap.size = b at *
  have qk := hO1.kind
  clear h h1 hO hg1
  rw [hk.out] at qk
  have qs := hO1.s
  clear hk
  go_wp2_with fail
  refine (add_any hX hc _ h2 (by have := ho.s; omega)).mono ?_
  rintro e w2 ⟨rfl, h3⟩
  clear qk qs
  go_wp2
  go_ret
  exact ⟨rfl, h3⟩
set_option maxHeartbeats 2000000 in
set_option maxRecDepth 20000 in
theorem owner_2 (hX : X.Local) (hc : c ≤ 40000) (o : OpV) (ho : OpOK o) (hk : Hid (o.kind = 2)) (h : SW X B c w) :
    Calls Tryz.prog 15 #[.pointer (some ⟨B, 0, none⟩), opVal o] w fun e w' => e = .returned (.bool true) ∧ SW X B (c + 1) w' := by
  go_enter Tryz.func15, Tryz.ntmps15
  go_wp2_with fail
  obtain ⟨vT, vP, vS, ts, nP, ps, Φ, h⟩ := h
  have hO := opAt_new w o
  have h1 : SWd X B c vT vP vS ts nP ps Φ (opBox w o) := h.keep hX (World.grownBy_alloc w _ none)
  refine (text_any hc _ ho.x h1).mono ?_
  rintro e w1 ⟨t, rfl, ht, hg1⟩
  have h2 := h1.keep hX hg1
  have hO1 := hO.far hg1 (by simp)
  have blt : w.heap.size < w1.heap.size := Nat.lt_of_lt_of_le (by simp) hg1.size
  generalize w.heap.size = b at *
  have qk := hO1.kind
  clear h h1 hO hg1
  rw [hk.out] at qk
  have qy := hO1.y
  clear hk
  go_wp2_with fail
  refine (text_any hc _ ho.y h2).mono ?_
  rintro e w2 ⟨t2, rfl, ht2, hg2⟩
  have h3 := h2.keep hX hg2
  clear qk qy h2
  go_wp2_with fail
  refine (add_any hX hc _ h3 (by simp; omega)).mono ?_
  rintro e w3 ⟨rfl, h4⟩
  go_wp2
  go_ret
  exact ⟨rfl, h4⟩
set_option maxHeartbeats 2000000 in
set_option maxRecDepth 20000 in
theorem owner_3 (hX : X.Local) (hc : c ≤ 40000) (o : OpV) (ho : OpOK o) (hk : Hid (o.kind = 3)) (h : SW X B c w) :
    Calls Tryz.prog 15 #[.pointer (some ⟨B, 0, none⟩), opVal o] w fun e w' => e = .returned (.bool true) ∧ SW X B (c + 1) w' := by
  go_enter Tryz.func15, Tryz.ntmps15
  go_wp2_with fail
  obtain ⟨vT, vP, vS, ts, nP, ps, Φ, h⟩ := h
  have hO := opAt_new w o
  have h1 : SWd X B c vT vP vS ts nP ps Φ (opBox w o) := h.keep hX (World.grownBy_alloc w _ none)
  refine (text_any hc _ ho.x h1).mono ?_
  rintro e w1 ⟨t, rfl, ht, hg1⟩
  have h2 := h1.keep hX hg1
  have hO1 := hO.far hg1 (by simp)
  have blt : w.heap.size < w1.heap.size := Nat.lt_of_lt_of_le (by simp) hg1.size
  generalize w.heap.size = b at *
  have qk := hO1.kind
  clear h h1 hO hg1
  rw [hk.out] at qk
  have qa := hO1.a
  have qb := hO1.b
  have t0 : (t.size : Int) ≤ 20000 := by omega
  clear hk
  go_wp2_with fail
  refine (pick_any _ _ _ ho.a (by omega) (by omega)).mono ?_
  rintro e w' ⟨k, hk, rfl, hw⟩
  rw [hw]
  clear hw w'
  have k0 : (0 : Int) ≤ (k : Int) := Int.natCast_nonneg k
  have k1 : (k : Int) ≤ (t.size : Int) := by omega
  go_wp2_with fail
  refine (pick_any _ _ _ ho.b (by omega) (by omega)).mono ?_
  rintro e w' ⟨m, hm, rfl, hw⟩
  rw [hw]
  clear hw w'
  have m0 : (0 : Int) ≤ (m : Int) := Int.natCast_nonneg m
  have m1 : (k : Int) + (m : Int) ≤ (t.size : Int) := by omega
  have m2 : (k : Int) ≤ (k : Int) + (m : Int) := by omega
  have ww : IntKind.i64.wrap ((k : Int) + (m : Int)) = (k : Int) + (m : Int) := by rw [IntKind.wrap_i64] <;> omega
  clear qk qa qb
  go_wp2_with fail
  refine (add_any hX hc _ h2 (by simp; omega)).mono ?_
  rintro e w3 ⟨rfl, h4⟩
  clear ww
  go_wp2
  go_ret
  exact ⟨rfl, h4⟩
set_option maxHeartbeats 2000000 in
set_option maxRecDepth 20000 in
theorem owner_7 (hX : X.Local) (hc : c ≤ 40000) (o : OpV) (ho : OpOK o) (hk : Hid (o.kind = 7)) (h : SW X B c w) :
    Calls Tryz.prog 15 #[.pointer (some ⟨B, 0, none⟩), opVal o] w fun e w' => e = .returned (.bool true) ∧ SW X B (c + 1) w' := by
  go_enter Tryz.func15, Tryz.ntmps15
  go_wp2_with fail
  obtain ⟨vT, vP, vS, ts, nP, ps, Φ, h⟩ := h
  have hO := opAt_new w o
  have h1 : SWd X B c vT vP vS ts nP ps Φ (opBox w o) := h.keep hX (World.grownBy_alloc w _ none)
  refine (text_any hc _ ho.x h1).mono ?_
  rintro e w1 ⟨t, rfl, ht, hg1⟩
  have h2 := h1.keep hX hg1
  have hO1 := hO.far hg1 (by simp)
  have blt : w.heap.size < w1.heap.size := Nat.lt_of_lt_of_le (by simp) hg1.size
  generalize w.heap.size = b at *
  have qk := hO1.kind
  clear h h1 hO hg1
  rw [hk.out] at qk
  have qa := hO1.a
  clear hk
  go_wp2_with fail
  refine (pick_any _ _ _ ho.a (by omega) (by omega)).mono ?_
  rintro e w' ⟨k, hk, rfl, hw⟩
  rw [hw]
  clear hw w'
  have k0 : (0 : Int) ≤ (k : Int) := Int.natCast_nonneg k
  have HH : Hid (SWd X B c vT vP vS ts nP ps Φ w1) := h2
  clear qk qa h2 hO1
  go_wp2
  go_loopw [10, 11] (fun s n wr => ∃ (u : ByteArray) (m : Nat), s = .string u ∧ n = .int .i64 m ∧ u.size ≤ 40000 ∧ m ≤ 500 ∧ wr = w1) (fun _ n _ => (intOf n).toNat)
  case atStart => exact ⟨_, k, rfl, rfl, by decide, by omega, rfl⟩
  case round =>
    obtain ⟨u, m, rfl, rfl, hu, hm, rfl⟩ := hrel
    have m0 : (m : Int) ≤ 500 := by omega
    have u0 : (u.size : Int) ≤ 40000 := by omega
    by_cases hz : 0 < m
    · have z0 : (0 : Int) < (m : Int) := by omega
      by_cases hs : u.size < 20000
      · have s0 : (u.size : Int) < 20000 := by omega
        go_wp2
        go_roundw
        case rel => exact ⟨u ++ t, m - 1, rfl, by go_num, by simp; omega, by omega, trivial⟩
        case measure => simp [intOf]; omega
      · have s0 : ¬ (u.size : Int) < 20000 := by omega
        go_wp2_with fail
        refine (add_any hX hc _ HH.out (by omega)).mono ?_
        rintro e w3 ⟨rfl, h4⟩
        go_wp2
        go_ret
        exact ⟨rfl, h4⟩
    · have z0 : m = 0 := by omega
      subst z0
      go_wp2_with fail
      refine (add_any hX hc _ HH.out (by omega)).mono ?_
      rintro e w3 ⟨rfl, h4⟩
      go_wp2
      go_ret
      exact ⟨rfl, h4⟩
end Go.Proofs.YtkijpphmiogbbaaGreatDoor.Z
