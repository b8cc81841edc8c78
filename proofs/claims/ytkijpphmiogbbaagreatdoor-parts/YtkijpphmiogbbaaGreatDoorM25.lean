import Derived.WalkKit
import Derived.RegionTactic
import Derived.WalkSpells
import Derived.Deep.AppendLies
import Derived.Lib.ConvBytes
namespace Go.Proofs.YtkijpphmiogbbaaGreatDoor

theorem ready_mem {md : Region.Mode} {ops : Array Oper} {l : Array Bool} {i : Nat} (h : i ∈ Region.ready md ops l) :
    i < ops.size ∧ l.getD i true = false ∧ ((ops[i]?).map (·.after.all fun e => !Region.binds md e || l.getD e.on false)).getD false = true := by
  unfold Region.ready at h
  rw [List.mem_filter, List.mem_range] at h
  obtain ⟨h1, h2⟩ := h
  rw [Bool.and_eq_true] at h2
  exact ⟨h1, by simpa using h2.1, h2.2⟩
theorem ready_none {md : Region.Mode} {ops : Array Oper} {l : Array Bool} (h : l.toList.count false = 0) (hs : l.size = ops.size) : Region.ready md ops l = [] := by
  unfold Region.ready
  rw [List.filter_eq_nil_iff]
  intro i hi
  rw [List.mem_range] at hi
  have hb : l.getD i true = true := by
    have hl : i < l.size := by omega
    rw [Array.getD_eq_getD_getElem?, Array.getElem?_eq_getElem hl]
    simp only [Option.getD_some]
    have := List.count_eq_zero.1 h
    cases hx : l[i] with
    | true => rfl
    | false => exact absurd (by rw [← hx]; exact Array.getElem_mem_toList hl) this
  simp [hb]
theorem count_listed {l : Array Bool} {i : Nat} (hi : i < l.size) (hf : l.getD i true = false) : (l.setIfInBounds i true).toList.count false + 1 = l.toList.count false := by
  have hx : l[i] = false := by
    rw [Array.getD_eq_getD_getElem?, Array.getElem?_eq_getElem hi] at hf
    simpa using hf
  have hm : false ∈ l.toList := by rw [← hx]; exact Array.getElem_mem_toList hi
  have hp := List.count_pos_iff.2 hm
  rw [Array.toList_setIfInBounds, List.count_set (by simpa using hi)]
  simp only [Array.getElem_toList, hx]
  simp only [BEq.rfl, if_true, Bool.true_beq, Bool.false_eq_true, if_false]
  omega
/-- Operation i waits for operation j. -/
def edgeB (md : Region.Mode) (ops : Array Oper) (i j : Nat) : Bool := ((ops[i]?).map (·.after.any fun e => Region.binds md e && e.on == j)).getD false
theorem ready_dep {md : Region.Mode} {ops : Array Oper} {l : Array Bool} {i : Nat} (h : i ∈ Region.ready md ops l) (j : Nat) (he : edgeB md ops i j = true) : l.getD j false = true := by
  have hr := (ready_mem h).2.2
  unfold edgeB at he
  cases ho : ops[i]? with
  | none => rw [ho] at hr; simp at hr
  | some o =>
    rw [ho] at hr he
    simp only [Option.map_some, Option.getD_some, Array.any_eq_true', Array.all_eq_true', Bool.and_eq_true, beq_iff_eq] at hr he
    obtain ⟨e, hm, hb, rfl⟩ := he
    have := hr e hm
    simpa [hb] using this
/-- Every operation waits only for those ahead of it. -/
def lowB (md : Region.Mode) (ops : Array Oper) : Bool := (List.range ops.size).all fun i => ((ops[i]?).map (·.after.all fun e => !Region.binds md e || decide (e.on < i))).getD false
theorem ready_all {md : Region.Mode} {ops : Array Oper} {l : Array Bool} (h : Region.ready md ops l = []) (hl : lowB md ops = true) (hs : l.size = ops.size) : ∀ k, k < ops.size → l.getD k false = true := by
  intro k
  induction k using Nat.strongRecOn with
  | ind k ih =>
    intro hk
    unfold lowB at hl
    rw [List.all_eq_true] at hl
    have h1 := hl k (List.mem_range.2 hk)
    unfold Region.ready at h
    rw [List.filter_eq_nil_iff] at h
    have h2 := h k (List.mem_range.2 hk)
    have hkl : k < l.size := by omega
    cases ho : ops[k]? with
    | none => rw [ho] at h1; simp at h1
    | some o =>
      rw [ho] at h1 h2
      simp only [Option.map_some, Option.getD_some, Array.all_eq_true', Bool.or_eq_true, Bool.not_eq_true', decide_eq_true_eq, Bool.and_eq_true, not_and] at h1 h2
      have h3 : ∀ e ∈ o.after, Region.binds md e = false ∨ l.getD e.on false = true := fun e he => by
        rcases h1 e he with h4 | h4
        · exact Or.inl h4
        · exact Or.inr (ih e.on h4 (by omega))
      have h4 : ¬ l.getD k true = false := fun h5 => h2 h5 h3
      have h5 : l.getD k true = l.getD k false := by
        rw [Array.getD_eq_getD_getElem?, Array.getD_eq_getD_getElem?, Array.getElem?_eq_getElem hkl]
        rfl
      rw [← h5]
      simpa using h4
/-- A REGION THAT DRAWS, BY WHAT HOLDS AT EVERY POINT OF IT: each operation that may come up hands it on. -/
theorem wpAny_inv {P : Program} {md : Region.Mode} {ops : Array Oper} {Q : Exit → Act → World → Prop} (I : Array Bool → Act → World → Prop)
    (hs : ∀ l a w, I l a w → ∀ i, i ∈ Region.ready md ops l → wpOp P ops Q i (I (l.setIfInBounds i true)) a w)
    (he : ∀ l a w, I l a w → Region.ready md ops l = [] → Q .normal a w) :
    ∀ fuel l a w, l.toList.count false ≤ fuel → l.size = ops.size → I l a w → wpAny P md ops Q fuel l a w
  | 0, l, a, w, hc, hz, h => ⟨ready_none (by omega) hz, he l a w h (ready_none (by omega) hz)⟩
  | fuel + 1, l, a, w, hc, hz, h => ⟨he l a w h, fun i hi => wpOp_mono (fun a' w' h' => wpAny_inv I hs he fuel _ a' w' (by
      have hr := ready_mem hi
      have := count_listed (by omega) hr.2.1
      omega) (by simpa using hz) h') (hs l a w h i hi)⟩
theorem wp_region_inv {P : Program} {ops : Array Oper} {Q : Exit → Act → World → Prop} {id : Nat} {a : Act} {w : World} (I : Array Bool → Act → World → Prop) (hm : P.follows .mixedOrders = true)
    (h0 : I (Array.replicate ops.size false) a w.drew)
    (hs : ∀ l a w, I l a w → ∀ i, i ∈ Region.ready .any ops l → wpOp P ops Q i (I (l.setIfInBounds i true)) a w)
    (he : ∀ l a w, I l a w → Region.ready .any ops l = [] → Q .normal a w) : (Code.region id ops true).wp P Q a w :=
  wp_region_any hm (wpAny_inv I hs he _ _ _ _ (by simp) (by simp) h0)
end Go.Proofs.YtkijpphmiogbbaaGreatDoor

namespace Go.Proofs.YtkijpphmiogbbaaGreatDoor
open Go.RowKit

/-- A row of bytes in a block of its own, told cell by cell, whatever mark the block bears past its cells. -/
def OwnB (w : World) (base : Nat) (v : Value) (xs : List Int) : Prop :=
  ∃ g cap, v = .slice (some ⟨g, 0, none⟩) xs.length cap ∧ base ≤ g ∧ g < w.heap.size ∧ xs.length ≤ cap ∧ cap ≤ maxLen ∧
    (∀ j, j < cap → (w.cell? ⟨g, j, none⟩).isSome = true ∧ w.frozen? ⟨g, j, none⟩ = false) ∧
    ∀ j u, xs[j]? = some u → w.cell? ⟨g, j, none⟩ = some (.int .u8 u)

theorem add_lit (g j : Nat) : (⟨g, 0, none⟩ : Addr).add j = ⟨g, j, none⟩ := by unfold Addr.add; split <;> simp_all

theorem OwnB.kept {w w' : World} {base : Nat} {v : Value} {xs : List Int} {row : Option Nat} (h : OwnB w base v xs) (hg : w.grownBy w' row) (hne : v.ownBlock ≠ row ∨ row = none) : OwnB w' base v xs := by
  obtain ⟨g, cap, rfl, h1, h2, h3, h4, h5, h6⟩ := h
  have hb : w'.heap[g]? = w.heap[g]? := hg.block g h2 (by rcases hne with h | rfl; exact h; simp)
  refine ⟨g, cap, rfl, h1, Nat.lt_of_lt_of_le h2 hg.size, h3, h4, fun j hj => ?_, fun j u hu => ?_⟩
  · rw [World.cell?_of_block (a := ⟨g, j, none⟩) hb, World.frozen?_of_block (a := ⟨g, j, none⟩) hb]; exact h5 j hj
  · rw [World.cell?_of_block (a := ⟨g, j, none⟩) hb]; exact h6 j u hu

theorem run_app1 {P : Program} (w : World) (base : Nat) (t ty e : TypeId) (i : TypeInfo) (ht : P.underlying t = some (.slice e)) (hi : P.info? e = some i) (hz : i.zero = some (.int .u8 0)) (hsz : i.size = 1) (hby : i.bytes = 1)
    (v : Value) (xs : List Int) (h : OwnB w base v xs) (hb : base ≤ w.heap.size) (k c : Nat) (x : Int) (ha : w.cell? ⟨k, 0, none⟩ = some (.int .u8 x)) (hs : xs.length < 1000000000000) :
    ∃ v' w', (Builtin.append_ #[t, t] ty #[v, .slice (some ⟨k, 0, none⟩) 1 c]).run P w = .ok v' w' ∧ OwnB w' base v' (xs ++ [x]) ∧ w.grownBy w' v.ownBlock := by
  obtain ⟨g, cap, rfl, h1, h2, h3, h4, h5, h6⟩ := h
  have hnews : ∀ j u, [Value.int .u8 x][j]? = some u → w.cell? ((⟨k, 0, none⟩ : Addr).add j) = some u := by
    intro j u hu
    match j with
    | 0 => simp at hu; subst hu; rw [add_lit]; exact ha
    | j + 1 => simp at hu
  by_cases hroom : xs.length + 1 ≤ cap
  · have hf := run_firstCells_some (P := P) w i.size 1 ⟨k, 0, none⟩ 1 c [.int .u8 x] (by simp [hsz]) hnews
    have h7 := h5 xs.length (by omega)
    obtain ⟨old, hold⟩ := Option.isSome_iff_exists.1 h7.1
    have hst : (storeCells ⟨g, xs.length * i.size, none⟩ [Value.int .u8 x]).run P w = .ok () (w.setCell ⟨g, xs.length, none⟩ (.int .u8 x)) := by
      rw [hsz, Nat.mul_one]
      simp only [storeCells, Addr.add, Sem.run_bind, Sem.run_pure]
      rw [run_store P w _ _ _ (by rfl)]
      simp [hold, h7.2, Result.andThen]
    refine ⟨.slice (some ⟨g, 0, none⟩) (xs.length + 1) cap, w.setCell ⟨g, xs.length, none⟩ (.int .u8 x), ?_, ?_, ?_⟩
    · simp [Builtin.append_, run_underlying ht, sizeOf, typeInfo, hi, Builtin.lenOf, hroom, hf, Addr.add_lit, hst]
    · refine ⟨g, cap, by simp, h1, by simpa using h2, by simpa using hroom, h4, fun j hj => ⟨?_, ?_⟩, fun j u hu => ?_⟩
      · by_cases e1 : j = xs.length
        · subst e1; rw [World.cell?_setCell_same w _ _ hold]; rfl
        · rw [World.cell?_setCell_other w _ _ _ (by intro e2; have e3 := congrArg Addr.off e2; simp at e3; exact e1 e3.symm)]; exact (h5 j hj).1
      · rw [World.frozen?_setCell]; exact (h5 j hj).2
      · rcases Nat.lt_trichotomy j xs.length with h8 | h8 | h8
        · rw [World.cell?_setCell_other w _ _ _ (by intro e2; have := congrArg Addr.off e2; simp at this; omega)]
          rw [List.getElem?_append_left h8] at hu
          exact h6 j u hu
        · subst h8
          rw [List.getElem?_append_right (Nat.le_refl _)] at hu
          simp at hu; subst hu
          exact World.cell?_setCell_same w _ _ hold
        · rw [List.getElem?_eq_none (by simp; omega)] at hu; cases hu
    · exact ⟨rfl, rfl, rfl, by simp, fun j _ hr => Below.heap_setCell _ _ _ _ (fun e2 => hr (by simp [Value.ownBlock, e2]))⟩
  · have hr := run_append_grow (P := P) w t ty e i (.int .u8 0) ht hi hz ⟨g, 0, none⟩ xs.length cap (xs.map (Value.int .u8)) (by simp [hsz]) (by
      intro j u hu
      rw [add_lit]
      rw [List.getElem?_map] at hu
      cases hx : xs[j]? with
      | none => rw [hx] at hu; cases hu
      | some y => rw [hx] at hu; cases hu; exact h6 j y hx) ⟨k, 0, none⟩ 1 c [.int .u8 x] (by simp [hsz]) hnews (by omega) (by omega) (growslice_fits (by omega) (by rw [hby]; omega))
    have hge := grownCap_ge w (xs.length + 1) cap e
    have hcm := grownCap_le_maxLen w (xs.length + 1) cap e (by unfold maxLen; omega)
    refine ⟨_, _, hr, ⟨w.heap.size, grownCap w (xs.length + 1) cap e, by simp, hb, by simp, by simpa using hge, hcm, fun j hj => ⟨?_, ?_⟩, fun j u hu => ?_⟩, ⟨rfl, rfl, rfl, by simp, fun j hj _ => (World.grownBy_alloc w.drew _ none).block j hj (by simp)⟩⟩
    · rw [show w.heap.size = w.drew.heap.size from rfl, World.cell?_alloc_new]
      rw [Array.getElem?_eq_getElem]
      · rfl
      · simp [size_zeroCells, Value.cells]; omega
    · exact World.frozen?_alloc_at _ _ _ _ rfl
    · have hj : j < xs.length + 1 := by
        rcases Nat.lt_or_ge j (xs.length + 1) with h8 | h8
        · exact h8
        · rw [List.getElem?_eq_none (by simpa using h8)] at hu; cases hu
      rw [show w.heap.size = w.drew.heap.size from rfl, World.cell?_alloc_new, Array.getElem?_append_left (by simpa using hj)]
      have e9 : ((xs.map (Value.int .u8)).toArray ++ [Value.int .u8 x].toArray) = ((xs ++ [x]).map (Value.int .u8)).toArray := by simp
      rw [e9, List.getElem?_toArray, List.getElem?_map, hu]; rfl

theorem wpList_app1 {P : Program} {ops : Array Oper} {rest : List Oper} {o : Oper} {a : Act} {Q : Exit → Act → World → Prop} {w : World} (hgd : o.guard = none) (s x : Operand) (t : TypeId)
    (ho : o.op = .call { callee := .builtin .append, args := #[s, x], argTypes := #[t, t] })
    (base : Nat) (e : TypeId) (i : TypeInfo) (ht : P.underlying t = some (.slice e)) (hi : P.info? e = some i) (hz : i.zero = some (.int .u8 0)) (hsz : i.size = 1) (hby : i.bytes = 1)
    (v : Value) (xs : List Int) (hs : a.eval s = v) (hown : OwnB w base v xs) (hbase : base ≤ w.heap.size)
    (k c : Nat) (u : Int) (hx : a.eval x = .slice (some ⟨k, 0, none⟩) 1 c) (ha : w.cell? ⟨k, 0, none⟩ = some (.int .u8 u)) (hlen : xs.length < 1000000000000)
    (h : ∀ v' w', OwnB w' base v' (xs ++ [u]) → w.grownBy w' v.ownBlock → wpList P ops Q rest (a.put o.dst v') w') :
    wpList P ops Q (o :: rest) a w := by
  refine wpList_plain hgd fun K hK => ?_
  obtain ⟨v', w', hr, h2, h3⟩ := run_app1 (P := P) w base t o.type e i ht hi hz hsz hby v xs hown hbase k c u ha hlen
  unfold Oper.wp execOp
  simp only [ho, resolve, invoke, builtin, Sem.run_bind, Sem.run_pure, Result.andThen_ok, List.map_toArray, List.map_cons, List.map_nil, hs, hx, hr]
  exact hK _ _ (h v' w' h2 h3)

theorem OwnB_conv (w : World) (base : Nat) (e : TypeId) (s : ByteArray) (hs : s.size ≤ maxLen) (hb : base ≤ w.heap.size) :
    OwnB (Lib.bytesWorld w e s) base (.slice (some ⟨w.heap.size, 0, none⟩) s.size (grownCap w s.size 0 e)) (s.data.toList.map (fun b => (b.toNat : Int))) := by
  have hge := grownCap_ge w s.size 0 e
  have hl : (s.data.toList.map (fun b => (b.toNat : Int))).length = s.size := by simp
  have hc : (Lib.bytesCells w e s).size = grownCap w s.size 0 e := by
    unfold Lib.bytesCells
    simp only [Array.size_append, Array.size_map, Array.size_replicate]
    show s.size + _ = _
    omega
  refine ⟨w.heap.size, grownCap w s.size 0 e, by rw [hl], hb, by rw [Lib.bytesWorld_size]; omega, by rw [hl]; exact hge, grownCap_le_maxLen _ _ _ _ hs, fun j hj => ⟨?_, ?_⟩, fun j u hu => ?_⟩
  · simp only [World.cell?, Lib.bytesWorld_at_new]
    rw [← hc] at hj
    simp [Array.getElem?_eq_getElem hj]
  · simp [World.frozen?, Lib.bytesWorld_at_new, hc]; omega
  · have hj : j < s.size := by
      rcases Nat.lt_or_ge j s.size with h8 | h8
      · exact h8
      · rw [List.getElem?_eq_none (by rw [hl]; exact h8)] at hu; cases hu
    rw [Lib.bytesWorld_cell w e s j hj]
    have hd : s.data.toList.length = s.size := by simp
    rw [List.getElem?_map, List.getElem?_eq_getElem (by rw [hd]; exact hj)] at hu
    simp only [Option.map_some, Option.some.injEq] at hu
    subst hu
    simp [List.getD, List.getElem?_eq_getElem (show j < s.data.toList.length by rw [hd]; exact hj)]
theorem grown_conv (w : World) (e : TypeId) (s : ByteArray) (row : Option Nat) : w.grownBy (Lib.bytesWorld w e s) row :=
  ⟨rfl, rfl, rfl, by rw [Lib.bytesWorld_size]; omega, fun k hk _ => Lib.bytesWorld_at_old w e s k hk⟩

theorem OwnB.put {w : World} {base : Nat} {xs : List Int} {g cap : Nat} (h : OwnB w base (.slice (some ⟨g, 0, none⟩) xs.length cap) xs) (i : Nat) (hi : i < xs.length) (x : Int) :
    OwnB (w.setCell ⟨g, i, none⟩ (.int .u8 x)) base (.slice (some ⟨g, 0, none⟩) xs.length cap) (xs.set i x) := by
  obtain ⟨g', cap', e, h1, h2, h3, h4, h5, h6⟩ := h
  cases e
  obtain ⟨old, hold⟩ := Option.isSome_iff_exists.1 (h5 i (by omega)).1
  refine ⟨g, cap, by simp, h1, by simpa using h2, by simpa using h3, h4, fun j hj => ⟨?_, ?_⟩, fun j u hu => ?_⟩
  · by_cases e1 : j = i
    · subst e1; rw [World.cell?_setCell_same w _ _ hold]; rfl
    · rw [World.cell?_setCell_other w _ _ _ (by intro e2; have e3 := congrArg Addr.off e2; simp at e3; exact e1 e3.symm)]; exact (h5 j hj).1
  · rw [World.frozen?_setCell]; exact (h5 j hj).2
  · by_cases e1 : j = i
    · subst e1
      rw [List.getElem?_set_self hi] at hu
      cases hu
      exact World.cell?_setCell_same w _ _ hold
    · rw [List.getElem?_set_ne (Ne.symm e1)] at hu
      rw [World.cell?_setCell_other w _ _ _ (by intro e2; have e3 := congrArg Addr.off e2; simp at e3; exact e1 e3.symm)]
      exact h6 j u hu
theorem OwnB.form {w : World} {base : Nat} {v : Value} {xs : List Int} (h : OwnB w base v xs) : ∃ g cap, v = .slice (some ⟨g, 0, none⟩) xs.length cap ∧ base ≤ g ∧ g < w.heap.size := by
  obtain ⟨g, cap, e, h1, h2, _⟩ := h
  exact ⟨g, cap, e, h1, h2⟩
theorem OwnB.at {w : World} {base : Nat} {xs : List Int} {g cap : Nat} (h : OwnB w base (.slice (some ⟨g, 0, none⟩) xs.length cap) xs) (i : Nat) (hi : i < xs.length) : w.cell? ⟨g, i, none⟩ = some (.int .u8 xs[i]) ∧ w.frozen? ⟨g, i, none⟩ = false := by
  obtain ⟨g', cap', e, h1, h2, h3, h4, h5, h6⟩ := h
  cases e
  exact ⟨h6 i _ (List.getElem?_eq_getElem hi), (h5 i (by omega)).2⟩
end Go.Proofs.YtkijpphmiogbbaaGreatDoor
