import Derived.Test.YtkijpphmiogbbaaGreatDoorH23
import Derived.Lib.SliceRun
import Derived.Deep.MidRow
namespace Go.Proofs.YtkijpphmiogbbaaGreatDoor
open Go.RowKit
attribute [local go_sem ↓] Go.wp_at_zero Go.wp_at_succ

theorem Sp.rateSet {w : World} {b : Nat} {s : Spg} (h : Sp w b s) (p : Nat) : Sp (w.setCell ⟨b, 25, none⟩ (.int .i64 p)) b { s with rate := p } := by
  refine ⟨h.row.set_past (by omega) _, ?_, ?_, ?_, ?_, fun i => ?_⟩
  · rw [cell_same h.c25]
  · rw [cell_other _ _ _ _ (Or.inr (by simp))]; exact h.c26
  · rw [cell_other _ _ _ _ (Or.inr (by simp))]; exact h.c27
  · rw [cell_other _ _ _ _ (Or.inr (by simp))]; exact h.c28
  · rw [frozen_set]; exact h.fz i
theorem Sp.enSet {w : World} {b : Nat} {s : Spg} (h : Sp w b s) (p : Int) : Sp (w.setCell ⟨b, 26, none⟩ (.int .u8 p)) b { s with en := p } := by
  refine ⟨h.row.set_past (by omega) _, ?_, ?_, ?_, ?_, fun i => ?_⟩
  · rw [cell_other _ _ _ _ (Or.inr (by simp))]; exact h.c25
  · rw [cell_same h.c26]
  · rw [cell_other _ _ _ _ (Or.inr (by simp))]; exact h.c27
  · rw [cell_other _ _ _ _ (Or.inr (by simp))]; exact h.c28
  · rw [frozen_set]; exact h.fz i
theorem grown_setCells (b : Nat) : ∀ (vs : List Value) (o : Nat) (w : World), w.grownBy (w.setCells b o vs) (some b)
  | [], _, w => World.grownBy.refl w _
  | v :: r, o, w => by rw [World.setCells]; exact grownBy_trans (grown_set b o w v) (grown_setCells b r (o + 1) _)
theorem sl37 (b : Nat) (W : World) : (Instr.sliceAt 145 (.pointer (some ⟨b, 0, none⟩)) none none none).run Tryz.prog W = .ok (.slice (some ⟨b, 0, none⟩) 25 25) W := by kernel_rfl
theorem run_clr (b : Nat) (s : Spg) (w : World) (hS : Sp w b s) :
    ∃ W1, (Builtin.clear_ #[302] 0 #[.slice (some ⟨b, 0, none⟩) 25 25]).run Tryz.prog w = .ok (.tuple #[]) W1 ∧ w.grownBy W1 (some b) ∧ Sp W1 b { s with L := fun _ => 0 } := by
  have hrun := Lib.run_clear_slice (P := Tryz.prog) w 302 143 0 (.int .u64 0) Tryz.under51 (fun _ => by kernel_rfl) rfl rfl b 0 25 25 (by omega)
    (by intro j hj; rw [Nat.zero_add, (hS.row j hj).1]; rfl) (by intro j hj; rw [Nat.zero_add]; exact hS.fz j)
  refine ⟨_, hrun, grown_setCells _ _ _ _, ?_⟩
  have ho : ∀ i, 25 ≤ i → (w.setCells b 0 (List.replicate 25 (.int .u64 0))).cell? ⟨b, i, none⟩ = w.cell? ⟨b, i, none⟩ := fun i hi =>
    World.cell?_setCells_out b _ 0 w ⟨b, i, none⟩ (fun _ _ => Or.inr (by simpa using hi))
  refine ⟨fun i hi => ⟨?_, ?_⟩, (ho 25 (by omega)).trans hS.c25, (ho 26 (by omega)).trans hS.c26, (ho 27 (by omega)).trans hS.c27, (ho 28 (by omega)).trans hS.c28, fun i => ?_⟩
  · have := World.cell?_setCells_in b (List.replicate 25 (.int .u64 0)) 0 w (fun j hj => by rw [Nat.zero_add, (hS.row j (by simpa using hj)).1]; rfl) i (by simpa using hi)
    rw [Nat.zero_add] at this
    rw [this, List.getElem_replicate]
  · rw [World.frozen?_setCells]; exact hS.fz i
  · rw [World.frozen?_setCells]; exact hS.fz i

def startS (rate : Nat) (en : Int) : Spg := ⟨fun _ => 0, rate, en, 0, false⟩
set_option maxHeartbeats 1000000 in
theorem start_any (b rate : Nat) (en : Int) (s : Spg) (w : World) (hS : Sp w b s) :
    Calls Tryz.prog 180 #[.pointer (some ⟨b, 0, none⟩), .int .i64 rate, .int .u8 en] w fun e w' => e = .returned (.tuple #[]) ∧ w.grownBy w' (some b) ∧ Sp w' b (startS rate en) := by
  obtain ⟨W1, h1, hg1, hS1⟩ := run_clr b s w hS
  have h2 := sl37 b
  have c25 := hS1.c25
  have c26 := hS1.c26
  have c27 := hS1.c27
  have c28 := hS1.c28
  have f25 := hS1.fz 25
  have f26 := hS1.fz 26
  have f27 := hS1.fz 27
  have f28 := hS1.fz 28
  go_enter Tryz.func180, Tryz.ntmps180
  go_wp2
  go_end0
  exact ⟨rfl, grownBy_trans hg1 (grownBy_trans (grownBy_trans (grownBy_trans (grown_set b 25 _ _) (grown_set b 26 _ _)) (grown_set b 27 _ _)) (grown_set b 28 _ _)), (((hS1.rateSet rate).enSet en).place 0).spentSet false⟩

set_option maxHeartbeats 400000 in
theorem rateOf_any (bits : Int) (w : World) (h0 : 0 ≤ bits) (h1 : bits ≤ 512) :
    Calls Tryz.prog 181 #[.int .i64 bits] w fun e w' => e = .returned (.int .i64 (200 - 2 * bits / 8)) ∧ w' = w := by
  go_enter Tryz.func181, Tryz.ntmps181
  go_wp2
  go_ret
  exact ⟨rfl, rfl⟩

theorem new_sp (w : World) (T : TypeId) : Sp (w.alloc (.cells #[.int .u64 0, .int .u64 0, .int .u64 0, .int .u64 0, .int .u64 0, .int .u64 0, .int .u64 0, .int .u64 0, .int .u64 0, .int .u64 0, .int .u64 0, .int .u64 0, .int .u64 0, .int .u64 0, .int .u64 0, .int .u64 0, .int .u64 0, .int .u64 0, .int .u64 0, .int .u64 0, .int .u64 0, .int .u64 0, .int .u64 0, .int .u64 0, .int .u64 0, .int .i64 0, .int .u8 0, .int .i64 0, .bool false] T)) w.heap.size ⟨fun _ => 0, 0, 0, 0, false⟩ := by
  refine ⟨fun i hi => ⟨?_, World.frozen?_alloc_at _ _ _ _ rfl⟩, by rw [World.cell?_alloc_new]; rfl, by rw [World.cell?_alloc_new]; rfl, by rw [World.cell?_alloc_new]; rfl, by rw [World.cell?_alloc_new]; rfl, fun i => World.frozen?_alloc_at _ _ _ _ rfl⟩
  rw [World.cell?_alloc_new]
  have h : i = 0 ∨ i = 1 ∨ i = 2 ∨ i = 3 ∨ i = 4 ∨ i = 5 ∨ i = 6 ∨ i = 7 ∨ i = 8 ∨ i = 9 ∨ i = 10 ∨ i = 11 ∨ i = 12 ∨ i = 13 ∨ i = 14 ∨ i = 15 ∨ i = 16 ∨ i = 17 ∨ i = 18 ∨ i = 19 ∨ i = 20 ∨ i = 21 ∨ i = 22 ∨ i = 23 ∨ i = 24 := by omega
  rcases h with rfl | rfl | rfl | rfl | rfl | rfl | rfl | rfl | rfl | rfl | rfl | rfl | rfl | rfl | rfl | rfl | rfl | rfl | rfl | rfl | rfl | rfl | rfl | rfl | rfl <;> rfl
theorem grown_new {w w1 w2 : World} {h : Nat} (g1 : w.grownBy w1 none) (g2 : w1.grownBy w2 (some h)) (hh : w.heap.size ≤ h) : w.grownBy w2 none :=
  ⟨g2.os.trans g1.os, g2.tape.trans g1.tape, g2.output.trans g1.output, Nat.le_trans g1.size g2.size, fun k hk hr => (g2.block k (Nat.lt_of_lt_of_le hk g1.size) (by simp; omega)).trans (g1.block k hk hr)⟩
theorem run_loadVar_cells {P : Program} (w : World) (ty : TypeId) (g : Nat) (cs : Array Value) (d : TypeDesc) (hg : ∀ j v, cs.toList[j]? = some v → w.cell? ⟨g, j, none⟩ = some v)
    (hu : P.underlying ty = some d) (hd : (match d with | .struct _ | .array _ _ => true | _ => false) = true) (hi : (P.info? ty).map (·.size) = some cs.size) :
    (loadVar ty ⟨g, 0, none⟩).run P w = .ok (.agg cs) w := by
  have hl : (loadCells ⟨g, 0, none⟩ cs.toList.length).run P w = .ok cs.toList.toArray w :=
    run_loadCells_list (P := P) w ⟨g, 0, none⟩ cs.toList (fun j v hv => by
      have hadd : (⟨g, 0, none⟩ : Addr).add j = ⟨g, j, none⟩ := by unfold Addr.add; split <;> simp_all
      rw [hadd]; exact hg j v hv)
  cases hq : P.info? ty with
  | none => simp [hq] at hi
  | some i =>
    have hs : i.size = cs.size := by simpa [hq] using hi
    have hagg : (isAgg ty).run P w = .ok true w := by
      unfold isAgg
      rw [Sem.run_bind, run_underlying hu w]
      cases d <;> simp_all
    simp only [Array.length_toList, Array.toArray_toList] at hl
    simp [loadVar, Sem.run_bind, hagg, sizeOf, typeInfo, hq, hs, hl]
theorem results_cell_cells {P : Program} {fn : Func} {p : Tmp} {ty : TypeId} (h : fn.results = #[.cell p ty]) (tmps : Array Value) (w : World) (g : Nat) (cs : Array Value)
    (hp : tmps.getD p undef = .pointer (some ⟨g, 0, none⟩)) (hrun : (loadVar ty ⟨g, 0, none⟩).run P w = .ok (.agg cs) w) : (results fn tmps).run P w = .ok (.agg cs) w := by
  have hp' : tmps[p]?.getD undef = .pointer (some ⟨g, 0, none⟩) := by simpa using hp
  simp [results, h, hp', asAddr, hrun]

/-- A sponge as a value. -/
def spL (s : Spg) : List Value := (List.range 25).map (fun i => Value.int .u64 (s.L i)) ++ [.int .i64 (s.rate : Int), .int .u8 s.en, .int .i64 (s.place : Int), .bool s.spent]
theorem spL_len (s : Spg) : (spL s).length = 29 := by simp [spL]
theorem spL_lane (s : Spg) (i : Nat) (h : i < 25) : (spL s)[i]? = some (.int .u64 (s.L i)) := by
  unfold spL
  rw [List.getElem?_append_left (by simpa using h), List.getElem?_map, List.getElem?_range h]; rfl
theorem spL_tail (s : Spg) (i : Nat) : (spL s)[25 + i]? = [Value.int .i64 (s.rate : Int), .int .u8 s.en, .int .i64 (s.place : Int), .bool s.spent][i]? := by
  unfold spL
  rw [List.getElem?_append_right (by simp)]
  simp
theorem spL_one (s : Spg) : ∀ v ∈ spL s, v.oneCell' = true := by
  intro v hv
  unfold spL at hv
  simp at hv
  rcases hv with ⟨i, _, rfl⟩ | rfl | rfl | rfl | rfl <;> rfl
theorem Sp.cells {w : World} {b : Nat} {s : Spg} (h : Sp w b s) : ∀ j v, (spL s).toArray.toList[j]? = some v → w.cell? ⟨b, j, none⟩ = some v := by
  intro j v hv
  rcases Nat.lt_or_ge j 25 with h1 | h1
  · rw [spL_lane s j h1] at hv; rw [(h.row j h1).1]; exact hv
  · obtain ⟨k, rfl⟩ : ∃ k, j = 25 + k := ⟨j - 25, by omega⟩
    have hv' : (spL s)[25 + k]? = some v := hv
    rw [spL_tail] at hv'
    match k with
    | 0 => rw [h.c25]; exact hv'
    | 1 => rw [h.c26]; exact hv'
    | 2 => rw [h.c27]; exact hv'
    | 3 => rw [h.c28]; exact hv'
    | k + 4 => simp at hv'
theorem Sp.of_cells {w : World} {b : Nat} {s : Spg} (h : ∀ j v, (spL s)[j]? = some v → w.cell? ⟨b, j, none⟩ = some v) (hf : ∀ i, w.frozen? ⟨b, i, none⟩ = false) : Sp w b s :=
  ⟨fun i hi => ⟨h i _ (spL_lane s i hi), hf i⟩, h 25 _ (spL_tail s 0), h 26 _ (spL_tail s 1), h 27 _ (spL_tail s 2), h 28 _ (spL_tail s 3), hf⟩
theorem Sp.there {w : World} {b : Nat} {s : Spg} (h : Sp w b s) (c : List Value) (hc : c.length = 29) : w.there b 0 c.toArray.size := fun j hj => by
  have hj' : j < 29 := by simpa [hc] using hj
  rw [Nat.zero_add]
  refine ⟨?_, h.fz j⟩
  have := h.cells j ((spL s)[j]'(by rw [spL_len]; exact hj')) (List.getElem?_eq_getElem _)
  rw [this]; rfl
theorem Sp.store {w : World} {b : Nat} {s : Spg} (h : Sp w b s) (s1 : Spg) : Sp (w.setCells b 0 (spL s1).toArray.toList) b s1 := by
  refine Sp.of_cells (fun j v hv => ?_) (fun i => by rw [World.frozen?_setCells]; exact h.fz i)
  have hj : j < (spL s1).length := by
    rcases Nat.lt_or_ge j (spL s1).length with h1 | h1
    · exact h1
    · rw [List.getElem?_eq_none h1] at hv; cases hv
  have := World.cell?_setCells_in b (spL s1).toArray.toList 0 w (fun j hj => (h.there (spL s1) (spL_len s1) j (by simpa using hj)).1) j (by simpa using hj)
  rw [Nat.zero_add] at this
  rw [this]
  rw [List.getElem?_eq_getElem hj] at hv
  simpa using hv
def aggD : TypeDesc → Bool
  | .struct _ => true
  | .array _ _ => true
  | _ => false
theorem wpList_load_agg {P : Program} {ops : Array Oper} {rest : List Oper} {o : Oper} {a : Act} {w : World} {Q : Exit → Act → World → Prop} (hgd : o.guard = none) (ty : TypeId) (x : Operand) (ho : o.op = .load ty x)
    (g : Nat) (hx : a.eval x = .pointer (some ⟨g, 0, none⟩)) (cs : Array Value) (hg : ∀ j v, cs.toList[j]? = some v → w.cell? ⟨g, j, none⟩ = some v)
    (hu : (P.underlying ty).map aggD = some true) (hi : (P.info? ty).map (·.size) = some cs.size)
    (h : wpList P ops Q rest (a.put o.dst (.agg cs)) w) : wpList P ops Q (o :: rest) a w := by
  cases hd : P.underlying ty with
  | none => rw [hd] at hu; cases hu
  | some d => exact wpList_load_cells hgd ty x ho g hx cs d hg hd (by rw [hd] at hu; cases d <;> simp_all [aggD]) hi h
theorem run_loadVar_agg {P : Program} (w : World) (ty : TypeId) (g : Nat) (cs : Array Value) (hg : ∀ j v, cs.toList[j]? = some v → w.cell? ⟨g, j, none⟩ = some v)
    (hu : (P.underlying ty).map aggD = some true) (hi : (P.info? ty).map (·.size) = some cs.size) : (loadVar ty ⟨g, 0, none⟩).run P w = .ok (.agg cs) w := by
  cases hd : P.underlying ty with
  | none => rw [hd] at hu; cases hu
  | some d => exact run_loadVar_cells w ty g cs d hg hd (by rw [hd] at hu; cases d <;> simp_all [aggD]) hi
theorem Tryz.uSponge : (Tryz.prog.underlying 147).map aggD = some true := by kernel_rfl
theorem Tryz.sSponge (s : Spg) : (Tryz.prog.info? 147).map (·.size) = some (spL s).toArray.size := by
  rw [List.size_toArray, spL_len]; kernel_rfl
theorem Globs.grown0 {w w' : World} (h : Globs w) (k : w.grownBy w' none) : Globs w' :=
  ⟨fun i hi => k.cell (h.tg i hi) (by simp), fun i hi => k.cell (h.tn i hi) (by simp), fun i hi => k.cell (h.rb i hi) (by simp), k.cell h.et (by simp)⟩
def zeroS : Spg := ⟨fun _ => 0, 0, 0, 0, false⟩
set_option maxHeartbeats 1000000 in
set_option maxRecDepth 10000 in
theorem spStream_any (bits : Int) (rate : Nat) (hr : 200 - 2 * bits / 8 = (rate : Int)) (hb0 : 0 ≤ bits) (hb1 : bits ≤ 512) (r0 : 0 < rate) (r1 : rate ≤ 200) (t : ByteArray) (ht : t.size ≤ maxLen) (w : World) (hG : Globs w) (h4 : 4 ≤ w.heap.size) :
    Calls Tryz.prog 97 #[.int .i64 bits, .string t] w fun e w' => e = .returned (.agg (spL (absorbS (startS rate 31) t.data.toList)).toArray) ∧ w.grownBy w' none := by
  have hT : Takes (startS rate 31) := ⟨r0, r1, r0⟩
  go_enter Tryz.func97, Tryz.ntmps97
  go_wp2_with fail
  refine (rateOf_any _ _ hb0 hb1).mono ?_
  rintro e w' ⟨rfl, hw⟩
  rw [hw, hr]
  clear hw w'
  go_wp2_with fail
  have hz0 : Sp (w.alloc _) w.heap.size zeroS := new_sp w 147
  have hz1 := new_sp (w.alloc (.cells #[.int .u64 0, .int .u64 0, .int .u64 0, .int .u64 0, .int .u64 0, .int .u64 0, .int .u64 0, .int .u64 0, .int .u64 0, .int .u64 0, .int .u64 0, .int .u64 0, .int .u64 0, .int .u64 0, .int .u64 0, .int .u64 0, .int .u64 0, .int .u64 0, .int .u64 0, .int .u64 0, .int .u64 0, .int .u64 0, .int .u64 0, .int .u64 0, .int .u64 0, .int .i64 0, .int .u8 0, .int .i64 0, .bool false] 147)) 147
  have hs1 : (w.alloc (.cells #[.int .u64 0, .int .u64 0, .int .u64 0, .int .u64 0, .int .u64 0, .int .u64 0, .int .u64 0, .int .u64 0, .int .u64 0, .int .u64 0, .int .u64 0, .int .u64 0, .int .u64 0, .int .u64 0, .int .u64 0, .int .u64 0, .int .u64 0, .int .u64 0, .int .u64 0, .int .u64 0, .int .u64 0, .int .u64 0, .int .u64 0, .int .u64 0, .int .u64 0, .int .i64 0, .int .u8 0, .int .i64 0, .bool false] 147)).heap.size = w.heap.size + 1 := by simp
  rw [hs1] at hz1
  refine (start_any (w.heap.size + 1) rate 31 zeroS _ hz1).mono ?_
  rintro e w1 ⟨rfl, hg1, hS1⟩
  have hg01 : w.grownBy w1 none := grown_new (grownBy_trans (World.grownBy_alloc w _ none) (World.grownBy_alloc _ _ none)) hg1 (by omega)
  have hZ1 : Sp w1 w.heap.size zeroS := (hz0.alloc _).far hg1 (by omega)
  have hG1 : Globs w1 := hG.grown0 hg01
  clear hg1 hz0 hz1 hs1
  go_wp2_with fail
  refine (spAbsorb_any (w.heap.size + 1) (by omega) t ht _ hT _ hS1 hG1).mono ?_
  rintro e w2 ⟨rfl, hg2, hS2⟩
  have hg02 := grown_new hg01 hg2 (by omega)
  have hZ2 : Sp w2 w.heap.size zeroS := hZ1.far hg2 (by omega)
  clear hg01 hg2 hS1 hG1 hZ1
  obtain ⟨s, hs⟩ : ∃ s, s = absorbS (startS rate 31) t.data.toList := ⟨_, rfl⟩
  rw [← hs] at hS2
  have HS : Hid (s = absorbS (startS rate 31) t.data.toList) := hs
  obtain ⟨l, hl⟩ : ∃ l, l = (spL s).toArray := ⟨_, rfl⟩
  have HL : Hid (l = (spL s).toArray) := hl
  have HC : Hid (∀ j v, l.toList[j]? = some v → w2.cell? ⟨w.heap.size + 1, j, none⟩ = some v) := by rw [hl]; exact hS2.cells
  have HT : Hid (w2.there w.heap.size 0 l.size) := by rw [hl]; exact hZ2.there (spL s) (spL_len s)
  have HZ : Hid ((Tryz.prog.info? 147).map (·.size) = some l.size) := by rw [hl]; exact Tryz.sSponge s
  have HO : Hid (l.all (·.oneCell') = true) := by rw [hl]; exact all_oneCell_toArray (spL_one s)
  clear hs hl
  go_wp2_with (first | (refine wpList_load_agg rfl 147 _ rfl (w.heap.size + 1) rfl l HC.out Tryz.uSponge HZ.out ?_) | (refine wpList_store_mid ?ga 147 (.tmp 4) (.tmp 11) ?gb w.heap.size 0 l ?gc ?gd ?ge HZ.out HO.out ?_; (case gb => rfl); (case ga => rfl); (case gc => rfl); (case gd => rfl); (case ge => exact HT.out)))
  have hS3 := hZ2.store s
  have hld := run_loadVar_agg (P := Tryz.prog) (w2.setCells w.heap.size 0 l.toList) 147 w.heap.size l (by rw [HL.out]; exact hS3.cells) Tryz.uSponge HZ.out
  refine bodyPost_ret (v := .agg l) ?_ rfl ⟨by rw [HL.out, HS.out], grown_new hg02 (grown_setCells _ _ _ _) (Nat.le_refl _)⟩
  exact results_cell_cells Tryz.results97 _ _ _ _ rfl hld
theorem Sp_box (w : World) (s : Spg) (T : TypeId) : Sp (w.alloc (.cells (spL s).toArray T)) w.heap.size s := by
  refine Sp.of_cells (fun j v hv => ?_) (fun i => World.frozen?_alloc_at _ _ _ _ rfl)
  rw [World.cell?_alloc_new, List.getElem?_toArray]; exact hv
theorem newSp_128 : (spL (absorbS (startS 168 31) (ByteArray.mk #[]).data.toList)).toArray = #[Value.int .u64 0, .int .u64 0, .int .u64 0, .int .u64 0, .int .u64 0, .int .u64 0, .int .u64 0, .int .u64 0, .int .u64 0, .int .u64 0, .int .u64 0, .int .u64 0, .int .u64 0, .int .u64 0, .int .u64 0, .int .u64 0, .int .u64 0, .int .u64 0, .int .u64 0, .int .u64 0, .int .u64 0, .int .u64 0, .int .u64 0, .int .u64 0, .int .u64 0, .int .i64 168, .int .u8 31, .int .i64 0, .bool false] := rfl
set_option maxHeartbeats 1000000 in
set_option maxRecDepth 10000 in
theorem newStream_128 (w : World) (hG : Globs w) (h4 : 4 ≤ w.heap.size) :
    Calls Tryz.prog 46 #[.int .i64 128] w fun e w' => ∃ b, w.heap.size ≤ b ∧ e = .returned (.tuple #[.pointer (some ⟨b, 0, none⟩), .nilIface]) ∧ w.grownBy w' none ∧ Sp w' b (startS 168 31) := by
  go_enter Tryz.func46, Tryz.ntmps46
  go_wp2_with fail
  refine (spStream_any 128 168 (by decide) (by decide) (by decide) (by decide) (by decide) _ (by decide) _ hG h4).mono ?_
  rintro e w1 ⟨rfl, hg1⟩
  rw [newSp_128]
  go_wp2
  go_ret2
  exact ⟨w1.heap.size, hg1.size, rfl, grownBy_trans hg1 (World.grownBy_alloc _ _ _), Sp_box w1 (startS 168 31) _⟩
theorem newSp_256 : (spL (absorbS (startS 136 31) (ByteArray.mk #[]).data.toList)).toArray = #[Value.int .u64 0, .int .u64 0, .int .u64 0, .int .u64 0, .int .u64 0, .int .u64 0, .int .u64 0, .int .u64 0, .int .u64 0, .int .u64 0, .int .u64 0, .int .u64 0, .int .u64 0, .int .u64 0, .int .u64 0, .int .u64 0, .int .u64 0, .int .u64 0, .int .u64 0, .int .u64 0, .int .u64 0, .int .u64 0, .int .u64 0, .int .u64 0, .int .u64 0, .int .i64 136, .int .u8 31, .int .i64 0, .bool false] := rfl
set_option maxHeartbeats 1000000 in
set_option maxRecDepth 10000 in
theorem newStream_256 (w : World) (hG : Globs w) (h4 : 4 ≤ w.heap.size) :
    Calls Tryz.prog 46 #[.int .i64 256] w fun e w' => ∃ b, w.heap.size ≤ b ∧ e = .returned (.tuple #[.pointer (some ⟨b, 0, none⟩), .nilIface]) ∧ w.grownBy w' none ∧ Sp w' b (startS 136 31) := by
  go_enter Tryz.func46, Tryz.ntmps46
  go_wp2_with fail
  refine (spStream_any 256 136 (by decide) (by decide) (by decide) (by decide) (by decide) _ (by decide) _ hG h4).mono ?_
  rintro e w1 ⟨rfl, hg1⟩
  rw [newSp_256]
  go_wp2
  go_ret2
  exact ⟨w1.heap.size, hg1.size, rfl, grownBy_trans hg1 (World.grownBy_alloc _ _ _), Sp_box w1 (startS 136 31) _⟩
end Go.Proofs.YtkijpphmiogbbaaGreatDoor
