import Derived.Test.YtkijpphmiogbbaaGreatDoorH15
namespace Go.Proofs.YtkijpphmiogbbaaGreatDoor.Z
open Go.RowKit
attribute [local go_sem ↓] Go.wp_at_zero Go.wp_at_succ
variable {w : World}

theorem Tryz.uOps : Tryz.prog.underlying 22 = some (.slice 28) := by kernel_rfl
theorem Tryz.iOp : (Tryz.prog.info? 28).map (fun i => (i.zero, i.size, i.bytes)) = some (some (.agg #[.int .i64 0, .int .i64 0, .int .i64 0, .int .i64 0, .int .i64 0, .int .i64 0, .int .i64 0, .string ByteArray.empty]), 8, 72) := by kernel_rfl
theorem grown_own {w w1 w2 : World} {v : Value} (g1 : w.grownBy w1 none) (g2 : w1.grownBy w2 v.ownBlock) (hb : ∀ b, v.ownBlock = some b → w.heap.size ≤ b) : w.grownBy w2 none :=
  ⟨g2.os.trans g1.os, g2.tape.trans g1.tape, g2.output.trans g1.output, Nat.le_trans g1.size g2.size, fun k hk hr => (g2.block k (Nat.lt_of_lt_of_le hk g1.size) (fun e => by have := hb k e.symm; omega)).trans (g1.block k hk hr)⟩
theorem flat_snoc (ops : List OpV) (o : OpV) : flat (ops ++ [o]) = flat ops ++ opL o := by unfold flat; rw [List.flatMap_append]; simp
def Good (ks : Nat → Int) (m : Nat) (o : OpV) : Prop := OpOK o ∧ (o.kind < 8 ∨ ∃ j, j < m ∧ o.kind = ks j)
set_option maxHeartbeats 4000000 in
set_option maxRecDepth 20000 in
theorem plays_any (a0 : Option Addr) (len cap : Nat) (ops : Nat → OpV) (adr : Nat → Addr) (h : Scr w a0 len cap ops adr) (K m : Nat) (ks : Nat → Int) (hm : m ≤ 100) (hks : ∀ j, j < m → w.cell? ⟨K, j, none⟩ = some (.int .i64 (ks j)))
    (hup : ∀ wr v (os : List OpV), w.grownBy wr none → wr.ownsRow w.heap.size 28 8 v os.length (flat os) → os.length ≤ 16384 → (∀ o ∈ os, Good ks m o) →
      Calls Tryz.prog 13 #[v] wr fun e w' => e = .returned (.int .i64 (-1)) ∧ Below w.heap.size w w') :
    Calls Tryz.prog 11 #[.slice a0 len cap, .slice (some ⟨K, 0, none⟩) m m] w fun e w' => e = .returned (.bool true) ∧ Below w.heap.size w w' := by
  have H : Hid (Scr w a0 len cap ops adr) := h
  have HK : Hid (∀ j, j < m → w.cell? ⟨K, j, none⟩ = some (.int .i64 (ks j))) := hks
  have HUP : Hid (∀ wr v (os : List OpV), w.grownBy wr none → wr.ownsRow w.heap.size 28 8 v os.length (flat os) → os.length ≤ 16384 → (∀ o ∈ os, Good ks m o) →
      Calls Tryz.prog 13 #[v] wr fun e w' => e = .returned (.int .i64 (-1)) ∧ Below w.heap.size w w') := hup
  have hl := h.len
  clear hks hup h
  go_enter Tryz.func11, Tryz.ntmps11
  go_wp2_with fail
  refine (small_any a0 len cap ops adr H.out).mono ?_
  rintro e w' ⟨hw, he⟩
  rw [hw]
  clear hw w'
  rcases he with rfl | ⟨rfl, hlen⟩
  · go_wp2
    go_ret
    exact ⟨rfl, below_of_grown (World.grownBy.refl _ _)⟩
  · have l0 : (len : Int) ≤ 16384 := by omega
    have m0 : (m : Int) ≤ 100 := by omega
    go_wp2
    go_loopw [6, 7] (fun v i wr => ∃ (k : Nat) (os : List OpV), k ≤ len ∧ os.length ≤ k ∧ i = .int .i64 k ∧ w.grownBy wr none ∧ wr.ownsRow w.heap.size 28 8 v os.length (flat os) ∧ Hid (∀ o ∈ os, Good ks m o)) (fun _ i _ => len - (intOf i).toNat)
    case atStart => exact ⟨0, [], by omega, Nat.le_refl _, rfl, World.grownBy.refl _ _, World.ownsRow_nil _ _ _ _, fun o ho => by cases ho⟩
    case round =>
      obtain ⟨k, os, hk, hos, rfl, hg, hO, HG⟩ := hrel
      by_cases hlt : k < len
      · have k0 : (k : Int) < (len : Int) := by omega
        have hx := fun W => H.out.ix k W hlt
        have cc := fun j v hv => hg.cell (H.out.cell k j v hlt hv) (by simp)
        have e0 : wr.cell? (adr k) = some (.int .i64 (ops k).kind) := cc 0 _ rfl
        have e1 : wr.cell? ⟨(adr k).block, (adr k).off + 1, none⟩ = some (.int .i64 (ops k).x) := cc 1 _ rfl
        have e2 : wr.cell? ⟨(adr k).block, (adr k).off + 2, none⟩ = some (.int .i64 (ops k).y) := cc 2 _ rfl
        have e3 : wr.cell? ⟨(adr k).block, (adr k).off + 3, none⟩ = some (.int .i64 (ops k).z) := cc 3 _ rfl
        have e4 : wr.cell? ⟨(adr k).block, (adr k).off + 4, none⟩ = some (.int .i64 (ops k).w) := cc 4 _ rfl
        have e5 : wr.cell? ⟨(adr k).block, (adr k).off + 5, none⟩ = some (.int .i64 (ops k).a) := cc 5 _ rfl
        have e6 : wr.cell? ⟨(adr k).block, (adr k).off + 6, none⟩ = some (.int .i64 (ops k).b) := cc 6 _ rfl
        have e7 : wr.cell? ⟨(adr k).block, (adr k).off + 7, none⟩ = some (.string (ops k).s) := cc 7 _ rfl
        have hok := H.out.ok k hlt
        have HOK : Hid (OpOK (ops k)) := ⟨hok.1, hok.2.1, hok.2.2.1, hok.2.2.2.1, hok.2.2.2.2.1, hok.2.2.2.2.2.1, hok.2.2.2.2.2.2.1, hok.2.2.2.2.2.2.2⟩
        clear cc hok
        generalize ops k = o at *
        generalize adr k = ad at *
        go_wp2
        go_loopw [9, 10] (fun b j wv => ∃ (t : Bool) (jj : Nat), jj ≤ m ∧ b = .bool t ∧ j = .int .i64 jj ∧ wv = wr ∧ Hid (t = true → o.kind < 8 ∨ ∃ j, j < m ∧ o.kind = ks j)) (fun _ j _ => m - (intOf j).toNat)
        case atStart => exact ⟨_, 0, by omega, rfl, rfl, rfl, fun ht => Or.inl (by simpa using ht)⟩
        case round =>
          obtain ⟨t, jj, hj, rfl, rfl, rfl, HT⟩ := hrel
          by_cases hjl : jj < m
          · have j0 : (jj : Int) < (m : Int) := by omega
            have kc := hg.cell (HK.out jj hjl) (by simp)
            cases t with
            | true =>
              go_wp2
              go_roundw
              case rel => exact ⟨true, jj + 1, by omega, rfl, by go_num, trivial, HT.out⟩
              case measure => simp [intOf]; omega
            | false =>
              go_wp2
              go_roundw
              case rel => exact ⟨_, jj + 1, by omega, rfl, by go_num, trivial, fun ht => Or.inr ⟨jj, hjl, by simpa using ht⟩⟩
              case measure => simp [intOf]; omega
          · have hjm : m = jj := by omega
            subst hjm
            cases t with
            | false =>
              go_wp2
              go_roundw
              case rel => exact ⟨k + 1, os, by omega, by omega, by go_num, hg, hO, HG.out⟩
              case measure => simp [intOf]; omega
            | true =>
              obtain ⟨i0, hi, hz0, hz1, hz2⟩ := info_of Tryz.iOp
              simp only at hz0 hz1 hz2
              have HI : Hid (Tryz.prog.info? 28 = some i0) := hi
              have HO : Hid (wr.ownsRow w.heap.size 28 8 u6 os.length (flat os)) := hO
              have hbb : ∀ b, Value.ownBlock u6 = some b → w.heap.size ≤ b := fun b hb => (hO.lt b hb).1
              clear hi hO
              go_wp2_with (first | (at_builtin; refine wpList_append_own_at _ rfl _ _ 22 rfl w.heap.size 28 i0 _ 8 72 Tryz.uOps HI.out hz0 hz1 hz2 rfl (by decide) _ os.length (flat os) rfl (HO.out.alloc _) ⟨_, 0, none⟩ 1 1 (opL o) rfl rfl ?c1 ?c2 ?c3 ?c4 ?c5 ?_))
              case c1 =>
                intro j u hj
                exact hj
              case c2 =>
                intro u hu
                unfold opL at hu
                simp only [List.mem_cons, List.not_mem_nil, or_false] at hu
                rcases hu with rfl | rfl | rfl | rfl | rfl | rfl | rfl | rfl <;> rfl
              case c3 => unfold maxLen; omega
              case c4 => omega
              case c5 => have := hg.size; omega
              intro v' w2 ho hg2 _ _
              clear e0 e1 e2 e3 e4 e5 e6 e7
              go_wp2
              go_roundw
              case rel =>
                refine ⟨k + 1, os ++ [o], by omega, by simp; omega, by go_num, grown_own (grownBy_trans hg (World.grownBy_alloc _ _ none)) hg2 hbb, ?_, ?_⟩
                · rw [flat_snoc, List.length_append]; exact ho
                · intro p hp
                  rcases List.mem_append.1 hp with h1 | h1
                  · exact HG.out p h1
                  · rw [List.mem_singleton.1 h1]; exact ⟨HOK.out, HT.out trivial⟩
              case measure => simp [intOf]; omega
      · have hkl : len = k := by omega
        subst hkl
        go_wp2_with fail
        refine (HUP.out _ _ os hg hO (by omega) HG.out).mono ?_
        rintro e w2 ⟨rfl, hb⟩
        go_wp2
        go_ret
        exact ⟨rfl, hb⟩
end Go.Proofs.YtkijpphmiogbbaaGreatDoor.Z
