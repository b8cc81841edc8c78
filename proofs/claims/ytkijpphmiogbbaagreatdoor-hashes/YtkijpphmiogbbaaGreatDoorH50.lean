import Derived.Test.YtkijpphmiogbbaaGreatDoorRows
import Derived.Test.YtkijpphmiogbbaaGreatDoorCards
import Derived.Test.YtkijpphmiogbbaaGreatDoorTie
import Derived.SevenTiedAt
import Derived.Test.YtkijpphmiogbbaaGreatDoorH01
import Derived.Test.YtkijpphmiogbbaaGreatDoorH49
namespace Go.Proofs.YtkijpphmiogbbaaGreatDoor.Z
open Go.RowKit
attribute [local go_sem ↓] Go.wp_at_zero Go.wp_at_succ

theorem hash_any {B c : Nat} {w0 w : World} (hG0 : Globs w0) (hB : 4 ≤ B) (hc : c ≤ 40000) (o : OpV) (ho : OpOK o) (h8 : 8 ≤ o.kind) (h11 : o.kind ≤ 11) (h : SW (XH B w0) B c w) :
    Calls Tryz.prog 16 #[.pointer (some ⟨B, 0, none⟩), opVal o] w fun e w' => e = .returned (.bool true) ∧ SW (XH B w0) B (c + 1) w' := by
  have hk : o.kind = 8 ∨ o.kind = 9 ∨ o.kind = 10 ∨ o.kind = 11 := by omega
  rcases hk with hk | hk | hk | hk
  · exact hash_8 hG0 hB hc o ho hk h
  · by_cases b1 : o.a = 128
    · exact hash_9 hG0 hB hc o ho hk (fun W g1 g2 => by rw [b1]; exact opened_128 W g1 g2) h
    · by_cases b2 : o.a = 256
      · exact hash_9 hG0 hB hc o ho hk (fun W g1 g2 => by rw [b2]; exact opened_256 W g1 g2) h
      · exact hash_9n hG0 hB hc o ho hk (by simpa using b1) (by simpa using b2) h
  · exact hash_st hG0 hB hc o ho (Or.inl hk) h
  · exact hash_st hG0 hB hc o ho (Or.inr hk) h
theorem step_hashes {B c : Nat} {w0 w : World} (hG0 : Globs w0) (hB : 4 ≤ B) (hc : c + 1 ≤ 40000) (o : OpV) (ho : OpOK o) (hk : o.kind < 8 ∨ (8 ≤ o.kind ∧ o.kind ≤ 11)) (h : SW (XH B w0) B c w) :
    Calls Tryz.prog 14 #[.pointer (some ⟨B, 0, none⟩), opVal o] w fun e w' => e = .returned (.bool true) ∧ SW (XH B w0) B (c + 2) w' := by
  have hX := XH_local B w0
  rcases hk with hk | ⟨h8, h11⟩
  · by_cases h1 : o.kind < 1
    · exact step_none hX hc o ho h1 h
    · exact step_own hX (by omega) o ho (by omega) (by omega) h
  · exact step_hash hX hc o ho h8 h11 (fun W hW => hash_any hG0 hB (by omega) o ho h8 h11 hW) h
theorem init_SW (w : World) : SW (XH w.heap.size w) w.heap.size 0 (newW w) := by
  refine ⟨.slice none 0 0, .slice none 0 0, sv0, [], 0, [], fun k => k < w.heap.size, heap_alloc_new w _, World.ownsRow_nil _ _ _ _, Nat.le_refl _, (fun t ht => by cases ht), World.ownsRow_nil _ _ _ _, Nat.le_refl _, (fun t ht => by cases ht), Nat.lt_irrefl _, (fun g hg => by simp [Value.ownBlock] at hg), (fun g hg => by simp [Value.ownBlock] at hg), fun k hk => Nat.lt_trans hk (by simp), rfl, 0, fun _ => ⟨0, 0, 0, ByteArray.empty, false, 0⟩, ?_⟩
  exact ⟨below_of_grown (World.grownBy_alloc w _ none), fun k hk => hk, World.ownsRow_nil _ _ _ _, Nat.le_refl _, (fun g hg => by simp [Value.ownBlock] at hg), (fun g hg => by simp [Value.ownBlock] at hg), (fun j hj => absurd hj (by omega)), fun i j hi => absurd hi (by omega)⟩
theorem below_trans {w w1 w2 : World} (h : w.grownBy w1 none) (k : Below w1.heap.size w1 w2) : Below w.heap.size w w2 :=
  ⟨k.os.trans h.os, k.tape.trans h.tape, k.output.trans h.output, Nat.le_trans h.size k.size, fun i hi => (k.block i (Nat.lt_of_lt_of_le hi h.size)).trans (h.block i hi (by simp))⟩
theorem Scr.new {w w' : World} {a0 : Option Addr} {len cap : Nat} {ops : Nat → OpV} {adr : Nat → Addr} (h : Scr w a0 len cap ops adr) (hg : w.grownBy w' none) : Scr w' a0 len cap ops adr :=
  ⟨h.ix, fun i k v hi hv => hg.cell (h.cell i k v hi hv) (by simp), h.ok, h.len⟩
set_option maxHeartbeats 2000000 in
theorem hashes_any (w : World) (a0 : Option Addr) (len cap : Nat) (ops : Nat → OpV) (adr : Nat → Addr) (h : Scr w a0 len cap ops adr) (hG : Globs w) (h4 : 4 ≤ w.heap.size) :
    Calls Tryz.prog 3 #[.slice a0 len cap] w fun e w' => e = .returned (.bool true) ∧ Below w.heap.size w w' := by
  have hg1 : w.grownBy (w.alloc (.cells #[.int .i64 8, .int .i64 9, .int .i64 10, .int .i64 11] 3)) none := World.grownBy_alloc _ _ _
  have hp := plays_any (w := w.alloc (.cells #[.int .i64 8, .int .i64 9, .int .i64 10, .int .i64 11] 3)) a0 len cap ops adr (h.new hg1) w.heap.size 4 (fun j => 8 + (j : Int)) (by omega)
    (fun j hj => by
      rw [World.cell?_alloc_new]
      match j, hj with
      | 0, _ => rfl
      | 1, _ => rfl
      | 2, _ => rfl
      | 3, _ => rfl)
    (fun wr v os hg2 hO hn hgood => by
      have h4r : 4 ≤ wr.heap.size := Nat.le_trans h4 (Nat.le_trans hg1.size hg2.size)
      have hGr : Globs wr := (hG.new hg1).new hg2
      have hu := upTo_any (X := XH wr.heap.size wr) (w := wr) v os _ hn hO (fun W c hW k hk => (SW_low hW).block k hk) (init_SW wr)
        (fun o ho c W hc hW => step_hashes hGr h4r hc o (hgood o ho).1 (by
          rcases (hgood o ho).2 with h1 | ⟨j, hj, h1⟩
          · exact Or.inl h1
          · have h2 : o.kind = 8 + (j : Int) := h1
            exact Or.inr (by omega)) hW)
      exact hu.mono fun e w' ⟨he, hS⟩ => ⟨he, below_trans hg2 (SW_low hS)⟩)
  have HP : Hid (Calls Tryz.prog 11 #[.slice a0 len cap, .slice (some ⟨w.heap.size, 0, none⟩) 4 4] (w.alloc (.cells #[.int .i64 8, .int .i64 9, .int .i64 10, .int .i64 11] 3)) fun e w' => e = .returned (.bool true) ∧ Below (w.alloc (.cells #[.int .i64 8, .int .i64 9, .int .i64 10, .int .i64 11] 3)).heap.size (w.alloc (.cells #[.int .i64 8, .int .i64 9, .int .i64 10, .int .i64 11] 3)) w') := hp
  clear hp h
  go_enter Tryz.func3, Tryz.ntmps3
  go_wp2_with fail
  refine HP.out.mono ?_
  rintro e w2 ⟨rfl, hb⟩
  have HB : Hid (Below w.heap.size w w2) := below_trans hg1 hb
  clear hb hg1 HP
  go_wp2
  go_ret
  exact ⟨rfl, HB.out⟩
end Go.Proofs.YtkijpphmiogbbaaGreatDoor.Z
namespace Go.Proofs.YtkijpphmiogbbaaGreatDoor
open Go

/-- A closed fact by itself: together with the others it outgrows the lid. -/
theorem hashes_goes : Rows.hashesCard.goes = Rows.hashesCard.stood.row.goesBy Tryz.pinned.checked.prog :=
  Cl.goesBy_of (f := 3) (by kernel_rfl) (Cl.way _ (by kernel_rfl))
end Go.Proofs.YtkijpphmiogbbaaGreatDoor
