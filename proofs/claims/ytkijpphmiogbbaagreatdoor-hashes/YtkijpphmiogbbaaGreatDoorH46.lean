import Derived.Test.YtkijpphmiogbbaaGreatDoorH45
import Derived.Deep.RegionWith
namespace Go.Proofs.YtkijpphmiogbbaaGreatDoor
open Go.RowKit
attribute [local go_sem ↓] Go.wp_at_zero Go.wp_at_succ

theorem Globs.new {w w' : World} (h : Globs w) (k : w.grownBy w' none) : Globs w' := h.grown0 k
/-- A stream of the law, and what it must be. -/
structure St where
  p : Nat
  b : Nat
  k : Nat
  s : ByteArray
  sp : Bool
  a : Nat
def rk (k : Nat) : Nat := if k = 0 then 168 else 136
def stF (k : Nat) (l : List UInt8) : Spg := finishS (absorbS (startS (rk k) 31) l)
def stS (k : Nat) (l : List UInt8) (sp : Bool) (a : Nat) : Spg := if sp = true then sqTo (stF k l) a else absorbS (startS (rk k) 31) l
structure StAt (W : World) (r : St) : Prop where
  blk : W.heap[r.p]? = some (.cells #[.pointer (some ⟨r.b, 0, none⟩), .int .i64 (128 + 128 * (r.k : Int)), .string r.s, .bool r.sp, .int .i64 (r.a : Int)] 85)
  sp : Sp W r.b (stS r.k r.s.data.toList r.sp r.a)
  k : r.k < 2
  b4 : 4 ≤ r.b
  pb : r.p ≠ r.b
  a0 : r.sp = false → r.a = 0
theorem StAt.c {W : World} {r : St} (h : StAt W r) (i : Nat) (v : Value) (hv : (#[Value.pointer (some ⟨r.b, 0, none⟩), .int .i64 (128 + 128 * (r.k : Int)), .string r.s, .bool r.sp, .int .i64 (r.a : Int)])[i]? = some v) : W.cell? ⟨r.p, i, none⟩ = some v := by
  rw [cell_of_row W r.p i _ _ _ h.blk]; exact hv
theorem StAt.fz {W : World} {r : St} (h : StAt W r) (i : Nat) : W.frozen? ⟨r.p, i, none⟩ = false := by simp [World.frozen?, h.blk]
theorem StAt.plt {W : World} {r : St} (h : StAt W r) : r.p < W.heap.size := (Array.getElem?_eq_some_iff.1 h.blk).1
/-- Only these two blocks were written. -/
structure Two (p b : Nat) (w w' : World) : Prop where
  os : w'.os = w.os
  tape : w'.tape = w.tape
  output : w'.output = w.output
  size : w.heap.size ≤ w'.heap.size
  block : ∀ k, k < w.heap.size → k ≠ p → k ≠ b → w'.heap[k]? = w.heap[k]?
theorem two_of {p b : Nat} {w w' : World} (h : w.grownBy w' (some b)) : Two p b w w' := ⟨h.os, h.tape, h.output, h.size, fun k hk _ hb => h.block k hk (by simpa using hb)⟩
theorem two_new {p b : Nat} {w w' : World} (h : w.grownBy w' none) : Two p b w w' := ⟨h.os, h.tape, h.output, h.size, fun k hk _ _ => h.block k hk (by simp)⟩
theorem Two.trans {p b : Nat} {w w1 w2 : World} (h : Two p b w w1) (k : Two p b w1 w2) : Two p b w w2 :=
  ⟨k.os.trans h.os, k.tape.trans h.tape, k.output.trans h.output, Nat.le_trans h.size k.size, fun i hi hp hb => (k.block i (Nat.lt_of_lt_of_le hi h.size) hp hb).trans (h.block i hi hp hb)⟩
theorem two_set {p b : Nat} (w : World) (i : Nat) (v : Value) : Two p b w (w.setCell ⟨p, i, none⟩ v) := ⟨rfl, rfl, rfl, by simp, fun k _ hp _ => Below.heap_setCell _ _ _ _ hp⟩
theorem StAt.new {W W' : World} {r : St} (h : StAt W r) (hg : W.grownBy W' none) : StAt W' r where
  blk := by rw [hg.block r.p h.plt (by simp)]; exact h.blk
  sp := by
    have := h.sp
    refine ⟨fun i hi => ⟨hg.cell (this.row i hi).1 (by simp), ?_⟩, hg.cell this.c25 (by simp), hg.cell this.c26 (by simp), hg.cell this.c27 (by simp), hg.cell this.c28 (by simp), fun i => ?_⟩
    · rw [hg.frozen_far ⟨r.b, i, none⟩ this.lt (by simp)]; exact (this.row i hi).2
    · rw [hg.frozen_far ⟨r.b, i, none⟩ this.lt (by simp)]; exact this.fz i
  k := h.k
  b4 := h.b4
  pb := h.pb
  a0 := h.a0
theorem rk_ok (k : Nat) : 0 < rk k ∧ rk k ≤ 200 := by unfold rk; split <;> omega
theorem start_tk (k : Nat) : Takes (startS (rk k) 31) := start_ok (rk k) 31 (rk_ok k).1 (rk_ok k).2
theorem stF_gives (k : Nat) (l : List UInt8) : Gives (stF k l) := finish_gives (absorbS_takes l (start_tk k)).1
set_option maxHeartbeats 2000000 in
theorem opened_128 (w : World) (hG : Globs w) (h4 : 4 ≤ w.heap.size) :
    Calls Tryz.prog 25 #[.int .i64 128] w fun e w' => ∃ r : St, e = .returned (.tuple #[.pointer (some ⟨r.p, 0, none⟩), .bool true]) ∧ w.grownBy w' none ∧ StAt w' r ∧ w.heap.size ≤ r.p ∧ w.heap.size ≤ r.b ∧ r.s.size = 0 ∧ r.a = 0 := by
  go_enter Tryz.func25, Tryz.ntmps25
  go_wp2_with fail
  refine (newStream_128 _ hG h4).mono ?_
  rintro e w1 ⟨b, hb, rfl, hg1, hS1⟩
  go_wp2_with fail
  refine (ltold_nil _).mono ?_
  rintro e w' ⟨rfl, hw⟩
  rw [hw]
  clear hw w'
  go_wp2
  go_ret2
  have hlt := hS1.lt
  refine ⟨⟨w1.heap.size, b, 0, ByteArray.mk #[], false, 0⟩, rfl, grownBy_trans hg1 (World.grownBy_alloc _ _ _), ⟨?_, hS1.alloc _, by show 0 < 2; omega, by show 4 ≤ b; omega, by show w1.heap.size ≠ b; omega, fun _ => rfl⟩, hg1.size, hb, rfl, rfl⟩
  rw [heap_alloc_new]; rfl
set_option maxHeartbeats 2000000 in
theorem opened_256 (w : World) (hG : Globs w) (h4 : 4 ≤ w.heap.size) :
    Calls Tryz.prog 25 #[.int .i64 256] w fun e w' => ∃ r : St, e = .returned (.tuple #[.pointer (some ⟨r.p, 0, none⟩), .bool true]) ∧ w.grownBy w' none ∧ StAt w' r ∧ w.heap.size ≤ r.p ∧ w.heap.size ≤ r.b ∧ r.s.size = 0 ∧ r.a = 0 := by
  go_enter Tryz.func25, Tryz.ntmps25
  go_wp2_with fail
  refine (newStream_256 _ hG h4).mono ?_
  rintro e w1 ⟨b, hb, rfl, hg1, hS1⟩
  go_wp2_with fail
  refine (ltold_nil _).mono ?_
  rintro e w' ⟨rfl, hw⟩
  rw [hw]
  clear hw w'
  go_wp2
  go_ret2
  have hlt := hS1.lt
  refine ⟨⟨w1.heap.size, b, 1, ByteArray.mk #[], false, 0⟩, rfl, grownBy_trans hg1 (World.grownBy_alloc _ _ _), ⟨?_, hS1.alloc _, by show 1 < 2; omega, by show 4 ≤ b; omega, by show w1.heap.size ≠ b; omega, fun _ => rfl⟩, hg1.size, hb, rfl, rfl⟩
  rw [heap_alloc_new]; rfl
set_option maxHeartbeats 1000000 in
theorem newStream_none (bits : Int) (w : World) (h1 : (bits != 128) = true) (h2 : (bits != 256) = true) :
    Calls Tryz.prog 46 #[.int .i64 bits] w fun e w' => e = .returned (.tuple #[.pointer none, .iface 138 (.int .i64 1)]) ∧ w' = w := by
  go_enter Tryz.func46, Tryz.ntmps46
  go_wp2
  go_ret2
  exact ⟨rfl, rfl⟩
set_option maxHeartbeats 2000000 in
theorem opened_none (bits : Int) (w : World) (hG : Globs w) (h1 : (bits != 128) = true) (h2 : (bits != 256) = true) :
    Calls Tryz.prog 25 #[.int .i64 bits] w fun e w' => e = .returned (.tuple #[.pointer none, .bool true]) ∧ w.grownBy w' none := by
  go_enter Tryz.func25, Tryz.ntmps25
  go_wp2_with fail
  refine (newStream_none bits _ h1 h2).mono ?_
  rintro e w' ⟨rfl, hw⟩
  rw [hw]
  clear hw w'
  go_wp2_with fail
  refine (ltold_err 1 _ hG (by decide)).mono ?_
  rintro e w1 ⟨rfl, hg1⟩
  go_wp2
  go_ret2
  exact ⟨rfl, hg1⟩
/-- What was done to a stream. -/
structure Did (n : Nat) (r r' : St) (w w' : World) : Prop where
  two : Two r.p r.b w w'
  at' : StAt w' r'
  p : r'.p = r.p
  b : r'.b = r.b
  s : r'.s.size ≤ r.s.size + n
  a : r'.a ≤ r.a + n
theorem heap_set5 {w : World} {p i : Nat} {cs : Array Value} {T : TypeId} {v : Value} (h : w.heap[p]? = some (.cells cs T)) : (w.setCell ⟨p, i, none⟩ v).heap[p]? = some (.cells (cs.setIfInBounds i v) T) :=
  Go.heap_setCell_same w p i cs T v h
set_option maxHeartbeats 2000000 in
theorem absorbed_any (r : St) (t : ByteArray) (ht : t.size ≤ 20000) (hrs : r.s.size ≤ 1000000000) (w : World) (h : StAt w r) (hG : Globs w) :
    Calls Tryz.prog 27 #[.pointer (some ⟨r.p, 0, none⟩), .string t] w fun e w' => e = .returned (.bool true) ∧ ∃ r', Did 20000 r r' w w' := by
  have c0 : w.cell? ⟨r.p, 0, none⟩ = some (.pointer (some ⟨r.b, 0, none⟩)) := h.c 0 _ rfl
  have c3 : w.cell? ⟨r.p, 3, none⟩ = some (.bool r.sp) := h.c 3 _ rfl
  cases hsp : r.sp with
  | true =>
    have hS := h.sp
    have e9 : stS r.k r.s.data.toList r.sp r.a = sqTo (stF r.k r.s.data.toList) r.a := by unfold stS; rw [if_pos hsp]
    rw [e9] at hS
    have hV := sqTo_gives (stF_gives r.k r.s.data.toList) r.a
    rw [hsp] at c3
    have HH : Hid (StAt w r) := h
    clear h e9
    go_enter Tryz.func27, Tryz.ntmps27
    go_wp2_with fail
    refine (absorb_spent r.b t _ hV.r0 hV.sp _ hS).mono ?_
    rintro e w' ⟨rfl, hw⟩
    rw [hw]
    clear hw w'
    go_wp2_with fail
    refine (ltold_err 6 _ hG (by decide)).mono ?_
    rintro e w1 ⟨rfl, hg1⟩
    clear c0 c3 hS
    go_wp2
    go_ret
    exact ⟨rfl, r, two_new hg1, HH.out.new hg1, rfl, rfl, by omega, by omega⟩
  | false =>
    have hS := h.sp
    have e9 : stS r.k r.s.data.toList r.sp r.a = absorbS (startS (rk r.k) 31) r.s.data.toList := by unfold stS; rw [if_neg (by rw [hsp]; simp)]
    rw [e9] at hS
    have hT := absorbS_takes r.s.data.toList (start_tk r.k)
    rw [hsp] at c3
    have c2 : w.cell? ⟨r.p, 2, none⟩ = some (.string r.s) := h.c 2 _ rfl
    have hfz := h.fz 2
    have HH : Hid (StAt w r) := h
    have z1 : (r.s.size : Int) ≤ 1000000000 := by omega
    have z2 : (t.size : Int) ≤ 20000 := by omega
    have hpl := h.plt
    have hpb := h.pb
    have hb4 := h.b4
    clear h e9
    go_enter Tryz.func27, Tryz.ntmps27
    go_wp2_with fail
    refine (absorb_ok r.b hb4 t (by unfold maxLen; omega) _ hT.1 (hT.2.2.2.trans rfl) _ hS hG).mono ?_
    rintro e w1 ⟨rfl, hg1, hS1⟩
    have hne : some r.p ≠ some r.b := by simpa using hpb
    have d0 := hg1.cell c0 hne
    have d2 := hg1.cell c2 hne
    have d3 := hg1.cell c3 hne
    have df : w1.frozen? ⟨r.p, 2, none⟩ = false := by rw [hg1.frozen_far ⟨r.p, 2, none⟩ hpl hne]; exact hfz
    have hbk : w1.heap[r.p]? = _ := (hg1.block r.p hpl hne).trans HH.out.blk
    have HK : Hid (w1.heap[r.p]? = some (.cells #[.pointer (some ⟨r.b, 0, none⟩), .int .i64 (128 + 128 * (r.k : Int)), .string r.s, .bool r.sp, .int .i64 (r.a : Int)] 85)) := hbk
    have HG : Hid (w.grownBy w1 (some r.b)) := hg1
    rw [← absorbS_append] at hS1
    have HS : Hid (Sp w1 r.b (absorbS (startS (rk r.k) 31) (r.s.data.toList ++ t.data.toList))) := hS1
    clear c0 c2 c3 hfz hg1 hS hS1 hbk
    go_wp2
    go_ret
    refine ⟨rfl, ⟨r.p, r.b, r.k, r.s ++ t, false, r.a⟩, (two_of HG.out).trans (two_set _ _ _), ⟨?_, ?_, HH.out.k, hb4, hpb, fun _ => HH.out.a0 hsp⟩, rfl, rfl, by simp; omega, Nat.le_add_right _ _⟩
    · have := heap_set5 (i := 2) (v := .string (r.s ++ t)) HK.out
      rw [hsp] at this
      exact this
    · have e8 : stS r.k (r.s ++ t).data.toList false r.a = absorbS (startS (rk r.k) 31) (r.s.data.toList ++ t.data.toList) := by unfold stS; rw [if_neg (by simp)]; simp
      show Sp _ r.b (stS r.k (r.s ++ t).data.toList false r.a)
      rw [e8]
      have hg2 : w1.grownBy (w1.setCell ⟨r.p, 2, none⟩ (.string (r.s ++ t))) (some r.p) := grown_set _ _ _ _
      exact HS.out.far hg2 (Ne.symm hpb)
set_option maxHeartbeats 1000000 in
theorem squeeze_bad (b : Nat) (n : Int) (s : Spg) (hr : 0 < s.rate) (w : World) (hS : Sp w b s) (hn : n < 0 ∨ 10000 < n) :
    Calls Tryz.prog 47 #[.pointer (some ⟨b, 0, none⟩), .int .i64 n] w fun e w' => e = .returned (.tuple #[.string ByteArray.empty, .iface 138 (.int .i64 2)]) ∧ w' = w := by
  rcases hn with hn | hn
  · go_enter Tryz.func47, Tryz.ntmps47
    go_wp2_with fail
    refine (made_any b s _ hS hr).mono ?_
    rintro e w' ⟨rfl, hw⟩
    rw [hw]
    clear hw w'
    go_wp2
    go_ret2
    exact ⟨rfl, rfl⟩
  · have h0 : ¬ n < 0 := by omega
    go_enter Tryz.func47, Tryz.ntmps47
    go_wp2_with fail
    refine (made_any b s _ hS hr).mono ?_
    rintro e w' ⟨rfl, hw⟩
    rw [hw]
    clear hw w'
    go_wp2
    go_ret2
    exact ⟨rfl, rfl⟩
theorem shake_any (k : Nat) (hk : k < 2) (t : ByteArray) (ht : t.size ≤ 549755813888) (n : Nat) (hn : n ≤ 1099511627776) (w : World) :
    Calls Tryz.prog 48 #[.int .i64 (128 + 128 * (k : Int)), .string t, .int .i64 n] w fun e w' => e = .returned (.string (outStr (stF k t.data.toList) n)) ∧ w.grownBy w' none := by
  have h : k = 0 ∨ k = 1 := by omega
  rcases h with rfl | rfl
  · exact shake_128 t ht n hn w
  · exact shake_256 t ht n hn w
theorem st_ready (r : St) (W : World) (h : StAt W r) : Ready (stS r.k r.s.data.toList r.sp r.a) ∧ sqTo (ended (stS r.k r.s.data.toList r.sp r.a)) = (fun n => sqTo (stF r.k r.s.data.toList) (r.a + n)) ∧ ∀ n, outStr (ended (stS r.k r.s.data.toList r.sp r.a)) n = outStr (sqTo (stF r.k r.s.data.toList) r.a) n := by
  unfold stS
  cases hsp : r.sp with
  | true =>
    rw [if_pos rfl]
    have hV := sqTo_gives (stF_gives r.k r.s.data.toList) r.a
    refine ⟨Or.inr hV, ?_, fun n => ?_⟩
    · rw [ended_of_gives hV]; funext n; rw [sqTo_add]
    · rw [ended_of_gives hV]
  | false =>
    rw [if_neg (by simp)]
    have hT := absorbS_takes r.s.data.toList (start_tk r.k)
    have h0 := h.a0 hsp
    have hs : (absorbS (startS (rk r.k) 31) r.s.data.toList).spent = false := hT.2.2.2.trans rfl
    refine ⟨Or.inl ⟨hT.1, hs⟩, ?_, fun n => ?_⟩
    · rw [ended_fresh hs, h0]; funext n; rw [Nat.zero_add]; rfl
    · rw [ended_fresh hs, h0]; rfl
theorem out_rest (F : Spg) (a n : Nat) : (outStr F (a + n)).extract a (a + n) = outStr (sqTo F a) n := by
  apply bytes_ext
  rw [extract_list, outStr_list, outStr_list, List.take_of_length_le (by simp [outL]), outL_add, List.drop_append_of_le_length (by simp [outL])]
  rw [List.drop_of_length_le (by simp [outL]), List.nil_append]
set_option maxHeartbeats 2000000 in
theorem squeezed_bad (r : St) (n : Int) (hn : n < 0 ∨ 10000 < n) (w : World) (h : StAt w r) (hG : Globs w) :
    Calls Tryz.prog 26 #[.pointer (some ⟨r.p, 0, none⟩), .int .i64 n] w fun e w' => e = .returned (.bool true) ∧ ∃ r', Did 20000 r r' w w' := by
  have c0 : w.cell? ⟨r.p, 0, none⟩ = some (.pointer (some ⟨r.b, 0, none⟩)) := h.c 0 _ rfl
  have hrt : 0 < (stS r.k r.s.data.toList r.sp r.a).rate := by
    rcases (st_ready r w h).1 with h1 | h1
    · exact h1.1.r0
    · exact h1.r0
  have hS := h.sp
  have HH : Hid (StAt w r) := h
  have hc := squeeze_bad r.b n _ hrt w hS hn
  have HC : Hid (Calls Tryz.prog 47 #[.pointer (some ⟨r.b, 0, none⟩), .int .i64 n] w fun e w' => e = .returned (.tuple #[.string ByteArray.empty, .iface 138 (.int .i64 2)]) ∧ w' = w) := hc
  clear h hS hrt hc
  rcases hn with hn | hn
  · go_enter Tryz.func26, Tryz.ntmps26
    go_wp2_with fail
    refine HC.out.mono ?_
    rintro e w' ⟨rfl, hw⟩
    rw [hw]
    clear hw w'
    go_wp2_with fail
    refine (ltold_err 2 _ hG (by decide)).mono ?_
    rintro e w1 ⟨rfl, hg1⟩
    clear c0
    go_wp2
    go_ret
    exact ⟨rfl, r, two_new hg1, HH.out.new hg1, rfl, rfl, by omega, by omega⟩
  · have h0 : ¬ n < 0 := by omega
    go_enter Tryz.func26, Tryz.ntmps26
    go_wp2_with fail
    refine HC.out.mono ?_
    rintro e w' ⟨rfl, hw⟩
    rw [hw]
    clear hw w'
    go_wp2_with fail
    refine (ltold_err 2 _ hG (by decide)).mono ?_
    rintro e w1 ⟨rfl, hg1⟩
    clear c0
    go_wp2
    go_ret
    exact ⟨rfl, r, two_new hg1, HH.out.new hg1, rfl, rfl, by omega, by omega⟩
end Go.Proofs.YtkijpphmiogbbaaGreatDoor
