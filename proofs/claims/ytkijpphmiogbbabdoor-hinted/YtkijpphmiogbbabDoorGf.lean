import Derived.Test.YtkijpphmiogbbabDoorGb
import Derived.Laws.Strings
namespace Go.Proofs.YtkijpphmiogbbabDoor
open Go.RowKit
attribute [local go_sem ↓] Go.wp_at_zero Go.wp_at_succ
attribute [local go_sem] Tryd.zv24 Tryd.zv51

/-- n bytes lie in block b, and may be written. -/
def RowH (w : World) (b n : Nat) (f : Nat → Int) : Prop := ∀ i, i < n → w.cell? ⟨b, i, none⟩ = some (.int .u8 (f i)) ∧ w.frozen? ⟨b, i, none⟩ = false
theorem RowH.set {w : World} {b n : Nat} {f : Nat → Int} (h : RowH w b n f) {i : Nat} (hi : i < n) (v : Int) : RowH (w.setCell ⟨b, i, none⟩ (.int .u8 v)) b n (upd f i v) := by
  intro j hj
  refine ⟨?_, by rw [frozen_set]; exact (h j hj).2⟩
  by_cases e : j = i
  · subst e; rw [cell_same (h j hj).1, upd_same]
  · rw [cell_other _ _ _ _ (Or.inr e), upd_ne _ _ _ _ e]; exact (h j hj).1
theorem RowH.far {w w' : World} {b n : Nat} {f : Nat → Int} {r : Option Nat} (h : RowH w b n f) (hg : w.grownBy w' r) (hne : some b ≠ r) : RowH w' b n f := fun i hi =>
  ⟨hg.cell (h i hi).1 hne, by rw [hg.frozen_far ⟨b, i, none⟩ (cell_lt (h i hi).1) hne]; exact (h i hi).2⟩
def zerH (n : Nat) : Array Value := madeCells #[.int .u8 0] n
theorem zerH_at (n i : Nat) (h : i < n) : (zerH n)[i]? = some (.int .u8 0) := by
  unfold zerH madeCells; simp [h]
  rw [Nat.mod_one]; rfl
theorem Tryd.uBs : Tryd.prog.underlying 72 = some (.slice 5) := by kernel_rfl
theorem Tryd.uB : Tryd.prog.underlying 5 = some (.int .u8) := by kernel_rfl
theorem Tryd.uS : Tryd.prog.underlying 9 = some .string := by kernel_rfl
theorem Tryd.infoB : (Tryd.prog.info? 5).map (fun i => (i.zero, i.size, i.bytes)) = some (some (.int .u8 0), 1, 1) := by kernel_rfl
theorem run_mkH (n : Nat) (hn : n ≤ 10000) (W : World) : (Instr.makeSlice 72 (.int .i64 (n : Int)) (.int .i64 (n : Int))).run Tryd.prog W = .ok (.slice (some ⟨W.heap.size, 0, none⟩) n n) (W.alloc (.cells (zerH n) 5)) := by
  obtain ⟨i0, hi, hz0, hz1, hz2⟩ := info_parts Tryd.infoB
  have h := run_make (P := Tryd.prog) W 72 5 i0 (.int .u8 0) Tryd.uBs hi hz0 .i64 .i64 n n (by omega) (by omega) (by rw [hz2]; omega) (by omega)
  rw [hz1] at h
  simpa [zerH, Value.cells] using h
theorem zerH_row (n : Nat) (W : World) : RowH (W.alloc (.cells (zerH n) 5)) W.heap.size n (fun _ => 0) := fun i hi =>
  ⟨by rw [World.cell?_alloc_new]; exact zerH_at n i hi, World.frozen?_alloc_at _ _ _ _ rfl⟩
/-- n bytes as a text. -/
def strH (f : Nat → Int) (n : Nat) : ByteArray := ((List.range n).map f).foldl (fun r k => r.push (UInt8.ofNat k.toNat)) ByteArray.empty
theorem push_list : ∀ (ns : List Int) (s : ByteArray), (ns.foldl (fun r n => r.push (UInt8.ofNat n.toNat)) s).data.toList = s.data.toList ++ ns.map (fun n => UInt8.ofNat n.toNat)
  | [], s => by simp
  | n :: ns, s => by rw [List.foldl_cons, push_list ns]; simp
theorem strH_list (f : Nat → Int) (n : Nat) : (strH f n).data.toList = (List.range n).map (fun i => UInt8.ofNat (f i).toNat) := by
  unfold strH
  rw [push_list, List.map_map]
  show [] ++ _ = _
  rw [List.nil_append]; rfl
theorem strH_size (f : Nat → Int) (n : Nat) : (strH f n).size = n := by
  have h := congrArg List.length (strH_list f n)
  rw [List.length_map, List.length_range, Array.length_toList] at h
  exact h
theorem run_strH (H n : Nat) (f : Nat → Int) (w : World) (hO : RowH w H n f) :
    (convert 72 9 (.slice (some ⟨H, 0, none⟩) n n)).run Tryd.prog w = .ok (.string (strH f n)) w := by
  rw [run_convert_bytes_string w 72 9 5 _ n n Tryd.uBs Tryd.uB Tryd.uS]
  refine run_bytesToString w _ n n ((List.range n).map f) ?_
  have hl := run_loadCells_list (P := Tryd.prog) w ⟨H, 0, none⟩ (((List.range n).map f).map (Value.int .u8)) (fun j v hv => by
    have hadd : (⟨H, 0, none⟩ : Addr).add j = ⟨H, j, none⟩ := by unfold Addr.add; split <;> simp_all
    rw [hadd]
    simp only [List.getElem?_map] at hv
    rcases Nat.lt_or_ge j n with h1 | h1
    · rw [List.getElem?_range h1] at hv
      rw [(hO j h1).1]; simpa using hv
    · rw [List.getElem?_eq_none (by simpa using h1)] at hv; cases hv)
  simpa using hl
set_option maxHeartbeats 400000 in
theorem hintBytes_any (g k o : Int) (w : World) (hk : 0 ≤ k) (hk' : k ≤ 8) (ho : 0 ≤ o) (ho' : o ≤ 80) :
    Calls Tryd.prog 24 #[.agg #[.int .i64 g, .int .i64 k, .int .i64 o]] w fun e w' => e = .returned (.int .i64 (o + k)) ∧ w.grownBy w' none := by
  go_enter Tryd.func24, Tryd.ntmps24
  go_wp2
  go_ret
  exact ⟨rfl, World.grownBy_alloc _ _ _⟩
set_option maxHeartbeats 4000000 in
set_option maxRecDepth 20000 in
theorem sPack_any (Ls : Nat → Nat → Int) (k o : Nat) (g : Int) (b : Nat) (w : World) (hk : k ≤ 8) (ho : o ≤ 80) (h01 : ∀ s, s < k → ∀ i, i < 256 → 0 ≤ Ls s i ∧ Ls s i < 2) (htot : tot Ls k ≤ o) (hr : ∀ s, s < k → PRow .u32 w b (256 * s) (Ls s)) :
    Calls Tryd.prog 23 #[.agg #[.int .i64 g, .int .i64 (k : Int), .int .i64 (o : Int)], .slice (some ⟨b, 0, none⟩) k k] w fun e w' => ∃ B : Nat → Int, Pck Ls k o B ∧ (∀ p, 0 ≤ B p ∧ B p < 256) ∧ e = .returned (.tuple #[.string (strH B (o + k)), .bool true]) ∧ w.grownBy w' none := by
  have HR : Hid (∀ s, s < k → PRow .u32 w b (256 * s) (Ls s)) := hr
  have H1 : Hid (∀ s, s < k → ∀ i, i < 256 → 0 ≤ Ls s i ∧ Ls s i < 2) := h01
  have HT : Hid (tot Ls k ≤ o) := htot
  have HB : Hid (∀ W, Calls Tryd.prog 24 #[.agg #[.int .i64 g, .int .i64 (k : Int), .int .i64 (o : Int)]] W fun e w' => e = .returned (.int .i64 ((o + k : Nat) : Int)) ∧ W.grownBy w' none) := fun W => by
    have h := hintBytes_any g k o W (by omega) (by omega) (by omega) (by omega)
    rw [← Int.natCast_add] at h; exact h
  clear hr h01 htot
  have s1 := setAt_new w g k o 43
  have g1 := World.grownBy_alloc w (.cells #[.int .i64 g, .int .i64 (k : Int), .int .i64 (o : Int)] 43) none
  have e1 := World.size_alloc w (.cells #[.int .i64 g, .int .i64 (k : Int), .int .i64 (o : Int)] 43)
  go_enter Tryd.func23, Tryd.ntmps23
  go_wp2_with fail
  refine (HB.out _).mono ?_
  rintro e w2 ⟨rfl, g2⟩
  have hmk : ∀ W, (Instr.makeSlice 72 (.int .i64 ((o : Int) + (k : Int))) (.int .i64 ((o : Int) + (k : Int)))).run Tryd.prog W = .ok (.slice (some ⟨W.heap.size, 0, none⟩) (o + k) (o + k)) (W.alloc (.cells (zerH (o + k)) 5)) := fun W => by
    have h := run_mkH (o + k) (by omega) W
    rw [Int.natCast_add] at h; exact h
  have s2 := s1.new g2
  have q2 := grownBy_trans g1 g2
  have l2 := g2.size
  rw [e1] at l2
  clear s1 g1 g2 e1
  have z3 := zerH_row (o + k) w2
  have g3 := World.grownBy_alloc w2 (.cells (zerH (o + k)) 5) none
  have s3 := s2.new g3
  have c3 := s3.k
  go_wp2
  generalize w2.alloc (.cells (zerH (o + k)) 5) = w3 at *
  have hg := grownBy_trans q2 g3
  obtain ⟨H, hH⟩ : ∃ H, H = w2.heap.size := ⟨_, rfl⟩
  rw [← hH] at z3 l2 ⊢
  clear hH q2 g3 s2 hmk c3 w2
  obtain ⟨D, hD⟩ : ∃ D, D = w.heap.size := ⟨_, rfl⟩
  rw [← hD] at s3 l2 ⊢
  have hD' : w.heap.size ≤ D := by omega
  clear hD
  go_loopw [7, 8, 9, 15] (fun c _ _ i wr => ∃ (s : Nat) (B : Nat → Int), s ≤ k ∧ i = .int .i64 s ∧ c = .int .i64 (tot Ls s : Nat) ∧ w.grownBy wr none ∧ SetAt wr D g k o ∧ RowH wr H (o + k) B ∧ Pcs Ls s 0 o B ∧ (∀ p, 0 ≤ B p ∧ B p < 256)) (fun _ _ _ i _ => k - (intOf i).toNat)
  case atStart => exact ⟨0, fun _ => 0, by omega, rfl, rfl, hg, s3, z3, Pcs.begin Ls o, fun _ => by show (0 : Int) ≤ 0 ∧ (0 : Int) < 256; omega⟩
  case round =>
    clear hg s3 z3
    obtain ⟨s, B, hs, rfl, rfl, hg, hS, hB, hP, hBB⟩ := hrel
    by_cases hlt : s < k
    · have a0 : (0 : Int) ≤ (s : Int) := by omega
      have a1 : (s : Int) < (k : Int) := by omega
      go_wp2
      go_loopw [7, 9, 18] (fun c _ i wq => ∃ (p : Nat) (B : Nat → Int), p ≤ 256 ∧ i = .int .i64 p ∧ c = .int .i64 (tot Ls s + cnt (Ls s) p : Nat) ∧ w.grownBy wq none ∧ SetAt wq D g k o ∧ RowH wq H (o + k) B ∧ Pcs Ls s p o B ∧ (∀ p, 0 ≤ B p ∧ B p < 256)) (fun _ _ i _ => 256 - (intOf i).toNat)
      case atStart => exact ⟨0, B, by omega, rfl, rfl, hg, hS, hB, hP, hBB⟩
      case round =>
        clear hg hS hB hP hBB B
        obtain ⟨p, B, hp, rfl, rfl, hg, hS, hB, hP, hBB⟩ := hrel
        by_cases hl2 : p < 256
        · have b0 : (0 : Int) ≤ (p : Int) := by omega
          have b1 : (p : Int) < 256 := by omega
          have ix := fun W => ixPolys32 b k s hlt W
          have cL := (((HR.out s hlt).new hg) p hl2).1
          by_cases e0 : Ls s p = 0
          · have hP' := hP.skip e0
            have hcn := cnt_zero (Ls s) p e0
            rw [e0] at cL
            go_wp2
            go_roundw
            case rel => exact ⟨p + 1, B, by omega, by go_num, by rw [hcn], hg, hS, hB, hP', hBB⟩
            case measure => simp [intOf]; omega
          · have hat := tot_at Ls hlt hl2 e0
            have hot := HT.out
            have hP' := hP.step hl2 e0 (by omega)
            have hcn := cnt_one (Ls s) p e0
            have d0 : (Ls s p == 0) = false := by simpa using e0
            obtain ⟨c, hc⟩ : ∃ c, c = tot Ls s + cnt (Ls s) p := ⟨_, rfl⟩
            rw [← hc] at hat hP' ⊢
            have hco : c < o := by omega
            have d1 : ((c : Int) == (o : Int)) = false := by simp; omega
            have cB := (hB c (by omega)).1
            have fB := (hB c (by omega)).2
            have co := hS.o
            have cw : IntKind.u8.wrap (p : Int) = (p : Int) := by rw [IntKind.wrap_u8]; omega
            have HK : Hid (SetAt wr D g k o ∧ RowH wr H (o + k) B ∧ Pcs Ls s (p + 1) o (upd B c (p : Int)) ∧ (∀ p, 0 ≤ B p ∧ B p < 256) ∧ cnt (Ls s) (p + 1) = cnt (Ls s) p + 1 ∧ c = tot Ls s + cnt (Ls s) p) := ⟨hS, hB, hP', hBB, hcn, hc⟩
            clear hS hB hP hP' hBB hcn hc e0 hat hot
            go_wp2
            go_roundw
            case rel =>
              obtain ⟨hS, hB, hP', hBB, hcn, hc⟩ := HK.out
              refine ⟨p + 1, upd B c (p : Int), by omega, by go_num, by rw [hcn, ← Nat.add_assoc, ← hc]; go_num, grown_setNew hg (p := ⟨H, c, none⟩) (by simp; omega) _, hS.set_other (p := ⟨H, c, none⟩) (by simp; omega) _, hB.set (i := c) (by omega) _, hP', fun q => ?_⟩
              unfold upd
              split
              · omega
              · exact hBB q
            case measure => simp [intOf]; omega
        · have hk6 : p = 256 := by omega
          subst hk6
          have h3 : tot Ls s + cnt (Ls s) 256 = tot Ls (s + 1) := rfl
          rw [h3]
          have hot := HT.out
          have hmo := tot_mono Ls (show s + 1 ≤ k by omega)
          have hP' := hP.next (by omega)
          obtain ⟨c, hc⟩ : ∃ c, c = tot Ls (s + 1) := ⟨_, rfl⟩
          rw [← hc] at hP' hmo ⊢
          have hco : c ≤ 80 := by omega
          have cw : IntKind.u8.wrap (c : Int) = (c : Int) := by rw [IntKind.wrap_u8]; omega
          have co := hS.o
          have cB := (hB (o + s) (by omega)).1
          have fB := (hB (o + s) (by omega)).2
          have HK : Hid (SetAt wr D g k o ∧ RowH wr H (o + k) B ∧ Pcs Ls (s + 1) 0 o (upd B (o + s) (c : Int)) ∧ (∀ p, 0 ≤ B p ∧ B p < 256) ∧ c = tot Ls (s + 1)) := ⟨hS, hB, hP', hBB, hc⟩
          clear hS hB hP hP' hBB hc hmo hot h3
          go_wp2
          go_roundw
          case rel =>
            obtain ⟨hS, hB, hP', hBB, hc⟩ := HK.out
            refine ⟨s + 1, upd B (o + s) (c : Int), by omega, by go_num, by rw [← hc], grown_setNew hg (p := ⟨H, o + s, none⟩) (by simp; omega) _, hS.set_other (p := ⟨H, o + s, none⟩) (by simp; omega) _, hB.set (i := o + s) (by omega) _, hP', fun q => ?_⟩
            unfold upd
            split
            · omega
            · exact hBB q
          case measure => simp [intOf]; omega
    · have hk6 : s = k := by omega
      subst hk6
      have hcv := run_strH H (o + s) B wr hB
      have HP : Hid (Pck Ls s o B ∧ (∀ p, 0 ≤ B p ∧ B p < 256)) := ⟨hP.whole, hBB⟩
      clear hP hBB hB hS
      go_wp2
      go_ret2
      exact ⟨B, HP.out.1, HP.out.2, rfl, hg⟩
end Go.Proofs.YtkijpphmiogbbabDoor
