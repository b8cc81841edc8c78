import Derived.Test.YtkijpphmiogbbaaGreatDoorM39
import Derived.Test.YtkijpphmiogbbaaGreatDoorM38
namespace Go.Proofs.YtkijpphmiogbbaaGreatDoor.Z
open Go.RowKit
attribute [local go_sem ↓] Go.wp_at_zero Go.wp_at_succ

theorem ixRefs (b m cp k : Nat) (hk : k < m) (W : World) : (Instr.indexAt 31 (.slice (some ⟨b, 0, none⟩) m cp) (.int .i64 (k : Int))).run Tryz.prog W = .ok (.pointer (some ⟨b, 256 * k, none⟩)) W :=
  run_indexPolys 31 b m cp k hk (by kernel_rfl) (fun W => by kernel_rfl) W
/-- What is packed is one text. -/
theorem Pck.at {Ls : Nat → Nat → Int} {k : Nat} (p : Nat) (hp : p < tot Ls k) : ∃ s i, s < k ∧ i < 256 ∧ Ls s i ≠ 0 ∧ tot Ls s + cnt (Ls s) i = p := by
  induction k with
  | zero => exact absurd hp (by show ¬ p < 0; omega)
  | succ k ih =>
    by_cases h : p < tot Ls k
    · obtain ⟨s, i, h1, h2, h3, h4⟩ := ih h
      exact ⟨s, i, by omega, h2, h3, h4⟩
    · have h3 : tot Ls (k + 1) = tot Ls k + cnt (Ls k) 256 := rfl
      obtain ⟨i, i1, i2, i3⟩ := cnt_nth (Ls k) 256 (p - tot Ls k) (by omega)
      exact ⟨k, i, by omega, i1, i2, by omega⟩
theorem Pck.one {Ls : Nat → Nat → Int} {k o : Nat} {B C : Nat → Int} (h : Pck Ls k o B) (h' : Pck Ls k o C) (p : Nat) (hp : p < o + k) : B p = C p := by
  by_cases h1 : p < tot Ls k
  · obtain ⟨s, i, a1, a2, a3, a4⟩ := Pck.at p h1
    rw [← a4, h.place s i a1 a2 a3, h'.place s i a1 a2 a3]
  · by_cases h2 : p < o
    · rw [h.rest p (by omega) h2, h'.rest p (by omega) h2]
    · obtain ⟨s, rfl⟩ : ∃ s, p = o + s := ⟨p - o, by omega⟩
      rw [h.ends s (by omega), h'.ends s (by omega)]
theorem strH_ext {f g : Nat → Int} (n : Nat) (h : ∀ i, i < n → f i = g i) : strH f n = strH g n := by
  unfold strH
  congr 1
  exact List.map_congr_left (fun i hi => h i (List.mem_range.1 hi))
set_option maxHeartbeats 4000000 in
set_option maxRecDepth 20000 in
theorem rpack_any (Ls : Nat → Nat → Int) (s0 : Sg) (k o : Nat) (b cp : Nat) (w : World) (hsk : s0.k = (k : Int)) (hso : s0.o = (o : Int)) (hk : k ≤ 8) (ho : o ≤ 80) (hr : ∀ s, s < k → PRow .i64 w b (256 * s) (Ls s)) :
    Calls Tryz.prog 74 #[sgV s0, .slice (some ⟨b, 0, none⟩) k cp] w fun e w' => ((tot Ls k ≤ o ∧ ∃ B : Nat → Int, Pck Ls k o B ∧ (∀ p, 0 ≤ B p ∧ B p < 256) ∧ e = .returned (.tuple #[.string (strH B (o + k)), .bool true])) ∨ (o < tot Ls k ∧ e = .returned (.tuple #[.string ByteArray.empty, .bool false]))) ∧ w.grownBy w' none := by
  have HR : Hid (∀ s, s < k → PRow .i64 w b (256 * s) (Ls s)) := hr
  clear hr
  have s1 := sgAt_new w s0
  have g1 : w.grownBy (sgBox w s0) none := World.grownBy_alloc w _ none
  have e1 : (sgBox w s0).heap.size = w.heap.size + 1 := World.size_alloc _ _
  have hmk : ∀ W, (Instr.makeSlice 41 (.int .i64 ((o : Int) + (k : Int))) (.int .i64 ((o : Int) + (k : Int)))).run Tryz.prog W = .ok (.slice (some ⟨W.heap.size, 0, none⟩) (o + k) (o + k)) (W.alloc (.cells (zerH (o + k)) 5)) := fun W => by
    have h := run_mkH (o + k) (by omega) W
    rw [Int.natCast_add] at h; exact h
  have z3 := zerH_row (o + k) (sgBox w s0)
  have g3 := World.grownBy_alloc (sgBox w s0) (.cells (zerH (o + k)) 5) none
  have s3 := s1.new g3
  have c0 := s1.k
  have c7 := s1.o
  have c3 := s3.k
  rw [hsk] at c0 c3
  rw [hso] at c7
  have HSK : Hid (s0.k = (k : Int)) := hsk
  have HSO : Hid (s0.o = (o : Int)) := hso
  clear hsk hso
  rw [e1] at z3
  go_enter Tryz.func74, Tryz.ntmps74
  go_wp2
  generalize (sgBox w s0).alloc (.cells (zerH (o + k)) 5) = w3 at *
  have hg := grownBy_trans g1 g3
  clear g1 g3 s1 e1 hmk c0 c7 c3
  obtain ⟨D, hD⟩ : ∃ D, D = w.heap.size := ⟨_, rfl⟩
  rw [← hD] at s3 z3 ⊢
  have hD' : w.heap.size ≤ D := by omega
  clear hD
  go_loopw [7, 8, 9] (fun c i _ wr => ∃ (s : Nat) (B : Nat → Int), s ≤ k ∧ i = .int .i64 s ∧ c = .int .i64 (tot Ls s : Nat) ∧ w.grownBy wr none ∧ SgAt wr D s0 ∧ RowH wr (D + 1) (o + k) B ∧ tot Ls s ≤ o ∧ Pcs Ls s 0 o B ∧ (∀ p, 0 ≤ B p ∧ B p < 256)) (fun _ i _ _ => k - (intOf i).toNat)
  case atStart => exact ⟨0, fun _ => 0, by omega, rfl, rfl, hg, s3, z3, Nat.zero_le _, Pcs.begin Ls o, fun _ => by show (0 : Int) ≤ 0 ∧ (0 : Int) < 256; omega⟩
  case round =>
    clear hg s3 z3
    obtain ⟨s, B, hs, rfl, rfl, hg, hS, hB, hto, hP, hBB⟩ := hrel
    have ck := hS.k
    rw [HSK.out] at ck
    by_cases hlt : s < k
    · have a0 : (0 : Int) ≤ (s : Int) := by omega
      have a1 : (s : Int) < (k : Int) := by omega
      go_wp2
      clear ck
      go_loopw [7, 9] (fun c i wq => ∃ (p : Nat) (B : Nat → Int), p ≤ 256 ∧ i = .int .i64 p ∧ c = .int .i64 (tot Ls s + cnt (Ls s) p : Nat) ∧ w.grownBy wq none ∧ SgAt wq D s0 ∧ RowH wq (D + 1) (o + k) B ∧ tot Ls s + cnt (Ls s) p ≤ o ∧ Pcs Ls s p o B ∧ (∀ p, 0 ≤ B p ∧ B p < 256)) (fun _ i _ => 256 - (intOf i).toNat)
      case atStart => exact ⟨0, B, by omega, rfl, rfl, hg, hS, hB, hto, hP, hBB⟩
      case round =>
        clear hg hS hB hP hBB hto B
        obtain ⟨p, B, hp, rfl, rfl, hg, hS, hB, hto, hP, hBB⟩ := hrel
        by_cases hl2 : p < 256
        · have b0 : (0 : Int) ≤ (p : Int) := by omega
          have b1 : (p : Int) < 256 := by omega
          have ix := fun W => ixRefs b k cp s hlt W
          have cL := (((HR.out s hlt).new hg) p hl2).1
          by_cases e0 : Ls s p = 0
          · have hP' := hP.skip e0
            have hcn := cnt_zero (Ls s) p e0
            rw [e0] at cL
            go_wp2
            go_roundw
            case rel => exact ⟨p + 1, B, by omega, by go_num, by rw [hcn], hg, hS, hB, by omega, hP', hBB⟩
            case measure => simp [intOf]; omega
          · have hat := tot_at Ls hlt hl2 e0
            have d0 : (Ls s p == 0) = false := by simpa using e0
            have co := hS.o
            rw [HSO.out] at co
            obtain ⟨c, hc⟩ : ∃ c, c = tot Ls s + cnt (Ls s) p := ⟨_, rfl⟩
            by_cases hco : c = o
            · have HF : Hid (o < tot Ls k) := by show o < tot Ls k; omega
              rw [← hc]
              have d1 : ((c : Int) == (o : Int)) = true := by simp; omega
              clear hS hB hP hBB e0 hat hto hc hco
              go_wp2
              go_ret2
              exact ⟨Or.inr ⟨HF.out, rfl⟩, hg⟩
            · have hP' := hP.step hl2 e0 (by omega)
              have hcn := cnt_one (Ls s) p e0
              rw [← hc] at hP' ⊢
              have hcl : c < o := by omega
              have d1 : ((c : Int) == (o : Int)) = false := by simp; omega
              have cB := (hB c (by omega)).1
              have fB := (hB c (by omega)).2
              have cw : IntKind.u8.wrap (p : Int) = (p : Int) := by rw [IntKind.wrap_u8]; omega
              have HK : Hid (SgAt wr D s0 ∧ RowH wr (D + 1) (o + k) B ∧ Pcs Ls s (p + 1) o (upd B c (p : Int)) ∧ (∀ p, 0 ≤ B p ∧ B p < 256) ∧ cnt (Ls s) (p + 1) = cnt (Ls s) p + 1 ∧ c = tot Ls s + cnt (Ls s) p) := ⟨hS, hB, hP', hBB, hcn, hc⟩
              clear hS hB hP hP' hBB hcn hc e0 hat hto hco
              go_wp2
              go_roundw
              case rel =>
                obtain ⟨hS, hB, hP', hBB, hcn, hc⟩ := HK.out
                refine ⟨p + 1, upd B c (p : Int), by omega, by go_num, by rw [hcn, ← Nat.add_assoc, ← hc]; go_num, grown_setNew hg (p := ⟨D + 1, c, none⟩) (by simp; omega) _, hS.set_other (p := ⟨D + 1, c, none⟩) (by simp) _, hB.set (i := c) (by omega) _, by omega, hP', fun q => ?_⟩
                unfold upd
                split
                · omega
                · exact hBB q
              case measure => simp [intOf]; omega
        · have hk6 : p = 256 := by omega
          subst hk6
          have h3 : tot Ls s + cnt (Ls s) 256 = tot Ls (s + 1) := rfl
          rw [h3]
          rw [h3] at hto
          have hP' := hP.next hto
          obtain ⟨c, hc⟩ : ∃ c, c = tot Ls (s + 1) := ⟨_, rfl⟩
          rw [← hc] at hP' hto ⊢
          have hco : c ≤ 80 := by omega
          have cw : IntKind.u8.wrap (c : Int) = (c : Int) := by rw [IntKind.wrap_u8]; omega
          have co := hS.o
          rw [HSO.out] at co
          have cB := (hB (o + s) (by omega)).1
          have fB := (hB (o + s) (by omega)).2
          have HK : Hid (SgAt wr D s0 ∧ RowH wr (D + 1) (o + k) B ∧ Pcs Ls (s + 1) 0 o (upd B (o + s) (c : Int)) ∧ (∀ p, 0 ≤ B p ∧ B p < 256) ∧ c = tot Ls (s + 1) ∧ c ≤ o) := ⟨hS, hB, hP', hBB, hc, hto⟩
          clear hS hB hP hP' hBB hc hto h3
          go_wp2
          go_roundw
          case rel =>
            obtain ⟨hS, hB, hP', hBB, hc, hto⟩ := HK.out
            refine ⟨s + 1, upd B (o + s) (c : Int), by omega, by go_num, by rw [← hc], grown_setNew hg (p := ⟨D + 1, o + s, none⟩) (by simp; omega) _, hS.set_other (p := ⟨D + 1, o + s, none⟩) (by simp) _, hB.set (i := o + s) (by omega) _, by omega, hP', fun q => ?_⟩
            unfold upd
            split
            · omega
            · exact hBB q
          case measure => simp [intOf]; omega
    · have hk6 : s = k := by omega
      subst hk6
      have hcv := run_strH (D + 1) (o + s) B wr hB
      have HP : Hid (tot Ls s ≤ o ∧ Pck Ls s o B ∧ (∀ p, 0 ≤ B p ∧ B p < 256)) := ⟨hto, hP.whole, hBB⟩
      clear hP hBB hB hS hto
      go_wp2
      go_ret2
      exact ⟨Or.inl ⟨HP.out.1, B, HP.out.2.1, HP.out.2.2, rfl⟩, hg⟩
end Go.Proofs.YtkijpphmiogbbaaGreatDoor.Z

namespace Go.Proofs.YtkijpphmiogbbaaGreatDoor
open Go.RowKit
attribute [local go_sem ↓] Go.wp_at_zero Go.wp_at_succ

theorem bytes_none (t : ByteArray) (h : t.size = 0) : t = ByteArray.mk #[] := by
  cases t with
  | mk d => have : d.size = 0 := h
            rw [Array.size_eq_zero_iff] at this
            rw [this]
set_option maxHeartbeats 1000000 in
theorem trimR_any (s : ByteArray) (w : World) (hs : s.size ≤ 1000) (hz : ∀ j, j < s.size → txH s j = 0) :
    Calls Tryz.prog 297 #[.string s, .int .u8 0] w fun e w' => e = .returned (.string (ByteArray.mk #[])) ∧ w.grownBy w' none := by
  have HZ : Hid (∀ j, j < s.size → txH s j = 0) := hz
  clear hz
  go_enter Tryz.func297, Tryz.ntmps297
  go_wp2
  go_loopw [0] (fun v wr => ∃ t : ByteArray, v = .string t ∧ t.size ≤ 1000 ∧ Hid (∀ j, j < t.size → txH t j = 0) ∧ w.grownBy wr none) (fun v _ => match v with | .string t => t.size | _ => 0)
  case atStart => exact ⟨s, rfl, hs, HZ, World.grownBy.refl _ _⟩
  case round =>
    clear HZ
    obtain ⟨t, rfl, ht, HZ, hg⟩ := hrel
    by_cases h0 : 0 < t.size
    · have b0 : (0 : Int) < (t.size : Int) := by omega
      have x1 : ∀ W, (Instr.index 9 (.string t) (.int .i64 ((t.size : Int) - 1))).run Tryz.prog W = .ok (.int .u8 0) W := fun W => by
        have h := run_ixH t (t.size - 1) (by omega) W
        rw [HZ.out (t.size - 1) (by omega), Int.ofNat_sub (by omega)] at h
        exact h
      go_wp2
      go_roundw
      case rel =>
        refine ⟨t.extract 0 (t.size - 1), ?_, by simp; omega, fun j hj => ?_, hg⟩
        · congr 2 <;> omega
        · have hj' : j < t.size - 1 := by simpa using hj
          rw [txH_ext t 0 (t.size - 1) j (by omega) (by omega), Nat.zero_add]
          exact HZ.out j (by omega)
      case measure => simp; omega
    · have e0 : t = ByteArray.mk #[] := bytes_none t (by omega)
      subst e0
      go_wp2
      go_ret
      exact ⟨rfl, hg⟩
set_option maxHeartbeats 1000000 in
theorem trimL_none (w : World) :
    Calls Tryz.prog 296 #[.string (ByteArray.mk #[]), .int .u8 0] w fun e w' => e = .returned (.string (ByteArray.mk #[])) ∧ w.grownBy w' none := by
  go_enter Tryz.func296, Tryz.ntmps296
  go_wp2
  go_loopw [0] (fun v wr => v = .string (ByteArray.mk #[]) ∧ w.grownBy wr none) (fun _ _ => 0)
  case atStart => exact ⟨rfl, World.grownBy.refl _ _⟩
  case round =>
    obtain ⟨rfl, hg⟩ := hrel
    go_wp2
    go_ret
    exact ⟨rfl, hg⟩
set_option maxHeartbeats 1000000 in
set_option maxRecDepth 20000 in
theorem trim_any (s : ByteArray) (w : World) (hs : s.size ≤ 1000) (hz : ∀ j, j < s.size → txH s j = 0) :
    Calls Tryz.prog 213 #[.string s, .string (ByteArray.mk #[0])] w fun e w' => e = .returned (.string (ByteArray.mk #[])) ∧ w.grownBy w' none := by
  by_cases h0 : s.size = 0
  · have e0 := bytes_none s h0
    subst e0
    go_enter Tryz.func213, Tryz.ntmps213
    go_wp2
    go_ret
    exact ⟨rfl, World.grownBy.refl _ _⟩
  · have HT : Hid (∀ W, Calls Tryz.prog 297 #[.string s, .int .u8 0] W fun e w' => e = .returned (.string (ByteArray.mk #[])) ∧ W.grownBy w' none) := fun W => trimR_any s W hs hz
    have HL : Hid (∀ W, Calls Tryz.prog 296 #[.string (ByteArray.mk #[]), .int .u8 0] W fun e w' => e = .returned (.string (ByteArray.mk #[])) ∧ W.grownBy w' none) := fun W => trimL_none W
    have d0 : s.toList.isEmpty = false := by
      rw [ByteArray.toList_eq]
      cases h : s.data.toList with
      | nil =>
        exfalso; apply h0
        have h2 := congrArg List.length h
        rw [Array.length_toList] at h2
        exact h2
      | cons a l => rfl
    clear hz h0
    go_enter Tryz.func213, Tryz.ntmps213
    go_wp2_with fail
    go_region_with (first | (go_at_call 297; refine (HT.out _).mono ?_; rintro e w5 ⟨rfl, g5⟩) | (go_at_call 296; refine (HL.out _).mono ?_; rintro e w6 ⟨rfl, g6⟩))
    all_goals (
      go_wp2
      go_ret
      exact ⟨rfl, grownBy_trans (grown_drew (World.grownBy.refl w none)) (grownBy_trans g5 g6)⟩)
end Go.Proofs.YtkijpphmiogbbaaGreatDoor

namespace Go.Proofs.YtkijpphmiogbbaaGreatDoor
open Go.RowKit
attribute [local go_sem ↓] Go.wp_at_zero Go.wp_at_succ

theorem PRow.setO {k : IntKind} {w : World} {b f : Nat} {L : Nat → Int} (h : PRow k w b f L) {i : Nat} (hi : i < 256) (v : Int) : PRow k (w.setCell ⟨b, f + i, none⟩ (.int k v)) b f (upd L i v) := by
  intro j hj
  refine ⟨?_, by rw [frozen_set]; exact (h j hj).2⟩
  by_cases e : j = i
  · subst e; rw [cell_same (h j hj).1, upd_same]
  · rw [cell_other _ _ _ _ (Or.inr (show f + j ≠ f + i by omega)), upd_ne _ _ _ _ e]; exact (h j hj).1
theorem PRow.setOut {k : IntKind} {w : World} {b f : Nat} {L : Nat → Int} (h : PRow k w b f L) {x : Nat} (hx : x < f ∨ f + 256 ≤ x) (v : Value) : PRow k (w.setCell ⟨b, x, none⟩ v) b f L := by
  intro j hj
  exact ⟨by rw [cell_other _ _ _ _ (Or.inr (show f + j ≠ x by omega))]; exact (h j hj).1, by rw [frozen_set]; exact (h j hj).2⟩
theorem Nar.setOut {k : IntKind} {W : World} {N m t : Nat} {Ls : Nat → Nat → Int} (h : Nar k W N m t Ls) {b : Nat} (hb : N ≠ b) (x : Nat) (v : Value) : Nar k (W.setCell ⟨b, x, none⟩ v) N m t Ls :=
  ⟨fun s hs => (h.done s hs).set_other (Ne.symm hb) v, fun s h1 h2 => (h.left s h1 h2).set_other (Ne.symm hb) v⟩
/-- As Nar, with polynomial t read as far as its first j ones. -/
structure Rdg (W : World) (N m t j : Nat) (Ls : Nat → Nat → Int) : Prop where
  done : ∀ s, s < t → PRow .u32 W N (256 * s) (Ls s)
  now : PRow .u32 W N (256 * t) (rdTo (Ls t) j)
  left : ∀ s, t < s → s < m → PRow .u32 W N (256 * s) (fun _ => 0)
theorem Rdg.begin {W : World} {N m t : Nat} {Ls : Nat → Nat → Int} (h : Nar .u32 W N m t Ls) (ht : t < m) : Rdg W N m t 0 Ls :=
  ⟨h.done, (h.left t (Nat.le_refl _) ht).ext (fun i _ => (rdTo_none (Ls t) i).symm), fun s h1 h2 => h.left s (by omega) h2⟩
theorem Rdg.step {W : World} {N m t j p : Nat} {Ls : Nat → Nat → Int} (h : Rdg W N m t j Ls) (hp : p < 256) (h1 : Ls t p ≠ 0) (h2 : cnt (Ls t) p = j) : Rdg (W.setCell ⟨N, 256 * t + p, none⟩ (.int .u32 1)) N m t (j + 1) Ls :=
  ⟨fun s hs => (h.done s hs).setOut (by omega) _, (h.now.setO hp 1).ext (fun i _ => rdTo_step (Ls t) j p h1 h2 i), fun s h3 h4 => (h.left s h3 h4).setOut (by omega) _⟩
theorem Rdg.end {W : World} {N m t : Nat} {Ls : Nat → Nat → Int} (h : Rdg W N m t (cnt (Ls t) 256) Ls) (h01 : ∀ i, i < 256 → Ls t i = 0 ∨ Ls t i = 1) : Nar .u32 W N m (t + 1) Ls := by
  refine ⟨fun s hs => ?_, fun s h1 h2 => h.left s (by omega) h2⟩
  by_cases e : s = t
  · subst e; exact h.now.ext (fun i hi => rdTo_all (Ls s) h01 i hi)
  · exact h.done s (by omega)
theorem Rdg.drew {W : World} {N m t j : Nat} {Ls : Nat → Nat → Int} (h : Rdg W N m t j Ls) : Rdg W.drew N m t j Ls := ⟨h.done, h.now, h.left⟩
theorem Nar.drewN {k : IntKind} {W : World} {N m t : Nat} {Ls : Nat → Nat → Int} (h : Nar k W N m t Ls) (n : Nat) : Nar k (W.drewN n) N m t Ls := ⟨h.done, h.left⟩
set_option maxHeartbeats 8000000 in
set_option maxRecDepth 20000 in
theorem sUnpack_any (Ls : Nat → Nat → Int) (k o : Nat) (g : Int) (B : Nat → Int) (w : World) (hk : k ≤ 8) (ho : o ≤ 80) (h01 : ∀ s, s < k → ∀ i, i < 256 → 0 ≤ Ls s i ∧ Ls s i < 2) (htot : tot Ls k ≤ o) (hB : Pck Ls k o B) (hBB : ∀ p, 0 ≤ B p ∧ B p < 256) :
    Calls Tryz.prog 140 #[.agg #[.int .i64 g, .int .i64 (k : Int), .int .i64 (o : Int)], .string (strH B (o + k))] w fun e w' => ∃ N, e = .returned (.tuple #[.slice (some ⟨N, 0, none⟩) k k, .bool true]) ∧ (∀ s, s < k → PRow .u32 w' N (256 * s) (Ls s)) ∧ w.grownBy w' none := by
  have hsz := strH_size B (o + k)
  have hX : ∀ p, p < o + k → ((txH (strH B (o + k)) p : Nat) : Int) = B p := fun p hp => txH_str B (o + k) p hp (hBB p).1 (hBB p).2
  generalize strH B (o + k) = t at *
  obtain ⟨P, hP⟩ : ∃ P, P = t.extract 0 o := ⟨_, rfl⟩
  obtain ⟨E, hE⟩ : ∃ E, E = t.extract o (o + k) := ⟨_, rfl⟩
  have Psz : P.size = o := by rw [hP]; simp; omega
  have Esz : E.size = k := by rw [hE]; simp; omega
  have HPx : Hid (∀ p, p < o → ((txH P p : Nat) : Int) = B p) := fun p hp => by rw [hP, txH_ext t 0 o p (by omega) (by omega), Nat.zero_add]; exact hX p (by omega)
  have HEx : Hid (∀ s, s < k → txH E s = tot Ls (s + 1)) := fun s hs => by
    have h1 := hB.ends s hs
    rw [← hX (o + s) (by omega)] at h1
    rw [hE, txH_ext t o (o + k) s (by omega) (by omega)]
    omega
  have HB : Hid (Pck Ls k o B) := hB
  have HT : Hid (tot Ls k ≤ o) := htot
  have H1 : Hid (∀ s, s < k → ∀ i, i < 256 → 0 ≤ Ls s i ∧ Ls s i < 2) := h01
  have hP' := hP.symm
  have hE' := hE.symm
  clear hX hBB hB htot h01 hP hE
  have l1 : (o : Int) ≤ (t.size : Int) := by omega
  have l2 : o ≤ t.size := by omega
  have s1 := setAt_new w g k o 176
  have g1 := World.grownBy_alloc w (.cells #[.int .i64 g, .int .i64 (k : Int), .int .i64 (o : Int)] 176) none
  have e1 := World.size_alloc w (.cells #[.int .i64 g, .int .i64 (k : Int), .int .i64 (o : Int)] 176)
  have co := s1.o
  have ck := s1.k
  go_enter Tryz.func140, Tryz.ntmps140
  go_wp2_with fail
  go_quiet (fail)
  have g2 : w.grownBy ((w.alloc (.cells #[.int .i64 g, .int .i64 (k : Int), .int .i64 (o : Int)] 176)).drewN nq) none := ⟨g1.os, g1.tape, g1.output, g1.size, g1.block⟩
  have s2 : SetAt ((w.alloc (.cells #[.int .i64 g, .int .i64 (k : Int), .int .i64 (o : Int)] 176)).drewN nq) w.heap.size g k o := ⟨s1.g, s1.k, s1.o⟩
  have e2 : ((w.alloc (.cells #[.int .i64 g, .int .i64 (k : Int), .int .i64 (o : Int)] 176)).drewN nq).heap.size = w.heap.size + 1 := e1
  generalize (w.alloc (.cells #[.int .i64 g, .int .i64 (k : Int), .int .i64 (o : Int)] 176)).drewN nq = w2 at *
  clear s1 g1 e1 co ck hP' hE' l1 l2
  have ck := s2.k
  have hmk := fun W => mk32 k hk W
  have z3 := made_rows .u32 w2 k 166
  have g3 := World.grownBy_alloc w2 (.cells (madeCells (polyA .u32 (fun _ => 0)) (k * 256)) 166) none
  have s3 := s2.new g3
  have ck3 := s3.k
  go_wp2
  generalize w2.alloc (.cells (madeCells (polyA .u32 (fun _ => 0)) (k * 256)) 166) = w3 at *
  have hg := grownBy_trans g2 g3
  obtain ⟨D, hD⟩ : ∃ D, D = w.heap.size := ⟨_, rfl⟩
  rw [e2] at z3
  rw [← hD] at s3 z3 ⊢
  have hN : Nar .u32 w3 (D + 1) k 0 Ls := ⟨fun s hs => absurd hs (by omega), fun s _ hs => z3 s hs⟩
  have hD' : w.heap.size ≤ D := by omega
  clear hD g2 s2 e2 ck hmk z3 g3 ck3
  go_loopw [9, 10, 11, 12, 26] (fun rd _ _ _ i wr => ∃ s : Nat, s ≤ k ∧ i = .int .i64 s ∧ rd = .int .i64 (tot Ls s : Nat) ∧ w.grownBy wr none ∧ SetAt wr D g k o ∧ Nar .u32 wr (D + 1) k s Ls) (fun _ _ _ _ i _ => k - (intOf i).toNat)
  case atStart => exact ⟨0, by omega, rfl, rfl, hg, s3, hN⟩
  case round =>
    clear hg s3 hN
    obtain ⟨s, hs, rfl, rfl, hg, hS, hN⟩ := hrel
    by_cases hlt : s < k
    · have a0 : (0 : Int) ≤ (s : Int) := by omega
      have a1 : (s : Int) < (k : Int) := by omega
      have h3 : tot Ls (s + 1) = tot Ls s + cnt (Ls s) 256 := rfl
      have hot := HT.out
      have hmo := tot_mono Ls (show s + 1 ≤ k by omega)
      have xE : ∀ W, (Instr.index 9 (.string E) (.int .i64 (s : Int))).run Tryz.prog W = .ok (.int .u8 ((tot Ls (s + 1) : Nat) : Int)) W := fun W => by
        have h := run_ixH E s (by omega) W
        rw [HEx.out s hlt] at h; exact h
      have HRs : Hid (∀ W, Calls Tryz.prog 212 #[.string (P.extract (tot Ls s) (tot Ls (s + 1)))] W fun e w' => e = .returned (.bool true) ∧ W.grownBy w' none) := fun W => by
        refine rising_any _ W (by simp; omega) (fun j hj => ?_)
        have hsz2 : (P.extract (tot Ls s) (tot Ls (s + 1))).size = tot Ls (s + 1) - tot Ls s := by simp; omega
        rw [hsz2] at hj
        rw [txH_ext P _ _ j (by omega) (by omega), txH_ext P _ _ (j + 1) (by omega) (by omega)]
        have h5 := HB.out.rise hlt (show j + 1 < cnt (Ls s) 256 by omega)
        rw [← HPx.out (tot Ls s + j) (by omega), ← HPx.out (tot Ls s + (j + 1)) (by omega)] at h5
        omega
      have HQ : Hid (∀ j, j < cnt (Ls s) 256 → ∃ p, p < 256 ∧ Ls s p ≠ 0 ∧ cnt (Ls s) p = j ∧ ∀ W, (Instr.index 9 (.string P) (.int .i64 ((tot Ls s : Nat) + (j : Int)))).run Tryz.prog W = .ok (.int .u8 (p : Int)) W) := fun j hj => by
        obtain ⟨p, p1, p2, p3⟩ := cnt_nth (Ls s) 256 j hj
        refine ⟨p, p1, p2, p3, fun W => ?_⟩
        have h := run_ixH P (tot Ls s + j) (by omega) W
        rw [HPx.out _ (by omega), ← p3, HB.out.place s p hlt p1 p2, p3, Int.natCast_add] at h
        exact h
      have H2 : Hid (∀ i, i < 256 → Ls s i = 0 ∨ Ls s i = 1) := fun i hi => by have := H1.out s hlt i hi; omega
      obtain ⟨c0, hc0⟩ : ∃ c, c = tot Ls s := ⟨_, rfl⟩
      obtain ⟨c1, hc1⟩ : ∃ c, c = tot Ls (s + 1) := ⟨_, rfl⟩
      obtain ⟨m, hm⟩ : ∃ m, m = cnt (Ls s) 256 := ⟨_, rfl⟩
      rw [← hc0] at HRs HQ ⊢
      rw [← hc1] at HRs xE
      rw [← hm] at HQ
      have hcm : c1 = c0 + m := by rw [hc0, hc1, hm]; exact h3
      have hco : c1 ≤ o := by omega
      have hle : c0 ≤ c1 := by omega
      have cw : IntKind.i64.wrap (c1 : Int) = (c1 : Int) := by rw [IntKind.wrap_i64] <;> omega
      have d1 : decide ((c1 : Int) < (c0 : Int)) = false := by simp; omega
      have d1' : decide (c1 < c0) = false := by simp; omega
      have d2 : decide ((o : Int) < (c1 : Int)) = false := by simp; omega
      have d2' : decide (o < c1) = false := by simp; omega
      have co := hS.o
      have HC : Hid (c0 = tot Ls s ∧ c1 = tot Ls (s + 1) ∧ m = cnt (Ls s) 256 ∧ c1 = c0 + m) := ⟨hc0, hc1, hm, hcm⟩
      have HK : Hid (SetAt wr D g k o ∧ Nar .u32 wr (D + 1) k s Ls) := ⟨hS, hN⟩
      have l3 : (c0 : Int) ≤ (c1 : Int) := by omega
      have l4 : (c1 : Int) ≤ (o : Int) := by omega
      clear hc0 hc1 hm h3 hot hmo hS hN hcm
      go_wp2_with fail
      refine (HRs.out _).mono ?_
      rintro e w5 ⟨rfl, g5⟩
      have hS5 := HK.out.1.new g5
      have hR5 := Rdg.begin (HK.out.2.new g5) hlt
      have hg5 := grownBy_trans hg g5
      have hsub : (c1 : Int) - (c0 : Int) = (m : Int) := by have := HC.out.2.2.2; omega
      clear HRs HK hg g5 co d1 d1' d2 d2' l3 l4 xE cw
      go_wp2
      go_loopw [12, 53] (fun _ i wr => ∃ j : Nat, j ≤ m ∧ i = .int .i64 j ∧ w.grownBy wr none ∧ SetAt wr D g k o ∧ Rdg wr (D + 1) k s j Ls) (fun _ i _ => m - (intOf i).toNat)
      case atStart => exact ⟨0, by omega, rfl, hg5, hS5, hR5⟩
      case round =>
        clear hg5 hS5 hR5
        obtain ⟨j, hj, rfl, hg, hS, hR⟩ := hrel
        by_cases hl2 : j < m
        · have b0 : (0 : Int) ≤ (j : Int) := by omega
          have b1 : (j : Int) < (m : Int) := by omega
          obtain ⟨p, p1, p2, p3, xP⟩ := HQ.out j hl2
          have q0 : (0 : Int) ≤ (p : Int) := by omega
          have q1 : (p : Int) < 256 := by omega
          have ix := fun W => ixPolys32 (D + 1) k s hlt W
          have hc := hR.now p p1
          have cc : wr.drew.cell? ⟨D + 1, 256 * s + p, none⟩ = _ := hc.1
          have ff : wr.drew.frozen? ⟨D + 1, 256 * s + p, none⟩ = _ := hc.2
          have HK : Hid (w.grownBy wr none ∧ SetAt wr D g k o ∧ Rdg wr (D + 1) k s j Ls ∧ p < 256 ∧ Ls s p ≠ 0 ∧ cnt (Ls s) p = j) := ⟨hg, hS, hR, p1, p2, p3⟩
          clear hg hS hR hc p2 p3
          go_wp2_with fail
          go_region
          go_wp2
          go_roundw
          case rel =>
            obtain ⟨hg, hS, hR, p1, p2, p3⟩ := HK.out
            exact ⟨j + 1, by omega, by go_num, grown_setNew (grown_drew hg) (by simp; omega) _, ⟨(hS.set_other (by simp) _).g, (hS.set_other (by simp) _).k, (hS.set_other (by simp) _).o⟩, hR.drew.step p1 p2 p3⟩
          case measure => simp [intOf]; omega
        · have hk6 : j = m := by omega
          subst hk6
          have hN' := Rdg.end (HC.out.2.2.1 ▸ hR) H2.out
          have hc1 := HC.out.2.1
          clear hR
          go_wp2
          go_roundw
          case rel => exact ⟨s + 1, by omega, by go_num, by rw [← hc1], hg, hS, hN'⟩
          case measure => simp [intOf]; omega
    · have hk6 : s = k := by omega
      subst hk6
      have hot := HT.out
      have hTr : ∀ W, Calls Tryz.prog 213 #[.string (P.extract (tot Ls s) o), .string (ByteArray.mk #[0])] W fun e w' => e = .returned (.string (ByteArray.mk #[])) ∧ W.grownBy w' none := fun W => by
        refine trim_any _ W (by simp; omega) (fun j hj => ?_)
        have hsz2 : (P.extract (tot Ls s) o).size = o - tot Ls s := by simp; omega
        rw [hsz2] at hj
        rw [txH_ext P _ _ j (by omega) (by omega)]
        have h5 := HB.out.rest (tot Ls s + j) (by omega) (by omega)
        rw [← HPx.out (tot Ls s + j) (by omega)] at h5
        omega
      obtain ⟨c, hc⟩ : ∃ c, c = tot Ls s := ⟨_, rfl⟩
      rw [← hc] at hTr hot ⊢
      have HTr : Hid (∀ W, Calls Tryz.prog 213 #[.string (P.extract c o), .string (ByteArray.mk #[0])] W fun e w' => e = .returned (.string (ByteArray.mk #[])) ∧ W.grownBy w' none) := hTr
      have HN : Hid (∀ u, u < s → PRow .u32 wr (D + 1) (256 * u) (Ls u)) := fun u hu => hN.done u hu
      have l3 : (c : Int) ≤ (o : Int) := by omega
      clear hTr hN hc
      go_wp2_with (first | (go_at_call 213; refine (HTr.out _).mono ?_; rintro e w7 ⟨rfl, g7⟩))
      go_ret2
      exact ⟨D + 1, rfl, fun u hu => (HN.out u hu).new g7, grownBy_trans hg g7⟩
end Go.Proofs.YtkijpphmiogbbaaGreatDoor

namespace Go.Proofs.YtkijpphmiogbbaaGreatDoor

/-- Where the places of polynomial i begin. -/
def rst (t : Nat → Nat) (o : Nat) : Nat → Nat
  | 0 => 0
  | i + 1 => t (o + i)
/-- Those of polynomial i are written as they must be. -/
def rokA (t : Nat → Nat) (o i : Nat) : Prop := rst t o i ≤ rst t o (i + 1) ∧ rst t o (i + 1) ≤ o ∧ ∀ n, rst t o i < n → n < rst t o (i + 1) → t (n - 1) < t n
def rgood (t : Nat → Nat) (k o : Nat) : Prop := (∀ i, i < k → rokA t o i) ∧ ∀ n, rst t o k ≤ n → n < o → t n = 0
/-- The first m places from a on are ones. -/
def rdP (t : Nat → Nat) (a : Nat) : Nat → Nat → Int
  | 0 => fun _ => 0
  | m + 1 => upd (rdP t a m) (t (a + m)) 1
def rdL (t : Nat → Nat) (o i : Nat) : Nat → Int := rdP t (rst t o i) (rst t o (i + 1) - rst t o i)
theorem rdP_01 (t : Nat → Nat) (a m i : Nat) : 0 ≤ rdP t a m i ∧ rdP t a m i < 2 := by
  induction m with
  | zero => show (0 : Int) ≤ 0 ∧ (0 : Int) < 2; omega
  | succ m ih =>
    show 0 ≤ upd (rdP t a m) (t (a + m)) 1 i ∧ upd (rdP t a m) (t (a + m)) 1 i < 2
    unfold upd
    split
    · omega
    · exact ih
/-- Polynomial i is read as far as its first j places; those ahead of it whole. -/
structure Rdn (k : IntKind) (W : World) (N m i j o : Nat) (t : Nat → Nat) : Prop where
  done : ∀ s, s < i → PRow k W N (256 * s) (rdL t o s)
  now : PRow k W N (256 * i) (rdP t (rst t o i) j)
  left : ∀ s, i < s → s < m → PRow k W N (256 * s) (fun _ => 0)
variable {k : IntKind} {W W' : World} {N m i j o : Nat} {t : Nat → Nat}
theorem Rdn.begin (h : Nar k W N m i (rdL t o)) (hi : i < m) : Rdn k W N m i 0 o t := ⟨h.done, h.left i (Nat.le_refl _) hi, fun s h1 h2 => h.left s (by omega) h2⟩
theorem Rdn.step (h : Rdn k W N m i j o t) (hp : t (rst t o i + j) < 256) : Rdn k (W.setCell ⟨N, 256 * i + t (rst t o i + j), none⟩ (.int k 1)) N m i (j + 1) o t :=
  ⟨fun s hs => (h.done s hs).setOut (by omega) _, h.now.setO hp 1, fun s h3 h4 => (h.left s h3 h4).setOut (by omega) _⟩
theorem Rdn.end (h : Rdn k W N m i (rst t o (i + 1) - rst t o i) o t) : Nar k W N m (i + 1) (rdL t o) := by
  refine ⟨fun s hs => ?_, fun s h1 h2 => h.left s (by omega) h2⟩
  by_cases e : s = i
  · subst e; exact h.now
  · exact h.done s (by omega)
theorem Rdn.new (h : Rdn k W N m i j o t) (hg : W.grownBy W' none) : Rdn k W' N m i j o t := ⟨fun s hs => (h.done s hs).new hg, h.now.new hg, fun s h1 h2 => (h.left s h1 h2).new hg⟩
theorem Rdn.drew (h : Rdn k W N m i j o t) : Rdn k W.drew N m i j o t := ⟨h.done, h.now, h.left⟩
theorem Rdn.lt (h : Rdn k W N m i j o t) : N < W.heap.size := h.now.lt
theorem txH_lt (s : ByteArray) (j : Nat) : txH s j < 256 := by
  unfold txH
  exact (s.data.toList.getD j 0).toNat_lt
end Go.Proofs.YtkijpphmiogbbaaGreatDoor
