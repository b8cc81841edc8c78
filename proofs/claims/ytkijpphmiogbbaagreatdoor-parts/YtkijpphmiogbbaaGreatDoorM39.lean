import Derived.Test.YtkijpphmiogbbaaGreatDoorM35
import Derived.Test.YtkijpphmiogbbaaGreatDoorM38
import Derived.Test.YtkijpphmiogbbaaGreatDoorM31
import Derived.Test.YtkijpphmiogbbaaGreatDoorM34
import Derived.Test.YtkijpphmiogbbaaGreatDoorM10
namespace Go.Proofs.YtkijpphmiogbbaaGreatDoor
open Go.RowKit
attribute [local go_sem ↓] Go.wp_at_zero Go.wp_at_succ

set_option maxHeartbeats 4000000 in
set_option maxRecDepth 20000 in
theorem sPack_all (Ls : Nat → Nat → Int) (k o : Nat) (g : Int) (b : Nat) (w : World) (hk : k ≤ 8) (ho : o ≤ 80) (h01 : ∀ s, s < k → ∀ i, i < 256 → 0 ≤ Ls s i ∧ Ls s i < 2) (hr : ∀ s, s < k → PRow .u32 w b (256 * s) (Ls s)) :
    Calls Tryz.prog 138 #[.agg #[.int .i64 g, .int .i64 (k : Int), .int .i64 (o : Int)], .slice (some ⟨b, 0, none⟩) k k] w fun e w' => ((tot Ls k ≤ o ∧ ∃ B : Nat → Int, Pck Ls k o B ∧ (∀ p, 0 ≤ B p ∧ B p < 256) ∧ e = .returned (.tuple #[.string (strH B (o + k)), .bool true])) ∨ (o < tot Ls k ∧ e = .returned (.tuple #[.string ByteArray.empty, .bool false]))) ∧ w.grownBy w' none := by
  have HR : Hid (∀ s, s < k → PRow .u32 w b (256 * s) (Ls s)) := hr
  have H1 : Hid (∀ s, s < k → ∀ i, i < 256 → 0 ≤ Ls s i ∧ Ls s i < 2) := h01
  have HB : Hid (∀ W, Calls Tryz.prog 139 #[.agg #[.int .i64 g, .int .i64 (k : Int), .int .i64 (o : Int)]] W fun e w' => e = .returned (.int .i64 ((o + k : Nat) : Int)) ∧ W.grownBy w' none) := fun W => by
    have h := hintBytes_any g k o W (by omega) (by omega) (by omega) (by omega)
    rw [← Int.natCast_add] at h; exact h
  clear hr h01
  have s1 := setAt_new w g k o 176
  have g1 := World.grownBy_alloc w (.cells #[.int .i64 g, .int .i64 (k : Int), .int .i64 (o : Int)] 176) none
  have e1 := World.size_alloc w (.cells #[.int .i64 g, .int .i64 (k : Int), .int .i64 (o : Int)] 176)
  go_enter Tryz.func138, Tryz.ntmps138
  go_wp2_with fail
  refine (HB.out _).mono ?_
  rintro e w2 ⟨rfl, g2⟩
  have hmk : ∀ W, (Instr.makeSlice 41 (.int .i64 ((o : Int) + (k : Int))) (.int .i64 ((o : Int) + (k : Int)))).run Tryz.prog W = .ok (.slice (some ⟨W.heap.size, 0, none⟩) (o + k) (o + k)) (W.alloc (.cells (zerH (o + k)) 5)) := fun W => by
    have h := run_mkH (o + k) (by omega) W
    rw [Int.natCast_add] at h; exact h
  have s2 := s1.new g2
  have q2 := grownBy_trans g1 g2
  have l2 := g2.size
  rw [e1] at l2
  clear s1 g1 g2 e1
  have z3 := zerH_row (o + k) w2
  have g3 := World.grownBy_alloc w2 (.cells (zerH (o + k)) 5) none
  have s3 := s2.new g3
  have c3 := s3.k
  go_wp2
  generalize w2.alloc (.cells (zerH (o + k)) 5) = w3 at *
  have hg := grownBy_trans q2 g3
  obtain ⟨H, hH⟩ : ∃ H, H = w2.heap.size := ⟨_, rfl⟩
  rw [← hH] at z3 l2 ⊢
  clear hH q2 g3 s2 hmk c3 w2
  obtain ⟨D, hD⟩ : ∃ D, D = w.heap.size := ⟨_, rfl⟩
  rw [← hD] at s3 l2 ⊢
  have hD' : w.heap.size ≤ D := by omega
  clear hD
  go_loopw [7, 8, 9, 15] (fun c _ _ i wr => ∃ (s : Nat) (B : Nat → Int), s ≤ k ∧ i = .int .i64 s ∧ c = .int .i64 (tot Ls s : Nat) ∧ w.grownBy wr none ∧ SetAt wr D g k o ∧ RowH wr H (o + k) B ∧ tot Ls s ≤ o ∧ Pcs Ls s 0 o B ∧ (∀ p, 0 ≤ B p ∧ B p < 256)) (fun _ _ _ i _ => k - (intOf i).toNat)
  case atStart => exact ⟨0, fun _ => 0, by omega, rfl, rfl, hg, s3, z3, Nat.zero_le _, Pcs.begin Ls o, fun _ => by show (0 : Int) ≤ 0 ∧ (0 : Int) < 256; omega⟩
  case round =>
    clear hg s3 z3
    obtain ⟨s, B, hs, rfl, rfl, hg, hS, hB, hto, hP, hBB⟩ := hrel
    by_cases hlt : s < k
    · have a0 : (0 : Int) ≤ (s : Int) := by omega
      have a1 : (s : Int) < (k : Int) := by omega
      go_wp2
      go_loopw [7, 9, 18] (fun c _ i wq => ∃ (p : Nat) (B : Nat → Int), p ≤ 256 ∧ i = .int .i64 p ∧ c = .int .i64 (tot Ls s + cnt (Ls s) p : Nat) ∧ w.grownBy wq none ∧ SetAt wq D g k o ∧ RowH wq H (o + k) B ∧ tot Ls s + cnt (Ls s) p ≤ o ∧ Pcs Ls s p o B ∧ (∀ p, 0 ≤ B p ∧ B p < 256)) (fun _ _ i _ => 256 - (intOf i).toNat)
      case atStart => exact ⟨0, B, by omega, rfl, rfl, hg, hS, hB, hto, hP, hBB⟩
      case round =>
        clear hg hS hB hP hBB hto B
        obtain ⟨p, B, hp, rfl, rfl, hg, hS, hB, hto, hP, hBB⟩ := hrel
        by_cases hl2 : p < 256
        · have b0 : (0 : Int) ≤ (p : Int) := by omega
          have b1 : (p : Int) < 256 := by omega
          have ix := fun W => ixPolys32 b k s hlt W
          have cL := (((HR.out s hlt).new hg) p hl2).1
          by_cases e0 : Ls s p = 0
          · have hP' := hP.skip e0
            have hcn := cnt_zero (Ls s) p e0
            rw [e0] at cL
            go_wp2
            go_roundw
            case rel => exact ⟨p + 1, B, by omega, by go_num, by rw [hcn], hg, hS, hB, by omega, hP', hBB⟩
            case measure => simp [intOf]; omega
          · have hat := tot_at Ls hlt hl2 e0
            have d0 : (Ls s p == 0) = false := by simpa using e0
            have co := hS.o
            obtain ⟨c, hc⟩ : ∃ c, c = tot Ls s + cnt (Ls s) p := ⟨_, rfl⟩
            by_cases hce : c = o
            · have HF : Hid (o < tot Ls k) := by show o < tot Ls k; omega
              rw [← hc]
              have d1 : ((c : Int) == (o : Int)) = true := by simp; omega
              clear hS hB hP hBB e0 hat hto hc hce
              go_wp2
              go_ret2
              exact ⟨Or.inr ⟨HF.out, rfl⟩, hg⟩
            have hP' := hP.step hl2 e0 (by omega)
            have hcn := cnt_one (Ls s) p e0
            rw [← hc] at hat hP' ⊢
            have hco : c < o := by omega
            have d1 : ((c : Int) == (o : Int)) = false := by simp; omega
            have cB := (hB c (by omega)).1
            have fB := (hB c (by omega)).2
            have cw : IntKind.u8.wrap (p : Int) = (p : Int) := by rw [IntKind.wrap_u8]; omega
            have HK : Hid (SetAt wr D g k o ∧ RowH wr H (o + k) B ∧ Pcs Ls s (p + 1) o (upd B c (p : Int)) ∧ (∀ p, 0 ≤ B p ∧ B p < 256) ∧ cnt (Ls s) (p + 1) = cnt (Ls s) p + 1 ∧ c = tot Ls s + cnt (Ls s) p) := ⟨hS, hB, hP', hBB, hcn, hc⟩
            clear hS hB hP hP' hBB hcn hc e0 hat hto hce
            go_wp2
            go_roundw
            case rel =>
              obtain ⟨hS, hB, hP', hBB, hcn, hc⟩ := HK.out
              refine ⟨p + 1, upd B c (p : Int), by omega, by go_num, by rw [hcn, ← Nat.add_assoc, ← hc]; go_num, grown_setNew hg (p := ⟨H, c, none⟩) (by simp; omega) _, hS.set_other (p := ⟨H, c, none⟩) (by simp; omega) _, hB.set (i := c) (by omega) _, by omega, hP', fun q => ?_⟩
              unfold upd
              split
              · omega
              · exact hBB q
            case measure => simp [intOf]; omega
        · have hk6 : p = 256 := by omega
          subst hk6
          have h3 : tot Ls s + cnt (Ls s) 256 = tot Ls (s + 1) := rfl
          rw [h3]
          rw [h3] at hto
          have hP' := hP.next hto
          obtain ⟨c, hc⟩ : ∃ c, c = tot Ls (s + 1) := ⟨_, rfl⟩
          rw [← hc] at hP' hto ⊢
          have hco : c ≤ 80 := by omega
          have cw : IntKind.u8.wrap (c : Int) = (c : Int) := by rw [IntKind.wrap_u8]; omega
          have co := hS.o
          have cB := (hB (o + s) (by omega)).1
          have fB := (hB (o + s) (by omega)).2
          have HK : Hid (SetAt wr D g k o ∧ RowH wr H (o + k) B ∧ Pcs Ls (s + 1) 0 o (upd B (o + s) (c : Int)) ∧ (∀ p, 0 ≤ B p ∧ B p < 256) ∧ c = tot Ls (s + 1) ∧ c ≤ o) := ⟨hS, hB, hP', hBB, hc, hto⟩
          clear hS hB hP hP' hBB hc hto h3
          go_wp2
          go_roundw
          case rel =>
            obtain ⟨hS, hB, hP', hBB, hc, hto⟩ := HK.out
            refine ⟨s + 1, upd B (o + s) (c : Int), by omega, by go_num, by rw [← hc], grown_setNew hg (p := ⟨H, o + s, none⟩) (by simp; omega) _, hS.set_other (p := ⟨H, o + s, none⟩) (by simp; omega) _, hB.set (i := o + s) (by omega) _, by omega, hP', fun q => ?_⟩
            unfold upd
            split
            · omega
            · exact hBB q
          case measure => simp [intOf]; omega
    · have hk6 : s = k := by omega
      subst hk6
      have hcv := run_strH H (o + s) B wr hB
      have HP : Hid (tot Ls s ≤ o ∧ Pck Ls s o B ∧ (∀ p, 0 ≤ B p ∧ B p < 256)) := ⟨hto, hP.whole, hBB⟩
      clear hP hBB hB hS hto
      go_wp2
      go_ret2
      exact ⟨Or.inl ⟨HP.out.1, B, HP.out.2.1, HP.out.2.2, rfl⟩, hg⟩
set_option maxHeartbeats 2000000 in
set_option maxRecDepth 20000 in
theorem PackHint_none (v : Value) (n : Int) (w : World) (h1 : (n == 44) = false) (h2 : (n == 65) = false) (h3 : (n == 87) = false) :
    Calls Tryz.prog 73 #[.int .i64 n, v] w fun e w' => e = .returned (.tuple #[.string ByteArray.empty, .iface 138 (.int .i64 1)]) ∧ w.grownBy w' none := by
  have HN : Hid (∀ W, Calls Tryz.prog 129 #[.int .i64 n] W fun e w' => e = .returned (.tuple #[.agg #[.int .i64 0, .int .i64 0, .int .i64 0], .iface 138 (.int .i64 1)]) ∧ W.grownBy w' none) := fun W => New_none n W h1 h2 h3
  go_enter Tryz.func73, Tryz.ntmps73
  go_wp2_with fail
  refine (HN.out _).mono ?_
  rintro e w2 ⟨rfl, g2⟩
  have g3 := World.grownBy_alloc w2 (.cells #[.int .i64 0, .int .i64 0, .int .i64 0] 176) none
  go_wp2
  go_ret2
  exact ⟨rfl, grownBy_trans g2 g3⟩
set_option maxHeartbeats 2000000 in
set_option maxRecDepth 20000 in
theorem PackHint_len (a0 : Option Addr) (m cp : Nat) (k o : Nat) (n g : Int) (w : World) (hs : IsSet n g k o) (hm : ¬ m = k) (_hm2 : m ≤ 1000) :
    Calls Tryz.prog 73 #[.int .i64 n, .slice a0 m cp] w fun e w' => e = .returned (.tuple #[.string ByteArray.empty, .iface 138 (.int .i64 2)]) ∧ w.grownBy w' none := by
  have HN : Hid (∀ W, Calls Tryz.prog 129 #[.int .i64 n] W fun e w' => e = .returned (.tuple #[.agg #[.int .i64 g, .int .i64 (k : Int), .int .i64 (o : Int)], .nilIface]) ∧ W.grownBy w' none) := fun W => New_any n g k o W hs
  have d1 : ((m : Int) != (k : Int)) = true := by simp; omega
  clear hs hm
  go_enter Tryz.func73, Tryz.ntmps73
  go_wp2_with fail
  refine (HN.out _).mono ?_
  rintro e w2 ⟨rfl, g2⟩
  have g3 := World.grownBy_alloc w2 (.cells #[.int .i64 g, .int .i64 (k : Int), .int .i64 (o : Int)] 176) none
  have S3 := setAt_new w2 g k o 176
  have q3 := grownBy_trans g2 g3
  have c1 := S3.k
  clear g2 g3
  go_wp2
  go_ret2
  exact ⟨rfl, q3⟩
set_option maxHeartbeats 2000000 in
set_option maxRecDepth 20000 in
theorem PackHint_bad (Ls : Nat → Nat → Int) (k o : Nat) (n g : Int) (b cp : Nat) (w : World) (hs : IsSet n g k o) (s0 : Nat) (hs0 : s0 < k) (hL : ∀ s, s < s0 → ∀ i, i < 256 → 0 ≤ Ls s i ∧ Ls s i < 2) (hb : Bad (Ls s0) 2) (hr : ∀ s, s < k → PRow .i64 w b (256 * s) (Ls s)) :
    Calls Tryz.prog 73 #[.int .i64 n, .slice (some ⟨b, 0, none⟩) k cp] w fun e w' => e = .returned (.tuple #[.string ByteArray.empty, .iface 138 (.int .i64 5)]) ∧ w.grownBy w' none := by
  have hko : k ≤ 8 ∧ o ≤ 80 := by unfold IsSet at hs; omega
  have k8 := hko.1
  have HN : Hid (∀ W, Calls Tryz.prog 129 #[.int .i64 n] W fun e w' => e = .returned (.tuple #[.agg #[.int .i64 g, .int .i64 (k : Int), .int .i64 (o : Int)], .nilIface]) ∧ W.grownBy w' none) := fun W => New_any n g k o W hs
  have HW : Hid (∀ W, w.grownBy W none → Calls Tryz.prog 133 #[.int .i64 2, .slice (some ⟨b, 0, none⟩) k cp] W fun e w' => e = .returned (.tuple #[.slice none 0 0, .iface 138 (.int .i64 5)]) ∧ W.grownBy w' none) := fun W hg => by
    obtain ⟨k0, hk0, h3, h4⟩ := hb
    exact narrowed32_bad Ls 2 b k cp W k8 (by omega) s0 hs0 hL (fun s hs => (hr s hs).new hg) k0 hk0 h3 h4
  clear hs hL hb hr hko
  go_enter Tryz.func73, Tryz.ntmps73
  go_wp2_with fail
  refine (HN.out _).mono ?_
  rintro e w2 ⟨rfl, g2⟩
  have g3 := World.grownBy_alloc w2 (.cells #[.int .i64 g, .int .i64 (k : Int), .int .i64 (o : Int)] 176) none
  have S3 := setAt_new w2 g k o 176
  have q3 := grownBy_trans g2 g3
  have c1 := S3.k
  clear g2 g3
  go_wp2_with fail
  generalize w2.alloc (.cells #[.int .i64 g, .int .i64 (k : Int), .int .i64 (o : Int)] 176) = w3 at *
  refine (HW.out w3 q3).mono ?_
  rintro e w5 ⟨rfl, g5⟩
  clear c1 S3
  go_wp2
  go_ret2
  exact ⟨rfl, grownBy_trans q3 g5⟩
set_option maxHeartbeats 2000000 in
set_option maxRecDepth 20000 in
theorem PackHint_all (Ls : Nat → Nat → Int) (k o : Nat) (n g : Int) (b cp : Nat) (w : World) (hs : IsSet n g k o) (h01 : ∀ s, s < k → ∀ i, i < 256 → 0 ≤ Ls s i ∧ Ls s i < 2) (hr : ∀ s, s < k → PRow .i64 w b (256 * s) (Ls s)) :
    Calls Tryz.prog 73 #[.int .i64 n, .slice (some ⟨b, 0, none⟩) k cp] w fun e w' => ((tot Ls k ≤ o ∧ ∃ B : Nat → Int, Pck Ls k o B ∧ (∀ p, 0 ≤ B p ∧ B p < 256) ∧ e = .returned (.tuple #[.string (strH B (o + k)), .nilIface])) ∨ (o < tot Ls k ∧ e = .returned (.tuple #[.string ByteArray.empty, .iface 138 (.int .i64 8)]))) ∧ w.grownBy w' none := by
  have hko : k ≤ 8 ∧ o ≤ 80 := by unfold IsSet at hs; omega
  have k8 := hko.1
  have o80 := hko.2
  have HN : Hid (∀ W, Calls Tryz.prog 129 #[.int .i64 n] W fun e w' => e = .returned (.tuple #[.agg #[.int .i64 g, .int .i64 (k : Int), .int .i64 (o : Int)], .nilIface]) ∧ W.grownBy w' none) := fun W => New_any n g k o W hs
  have HW : Hid (∀ W, w.grownBy W none → Calls Tryz.prog 133 #[.int .i64 2, .slice (some ⟨b, 0, none⟩) k cp] W fun e w' => e = .returned (.tuple #[.slice (some ⟨W.heap.size, 0, none⟩) k k, .nilIface]) ∧ W.grownBy w' none ∧ ∀ s, s < k → PRow .u32 w' W.heap.size (256 * s) (Ls s)) := fun W hg => narrowed32_ok Ls 2 b k cp W k8 (by omega) h01 (fun s hs => (hr s hs).new hg)
  have HP : Hid (∀ W c, (∀ s, s < k → PRow .u32 W c (256 * s) (Ls s)) → Calls Tryz.prog 138 #[.agg #[.int .i64 g, .int .i64 (k : Int), .int .i64 (o : Int)], .slice (some ⟨c, 0, none⟩) k k] W fun e w' => ((tot Ls k ≤ o ∧ ∃ B : Nat → Int, Pck Ls k o B ∧ (∀ p, 0 ≤ B p ∧ B p < 256) ∧ e = .returned (.tuple #[.string (strH B (o + k)), .bool true])) ∨ (o < tot Ls k ∧ e = .returned (.tuple #[.string ByteArray.empty, .bool false]))) ∧ W.grownBy w' none) := fun W c h => sPack_all Ls k o g c W k8 o80 h01 h
  clear hs h01 hr hko
  go_enter Tryz.func73, Tryz.ntmps73
  go_wp2_with fail
  refine (HN.out _).mono ?_
  rintro e w2 ⟨rfl, g2⟩
  have g3 := World.grownBy_alloc w2 (.cells #[.int .i64 g, .int .i64 (k : Int), .int .i64 (o : Int)] 176) none
  have S3 := setAt_new w2 g k o 176
  have q3 := grownBy_trans g2 g3
  have c1 := S3.k
  clear g2 g3
  go_wp2_with fail
  generalize w2.alloc (.cells #[.int .i64 g, .int .i64 (k : Int), .int .i64 (o : Int)] 176) = w3 at *
  refine (HW.out w3 q3).mono ?_
  rintro e w5 ⟨rfl, g5, r5⟩
  have S5 := S3.new g5
  have q5 := grownBy_trans q3 g5
  have d0 := S5.g
  have d1 := S5.k
  have d2 := S5.o
  have HR5 : Hid (∀ s, s < k → PRow .u32 w5 w3.heap.size (256 * s) (Ls s)) := r5
  clear c1 S3 q3 g5 S5 r5
  go_wp2_with fail
  refine (HP.out w5 w3.heap.size HR5.out).mono ?_
  rintro e w6 ⟨⟨ht, B, hB, hBB, rfl⟩ | ⟨ht, rfl⟩, g6⟩
  · have HB : Hid (tot Ls k ≤ o ∧ Pck Ls k o B ∧ ∀ p, 0 ≤ B p ∧ B p < 256) := ⟨ht, hB, hBB⟩
    clear ht hB hBB d0 d1 d2 HR5
    go_wp2
    go_ret2
    exact ⟨Or.inl ⟨HB.out.1, B, HB.out.2.1, HB.out.2.2, rfl⟩, grownBy_trans q5 g6⟩
  · have HB : Hid (o < tot Ls k) := ht
    clear ht d0 d1 d2 HR5
    go_wp2
    go_ret2
    exact ⟨Or.inr ⟨HB.out, rfl⟩, grownBy_trans q5 g6⟩
end Go.Proofs.YtkijpphmiogbbaaGreatDoor

namespace Go.Proofs.YtkijpphmiogbbaaGreatDoor.Z
open Go.RowKit
attribute [local go_sem ↓] Go.wp_at_zero Go.wp_at_succ

/-- A set, two polynomials, room for a third; and a fourth as far as the first k are reckoned. -/
structure Two (w W : World) (A k : Nat) (s : Sg) (F G U : Nat → Int) : Prop where
  x : w.grownBy W none
  sg : SgAt W A s
  f : PRow .i64 W (A + 1) 0 F
  g : PRow .i64 W (A + 1 + 1) 0 G
  p : PRow .i64 W (A + 1 + 1 + 1) 0 (fun _ => 0)
  r : PRow .i64 W (A + 1 + 1 + 1 + 1) 0 (fun j => if j < k then U j else 0)
theorem Two.new {w W W' : World} {A k : Nat} {s : Sg} {F G U : Nat → Int} (h : Two w W A k s F G U) (hg : W.grownBy W' none) : Two w W' A k s F G U :=
  ⟨grownBy_trans h.x hg, h.sg.new hg, h.f.new hg, h.g.new hg, h.p.new hg, h.r.new hg⟩
theorem Two.drew {w W : World} {A k : Nat} {s : Sg} {F G U : Nat → Int} (h : Two w W A k s F G U) : Two w W.drew A k s F G U := h.new (grown_drew (World.grownBy.refl _ _))
theorem Two.put {w W : World} {A k : Nat} {s : Sg} {F G U : Nat → Int} (hA : w.heap.size ≤ A) (h : Two w W A k s F G U) (hk : k < 256) : Two w (W.setCell ⟨A + 1 + 1 + 1 + 1, k, none⟩ (.int .i64 (U k))) A (k + 1) s F G U :=
  ⟨grown_setNew h.x (by show w.heap.size ≤ A + 1 + 1 + 1 + 1; omega) _, h.sg.set_other (by dsimp only; omega) _, h.f.set_other (by dsimp only; omega) _, h.g.set_other (by dsimp only; omega) _, h.p.set_other (by dsimp only; omega) _, (h.r.set0 hk (U k)).ext (fun j _ => mix_step U (fun _ => 0) k j)⟩
theorem Two.skip {w W : World} {A k : Nat} {s : Sg} {F G U : Nat → Int} (h : Two w W A k s F G U) (hz : U k = 0) : Two w W A (k + 1) s F G U :=
  ⟨h.x, h.sg, h.f, h.g, h.p, h.r.ext (fun j _ => mix_none U k hz j)⟩
theorem two_mk (w : World) (s : Sg) (F G U : Nat → Int) : Two w (((((sgBox w s).alloc (.cells (polyA .i64 F) 43)).alloc (.cells (polyA .i64 G) 43)).alloc (.cells Tryz.zeroCells43 43)).alloc (.cells Tryz.zeroCells43 43)) w.heap.size 0 s F G U := by
  rw [Tryz.zY]
  have hS := sgAt_new w s
  have g0 : w.grownBy (sgBox w s) none := World.grownBy_alloc w _ none
  have s0 : (sgBox w s).heap.size = w.heap.size + 1 := World.size_alloc _ _
  generalize sgBox w s = w0 at *
  have n1 := new_alloc .i64 w0 F 43
  generalize w0.alloc (.cells (polyA .i64 F) 43) = w1 at *
  have n2 := new_alloc .i64 w1 G 43
  generalize w1.alloc (.cells (polyA .i64 G) 43) = w2 at *
  have n3 := new_alloc .i64 w2 (fun _ => 0) 43
  generalize w2.alloc (.cells (polyA .i64 (fun _ => 0)) 43) = w3 at *
  have n4 := new_alloc .i64 w3 (fun _ => 0) 43
  generalize w3.alloc (.cells (polyA .i64 (fun _ => 0)) 43) = w4 at *
  have e1 := ((n1.r.new n2.g).new n3.g).new n4.g
  have e2 := (n2.r.new n3.g).new n4.g
  have e3 := n3.r.new n4.g
  have e4 := n4.r
  rw [n3.s] at e4
  rw [n2.s] at e3 e4
  rw [n1.s] at e2 e3 e4
  rw [s0] at e1 e2 e3 e4
  exact ⟨grownBy_trans g0 (grownBy_trans n1.g (grownBy_trans n2.g (grownBy_trans n3.g n4.g))), (((hS.new n1.g).new n2.g).new n3.g).new n4.g, e1, e2, e3, e4.ext (fun j _ => by simp)⟩
theorem sk10 {W : World} {b : Nat} {s : Sg} {q r : Addr} {v u : Value} (h : SgAt W b s) (h2 : W.cell? q = some v) (h3 : W.cell? r = some u) : W.cell? q = some v ∧ W.cell? r = some u ∧ W.cell? ⟨b, 0, none⟩ = some (.int .i64 s.k) ∧ W.cell? ⟨b, 1, none⟩ = some (.int .i64 s.l) ∧ W.cell? ⟨b, 2, none⟩ = some (.int .i64 s.e) ∧ W.cell? ⟨b, 3, none⟩ = some (.int .i64 s.c) ∧ W.cell? ⟨b, 4, none⟩ = some (.int .i64 s.g) ∧ W.cell? ⟨b, 5, none⟩ = some (.int .i64 s.t) ∧ W.cell? ⟨b, 6, none⟩ = some (.int .i64 s.a) ∧ W.cell? ⟨b, 7, none⟩ = some (.int .i64 s.o) := ⟨h2, h3, sk8 h⟩
theorem sk10g {W W' : World} {b : Nat} {s : Sg} {q r : Addr} {v u : Value} (h : W.cell? q = some v ∧ W.cell? r = some u ∧ W.cell? ⟨b, 0, none⟩ = some (.int .i64 s.k) ∧ W.cell? ⟨b, 1, none⟩ = some (.int .i64 s.l) ∧ W.cell? ⟨b, 2, none⟩ = some (.int .i64 s.e) ∧ W.cell? ⟨b, 3, none⟩ = some (.int .i64 s.c) ∧ W.cell? ⟨b, 4, none⟩ = some (.int .i64 s.g) ∧ W.cell? ⟨b, 5, none⟩ = some (.int .i64 s.t) ∧ W.cell? ⟨b, 6, none⟩ = some (.int .i64 s.a) ∧ W.cell? ⟨b, 7, none⟩ = some (.int .i64 s.o)) (hg : W.grownBy W' none) : W'.cell? q = some v ∧ W'.cell? r = some u ∧ W'.cell? ⟨b, 0, none⟩ = some (.int .i64 s.k) ∧ W'.cell? ⟨b, 1, none⟩ = some (.int .i64 s.l) ∧ W'.cell? ⟨b, 2, none⟩ = some (.int .i64 s.e) ∧ W'.cell? ⟨b, 3, none⟩ = some (.int .i64 s.c) ∧ W'.cell? ⟨b, 4, none⟩ = some (.int .i64 s.g) ∧ W'.cell? ⟨b, 5, none⟩ = some (.int .i64 s.t) ∧ W'.cell? ⟨b, 6, none⟩ = some (.int .i64 s.a) ∧ W'.cell? ⟨b, 7, none⟩ = some (.int .i64 s.o) := sk10 ((sk8b h.2.2).new hg) (hg.cell h.1 (by simp)) (hg.cell h.2.1 (by simp))
set_option maxHeartbeats 2000000 in
set_option maxRecDepth 20000 in
theorem ruse_any (s : Sg) (F G : Nat → Int) (w : World) (hg0 : s.g = 95232 ∨ s.g = 261888) (hF : InB F 2) (hG : InB G 8380417) :
    Calls Tryz.prog 72 #[sgV s, .agg (polyA .i64 F), .agg (polyA .i64 G)] w fun e w' => e = .returned (.agg (polyA .i64 (fun i => useI s.g (F i) (G i)))) ∧ w.grownBy w' none := by
  have HF : Hid (InB F 2) := hF
  have HGb : Hid (InB G 8380417) := hG
  have HG0 : Hid (s.g = 95232 ∨ s.g = 261888) := hg0
  have gl : 0 < s.g ∧ s.g ≤ 261888 := by omega
  have g01 := gl.1
  have g02 := gl.2
  have HO : Hid (∀ a W, 0 ≤ a → a < 8380417 → Calls Tryz.prog 132 #[sgV s, .int .i64 a] W fun e w' => e = .returned (.tuple #[.int .i64 (decH s.g a), .int .i64 (decL s.g a)]) ∧ W.grownBy w' none) := fun a W h0 h1 => rone_any s a W h0 (by omega) g01 g02
  obtain ⟨m, hm⟩ : ∃ m : Int, m = 8380416 / (2 * s.g) := ⟨_, rfl⟩
  have m0 : 16 ≤ m ∧ m ≤ 44 := by rcases hg0 with h | h <;> rw [h] at hm <;> omega
  have mt : (8380416 : Int).tdiv (2 * s.g) = m := by rw [Int.tdiv_eq_ediv_of_nonneg (by omega)]; exact hm.symm
  have me : (8380416 : Int) / (2 * s.g) = m := hm.symm
  have m1 := m0.1
  have m2 := m0.2
  have HM : Hid (m = 8380416 / (2 * s.g)) := hm
  have hT := two_mk w s F G (fun i => useI s.g (F i) (G i))
  have qg := hT.sg.g
  have qg0 := (sgAt_new w s).g
  have b3 := World.grownBy_alloc
  clear hF hG hg0 hm m0 gl b3
  go_enter Tryz.func72, Tryz.ntmps72
  go_wp2
  generalize ((((sgBox w s).alloc (.cells (polyA .i64 F) 43)).alloc (.cells (polyA .i64 G) 43)).alloc (.cells Tryz.zeroCells43 43)).alloc (.cells Tryz.zeroCells43 43) = W5 at *
  obtain ⟨A, hA⟩ : ∃ A, A = w.heap.size := ⟨_, rfl⟩
  rw [← hA] at hT ⊢
  have hA' : w.heap.size ≤ A := by omega
  clear hA qg qg0 mt me
  go_loopw [9, 10, 11] (fun i _ _ wr => ∃ k : Nat, k ≤ 256 ∧ i = .int .i64 k ∧ Two w wr A k s F G (fun i => useI s.g (F i) (G i))) (fun i _ _ _ => 256 - (intOf i).toNat)
  case atStart => exact ⟨0, by omega, rfl, hT⟩
  case round =>
    clear hT
    obtain ⟨k, hk, rfl, hT⟩ := hrel
    by_cases hlt : k < 256
    · have b0 : (0 : Int) ≤ (k : Int) := by omega
      have b1 : (k : Int) < 256 := by omega
      have r0 := (HGb.out k hlt).1
      have r1 := (HGb.out k hlt).2
      have hS9 := sk9 hT.drew.sg (hT.drew.g.at0 k hlt).1
      have HC := hidj (fun W => HO.out (G k) W r0 r1)
      have HT : Hid (Two w wr A k s F G (fun i => useI s.g (F i) (G i))) := hT
      have hdb := dec_bounds s.g (G k) HG0.out r0 r1
      have db0 := hdb.1
      have db1 := hdb.2.1
      have db2 := hdb.2.2.1
      have db3 := hdb.2.2.2.1
      rw [← HM.out] at db1
      clear hT HO hdb
      go_wp2_with fail
      go_region_held3 (fun W => W.cell? ⟨A + 1 + 1, k, none⟩ = some (.int .i64 (G k)) ∧ W.cell? ⟨A, 0, none⟩ = some (.int .i64 s.k) ∧ W.cell? ⟨A, 1, none⟩ = some (.int .i64 s.l) ∧ W.cell? ⟨A, 2, none⟩ = some (.int .i64 s.e) ∧ W.cell? ⟨A, 3, none⟩ = some (.int .i64 s.c) ∧ W.cell? ⟨A, 4, none⟩ = some (.int .i64 s.g) ∧ W.cell? ⟨A, 5, none⟩ = some (.int .i64 s.t) ∧ W.cell? ⟨A, 6, none⟩ = some (.int .i64 s.a) ∧ W.cell? ⟨A, 7, none⟩ = some (.int .i64 s.o)) (first | with_reducible exact hS9 | with_reducible exact sk9g hS9 g5) (first | (go_at_call 132; refine (HC.out _).mono ?_; rintro e w5 ⟨rfl, g5⟩))
      have h5 := HT.out.new (grownBy_trans (grown_drew (World.grownBy.refl wr none)) g5)
      have cf := (h5.f.at0 k hlt).1
      have cr := (h5.r.at0 k hlt).1
      have fr := (h5.r.at0 k hlt).2
      have HN : Hid (Two w (w5.setCell ⟨A + 1 + 1 + 1 + 1, k, none⟩ (.int .i64 (useI s.g (F k) (G k)))) A (k + 1) s F G (fun i => useI s.g (F i) (G i))) := h5.put hA' hlt
      clear hS9 HC HT g5 h5
      by_cases e0 : F k = 0
      · have hu : useI s.g (F k) (G k) = decH s.g (G k) := by unfold useI; rw [if_pos e0]
        rw [hu] at HN
        rw [e0] at cf
        clear hu
        go_wp2
        go_roundw
        case rel => exact ⟨k + 1, by omega, by go_num, HN.out⟩
        case measure => simp [intOf]; omega
      · have d0 : (F k == 0) = false := by simpa using e0
        by_cases e1 : 0 < decL s.g (G k)
        · have hu : useI s.g (F k) (G k) = (decH s.g (G k) + 1) % m := by unfold useI; rw [if_neg e0, if_pos e1, ← HM.out]
          have ht : (decH s.g (G k) + 1).tmod m = (decH s.g (G k) + 1) % m := Int.tmod_eq_emod_of_nonneg (by omega)
          have d1 : decide (0 < decL s.g (G k)) = true := by simpa using e1
          rw [hu] at HN
          clear hu e0 e1
          generalize (decH s.g (G k) + 1) % m = u at *
          go_wp2
          go_roundw
          case rel => exact ⟨k + 1, by omega, by go_num, HN.out⟩
          case measure => simp [intOf]; omega
        · have hu : useI s.g (F k) (G k) = (decH s.g (G k) + m - 1) % m := by unfold useI; rw [if_neg e0, if_neg e1, ← HM.out]
          have ht : (decH s.g (G k) + m - 1).tmod m = (decH s.g (G k) + m - 1) % m := Int.tmod_eq_emod_of_nonneg (by omega)
          have d1 : decide (0 < decL s.g (G k)) = false := by simpa using e1
          rw [hu] at HN
          clear hu e0 e1
          generalize (decH s.g (G k) + m - 1) % m = u at *
          go_wp2
          go_roundw
          case rel => exact ⟨k + 1, by omega, by go_num, HN.out⟩
          case measure => simp [intOf]; omega
    · have hk6 : k = 256 := by omega
      subst hk6
      have hr : PRow .i64 wr (A + 1 + 1 + 1 + 1) 0 (fun i => useI s.g (F i) (G i)) := hT.r.ext (fun j hj => by simp [hj])
      have hp := hT.p
      have hx := hT.x
      clear hT
      go_wp2_with (first | (refine wpL_load rfl .i64 43 _ rfl (A + 1 + 1 + 1 + 1) 0 rfl _ hr ⟨_, Tryz.uY⟩ Tryz.sY ?_) | (refine wpL_store rfl .i64 43 _ _ rfl (A + 1 + 1 + 1) 0 rfl _ rfl .i64 _ hp Tryz.sY ?_; intro w7 p7))
      refine bodyPost_ret (res1 Tryz.results72 .i64 _ w7 (A + 1 + 1 + 1) _ rfl p7.r ⟨_, Tryz.uY⟩ Tryz.sY) rfl ⟨rfl, grown_new hx p7.g (by omega)⟩
set_option maxHeartbeats 2000000 in
set_option maxRecDepth 20000 in
theorem rhint_any (s : Sg) (F G : Nat → Int) (w : World) (g01 : 0 < s.g) (g02 : s.g ≤ 261888) (hF : InB F 8380417) (hG : InB G 8380417) :
    Calls Tryz.prog 70 #[sgV s, .agg (polyA .i64 F), .agg (polyA .i64 G)] w fun e w' => e = .returned (.tuple #[.agg (polyA .i64 (fun i => hintI s.g (F i) (G i))), .int .i64 (cnt (fun i => hintI s.g (F i) (G i)) 256 : Nat)]) ∧ w.grownBy w' none := by
  have HF : Hid (InB F 8380417) := hF
  have HGb : Hid (InB G 8380417) := hG
  have HO : Hid (∀ a W, 0 ≤ a → a < 8380417 → Calls Tryz.prog 132 #[sgV s, .int .i64 a] W fun e w' => e = .returned (.tuple #[.int .i64 (decH s.g a), .int .i64 (decL s.g a)]) ∧ W.grownBy w' none) := fun a W h0 h1 => rone_any s a W h0 (by omega) g01 g02
  have hT := two_mk w s F G (fun i => hintI s.g (F i) (G i))
  clear hF hG
  go_enter Tryz.func70, Tryz.ntmps70
  go_wp2
  generalize ((((sgBox w s).alloc (.cells (polyA .i64 F) 43)).alloc (.cells (polyA .i64 G) 43)).alloc (.cells Tryz.zeroCells43 43)).alloc (.cells Tryz.zeroCells43 43) = W5 at *
  obtain ⟨A, hA⟩ : ∃ A, A = w.heap.size := ⟨_, rfl⟩
  rw [← hA] at hT ⊢
  have hA' : w.heap.size ≤ A := by omega
  clear hA
  go_loopw [9, 10, 11, 12, 13, 14] (fun c i _ _ _ _ wr => ∃ k : Nat, k ≤ 256 ∧ i = .int .i64 k ∧ c = .int .i64 (cnt (fun i => hintI s.g (F i) (G i)) k : Nat) ∧ Two w wr A k s F G (fun i => hintI s.g (F i) (G i))) (fun _ i _ _ _ _ _ => 256 - (intOf i).toNat)
  case atStart => exact ⟨0, by omega, rfl, rfl, hT⟩
  case round =>
    clear hT
    obtain ⟨k, hk, rfl, rfl, hT⟩ := hrel
    by_cases hlt : k < 256
    · have b0 : (0 : Int) ≤ (k : Int) := by omega
      have b1 : (k : Int) < 256 := by omega
      have r0 := (HGb.out k hlt).1
      have r1 := (HGb.out k hlt).2
      have z0 := (HF.out k hlt).1
      have z1 := (HF.out k hlt).2
      have hS9 := sk9 hT.drew.sg (hT.drew.g.at0 k hlt).1
      have HC := hidj (fun W => HO.out (G k) W r0 r1)
      obtain ⟨u, hu⟩ : ∃ u, u = (G k + F k) % 8380417 := ⟨_, rfl⟩
      have u0 : 0 ≤ u := by rw [hu]; exact Int.emod_nonneg _ (by omega)
      have u1 : u < 8380417 := by rw [hu]; exact Int.emod_lt_of_pos _ (by omega)
      have HC2 := hidj (fun W => HO.out u W u0 u1)
      have ut : (G k + F k).tmod 8380417 = u := by rw [Int.tmod_eq_emod_of_nonneg (by omega)]; exact hu.symm
      have uw : IntKind.i64.wrap (G k + F k) = G k + F k := by rw [IntKind.wrap_i64] <;> omega
      have ue : (G k + F k) % 8380417 = u := hu.symm
      have HT : Hid (Two w wr A k s F G (fun i => hintI s.g (F i) (G i))) := hT
      have HU : Hid (u = (G k + F k) % 8380417) := hu
      clear hT HO hu
      go_wp2_with fail
      go_region_held3 (fun W => W.cell? ⟨A + 1 + 1, k, none⟩ = some (.int .i64 (G k)) ∧ W.cell? ⟨A, 0, none⟩ = some (.int .i64 s.k) ∧ W.cell? ⟨A, 1, none⟩ = some (.int .i64 s.l) ∧ W.cell? ⟨A, 2, none⟩ = some (.int .i64 s.e) ∧ W.cell? ⟨A, 3, none⟩ = some (.int .i64 s.c) ∧ W.cell? ⟨A, 4, none⟩ = some (.int .i64 s.g) ∧ W.cell? ⟨A, 5, none⟩ = some (.int .i64 s.t) ∧ W.cell? ⟨A, 6, none⟩ = some (.int .i64 s.a) ∧ W.cell? ⟨A, 7, none⟩ = some (.int .i64 s.o)) (first | with_reducible exact hS9 | with_reducible exact sk9g hS9 g5) (first | (go_at_call 132; refine (HC.out _).mono ?_; rintro e w5 ⟨rfl, g5⟩))
      have h5 := HT.out.new (grownBy_trans (grown_drew (World.grownBy.refl wr none)) g5)
      have hS10 := sk10 h5.drew.sg (h5.drew.g.at0 k hlt).1 (h5.drew.f.at0 k hlt).1
      have H5 : Hid (Two w w5 A k s F G (fun i => hintI s.g (F i) (G i))) := h5
      clear hS9 HC HT g5 h5
      go_wp2_with fail
      go_region_held3 (fun W => W.cell? ⟨A + 1 + 1, k, none⟩ = some (.int .i64 (G k)) ∧ W.cell? ⟨A + 1, k, none⟩ = some (.int .i64 (F k)) ∧ W.cell? ⟨A, 0, none⟩ = some (.int .i64 s.k) ∧ W.cell? ⟨A, 1, none⟩ = some (.int .i64 s.l) ∧ W.cell? ⟨A, 2, none⟩ = some (.int .i64 s.e) ∧ W.cell? ⟨A, 3, none⟩ = some (.int .i64 s.c) ∧ W.cell? ⟨A, 4, none⟩ = some (.int .i64 s.g) ∧ W.cell? ⟨A, 5, none⟩ = some (.int .i64 s.t) ∧ W.cell? ⟨A, 6, none⟩ = some (.int .i64 s.a) ∧ W.cell? ⟨A, 7, none⟩ = some (.int .i64 s.o)) (first | with_reducible exact hS10 | with_reducible exact sk10g hS10 g6) (first | (go_at_call 132; refine (HC2.out _).mono ?_; rintro e w6 ⟨rfl, g6⟩))
      have h6 := H5.out.new (grownBy_trans (grown_drew (World.grownBy.refl w5 none)) g6)
      have cr := (h6.r.at0 k hlt).1
      have fr := (h6.r.at0 k hlt).2
      clear hS10 HC2 H5 g6
      by_cases he : decH s.g (G k) = decH s.g u
      · have hh : hintI s.g (F k) (G k) = 0 := by unfold hintI; rw [← HU.out, if_pos he]
        have hcn := cnt_zero (fun i => hintI s.g (F i) (G i)) k hh
        have H6 : Hid (Two w w6 A (k + 1) s F G (fun i => hintI s.g (F i) (G i))) := h6.skip hh
        have d3 : (decH s.g (G k) != decH s.g u) = false := by simpa using he
        clear h6 he
        go_wp2
        go_roundw
        case rel => exact ⟨k + 1, by omega, by go_num, by rw [hcn], H6.out⟩
        case measure => simp [intOf]; omega
      · have hh : hintI s.g (F k) (G k) = 1 := by unfold hintI; rw [← HU.out, if_neg he]
        have hcn := cnt_one (fun i => hintI s.g (F i) (G i)) k (by show hintI s.g (F k) (G k) ≠ 0; omega)
        have hcm : cnt (fun i => hintI s.g (F i) (G i)) k ≤ k := cnt_le _ k
        have H6 : Hid (Two w (w6.setCell ⟨A + 1 + 1 + 1 + 1, k, none⟩ (.int .i64 1)) A (k + 1) s F G (fun i => hintI s.g (F i) (G i))) := by
          have := h6.put hA' hlt
          rw [show hintI s.g (F k) (G k) = 1 from hh] at this
          exact this
        have d3 : (decH s.g (G k) != decH s.g u) = true := by simpa using he
        clear h6 he
        obtain ⟨c, hc⟩ : ∃ c, c = cnt (fun i => hintI s.g (F i) (G i)) k := ⟨_, rfl⟩
        rw [← hc] at hcm hcn ⊢
        go_wp2
        go_roundw
        case rel => exact ⟨k + 1, by omega, by go_num, by rw [hcn]; go_num, H6.out⟩
        case measure => simp [intOf]; omega
    · have hk6 : k = 256 := by omega
      subst hk6
      have hr : PRow .i64 wr (A + 1 + 1 + 1 + 1) 0 (fun i => hintI s.g (F i) (G i)) := hT.r.ext (fun j hj => by simp [hj])
      have hp := hT.p
      have hx := hT.x
      clear hT
      go_wp2_with (first | (refine wpL_load rfl .i64 43 _ rfl (A + 1 + 1 + 1 + 1) 0 rfl _ hr ⟨_, Tryz.uY⟩ Tryz.sY ?_) | (refine wpL_store rfl .i64 43 _ _ rfl (A + 1 + 1 + 1) 0 rfl _ rfl .i64 _ hp Tryz.sY ?_; intro w7 p7))
      refine bodyPost_ret (res2 Tryz.results70 .i64 _ w7 (A + 1 + 1 + 1) _ _ rfl rfl p7.r ⟨_, Tryz.uY⟩ Tryz.sY) rfl ⟨rfl, grown_new hx p7.g (by omega)⟩
end Go.Proofs.YtkijpphmiogbbaaGreatDoor.Z
