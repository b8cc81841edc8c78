import Derived.Test.YtkijpphmiogbbabDoorGi
namespace Go.Proofs.YtkijpphmiogbbabDoor
open Go.RowKit
attribute [local go_sem ↓] Go.wp_at_zero Go.wp_at_succ
attribute [local go_sem] Tryd.zv24 Tryd.zv51

theorem mk64 (m : Nat) (hm : m ≤ 8) (W : World) : (Instr.makeSlice 36 (.int .i64 (m : Int)) (.int .i64 (m : Int))).run Tryd.prog W = .ok (.slice (some ⟨W.heap.size, 0, none⟩) m m) (W.alloc (.cells (madeCells (polyA .i64 (fun _ => 0)) (m * 256)) 24)) := by
  have hinfo : (Tryd.prog.info? 24).map (fun i => (i.zero, i.size, i.bytes)) = some (some (.agg (polyA .i64 (fun _ => 0))), 256, 2048) := by kernel_rfl
  obtain ⟨i0, hi, hz0, hz1, hz2⟩ := info_parts hinfo
  have h := run_make (P := Tryd.prog) W 36 24 i0 _ (by kernel_rfl) hi hz0 .i64 .i64 m m (by omega) (by omega) (by rw [hz2]; omega) (by omega)
  rw [hz1] at h
  simpa [Value.cells] using h
set_option maxHeartbeats 4000000 in
set_option maxRecDepth 20000 in
theorem UnpackHint_any (Ls : Nat → Nat → Int) (k o : Nat) (n g : Int) (B : Nat → Int) (w : World) (hs : IsSet n g k o) (h01 : ∀ s, s < k → ∀ i, i < 256 → 0 ≤ Ls s i ∧ Ls s i < 2) (htot : tot Ls k ≤ o) (hB : Pck Ls k o B) (hBB : ∀ p, 0 ≤ B p ∧ B p < 256) :
    Calls Tryd.prog 12 #[.int .i64 n, .string (strH B (o + k))] w fun e w' => ∃ N, e = .returned (.tuple #[.slice (some ⟨N, 0, none⟩) k k, .nilIface]) ∧ (∀ s, s < k → PRow .i64 w' N (256 * s) (Ls s)) ∧ w.grownBy w' none := by
  have hko : k ≤ 8 ∧ o ≤ 80 := by unfold IsSet at hs; omega
  have k8 := hko.1
  have o80 := hko.2
  have HN : Hid (∀ W, Calls Tryd.prog 13 #[.int .i64 n] W fun e w' => e = .returned (.tuple #[.agg #[.int .i64 g, .int .i64 (k : Int), .int .i64 (o : Int)], .nilIface]) ∧ W.grownBy w' none) := fun W => New_any n g k o W hs
  have HY : Hid (∀ W, Calls Tryd.prog 24 #[.agg #[.int .i64 g, .int .i64 (k : Int), .int .i64 (o : Int)]] W fun e w' => e = .returned (.int .i64 ((o : Int) + (k : Int))) ∧ W.grownBy w' none) := fun W => hintBytes_any g k o W (by omega) (by omega) (by omega) (by omega)
  have HU : Hid (∀ W, Calls Tryd.prog 25 #[.agg #[.int .i64 g, .int .i64 (k : Int), .int .i64 (o : Int)], .string (strH B (o + k))] W fun e w' => ∃ N, e = .returned (.tuple #[.slice (some ⟨N, 0, none⟩) k k, .bool true]) ∧ (∀ s, s < k → PRow .u32 w' N (256 * s) (Ls s)) ∧ W.grownBy w' none) := fun W => sUnpack_any Ls k o g B W k8 o80 h01 htot hB hBB
  have HV : Hid (∀ s W, s < k → Calls Tryd.prog 16 #[.agg (polyA .u32 (Ls s))] W fun e w' => e = .returned (.agg (polyA .i64 (Ls s))) ∧ W.grownBy w' none) := fun s W hs => wide32_any (Ls s) W (fun i hi => by have := h01 s hs i hi; omega)
  have hsz : (strH B (o + k)).size = o + k := strH_size B (o + k)
  clear hs h01 htot hB hBB hko
  generalize strH B (o + k) = t at *
  go_enter Tryd.func12, Tryd.ntmps12
  go_wp2_with fail
  refine (HN.out _).mono ?_
  rintro e w2 ⟨rfl, g2⟩
  have g3 := World.grownBy_alloc w2 (.cells #[.int .i64 g, .int .i64 (k : Int), .int .i64 (o : Int)] 43) none
  have S3 := setAt_new w2 g k o 43
  have q3 := grownBy_trans g2 g3
  have c0 := S3.g
  have c1 := S3.k
  have c2 := S3.o
  clear g3
  go_wp2_with fail
  generalize w2.alloc (.cells #[.int .i64 g, .int .i64 (k : Int), .int .i64 (o : Int)] 43) = w3 at *
  refine (HY.out w3).mono ?_
  rintro e w4 ⟨rfl, g4⟩
  have S4 := S3.new g4
  have q4 := grownBy_trans q3 g4
  have l2 := g2.size
  clear c0 c1 c2 S3 q3 g4 HY g2
  have c0 := S4.g
  have c1 := S4.k
  have c2 := S4.o
  have ht : (t.size : Int) = (o : Int) + (k : Int) := by omega
  go_wp2_with fail
  refine (HU.out w4).mono ?_
  rintro e w5 ⟨N, rfl, r5, g5⟩
  have S5 := S4.new g5
  have q5 := grownBy_trans q4 g5
  have HR5 : Hid (∀ s, s < k → PRow .u32 w5 N (256 * s) (Ls s)) := r5
  clear c0 c1 c2 S4 q4 g5 r5 HU ht hsz
  have c1 := S5.k
  have hmk := fun W => mk64 k k8 W
  have m6 := made_rows .i64 w5 k 24
  have g6 := World.grownBy_alloc w5 (.cells (madeCells (polyA .i64 (fun _ => 0)) (k * 256)) 24) none
  have S6 := S5.new g6
  have d1 := S6.k
  go_wp2
  generalize w5.alloc (.cells (madeCells (polyA .i64 (fun _ => 0)) (k * 256)) 24) = w6 at *
  have hg := grownBy_trans q5 g6
  have HR : Hid (∀ s, s < k → PRow .u32 w6 N (256 * s) (Ls s)) := fun s hs => (HR5.out s hs).new g6
  have HNl : Hid (∀ s, s < k → N < w5.heap.size) := fun s hs => (HR5.out s hs).lt
  have lw : w.heap.size ≤ w5.heap.size := q5.size
  clear c1 d1 hmk S5 S6 q5 HR5
  obtain ⟨M, hM⟩ : ∃ M, M = w5.heap.size := ⟨_, rfl⟩
  rw [← hM] at m6 lw HNl ⊢
  have hN : Nar .i64 w6 M k 0 Ls := ⟨fun s hs => absurd hs (by omega), fun s _ hs => m6 s hs⟩
  clear hM m6 g6
  go_loopw [11, 40] (fun _ i wr => ∃ s : Nat, s ≤ k ∧ i = .int .i64 s ∧ w.grownBy wr none ∧ Nar .i64 wr M k s Ls ∧ Hid (∀ s, s < k → PRow .u32 wr N (256 * s) (Ls s))) (fun _ i _ => k - (intOf i).toNat)
  case atStart => exact ⟨0, by omega, rfl, hg, hN, HR⟩
  case round =>
    clear hg hN HR
    obtain ⟨s, hs, rfl, hg, hN, HR⟩ := hrel
    by_cases hlt : s < k
    · have a0 : (0 : Int) ≤ (s : Int) := by omega
      have a1 : (s : Int) < (k : Int) := by omega
      have ix := fun W => ixPolys32 N k s hlt W
      have ix2 := fun W => ixPolysc M k k s hlt W
      have hr := HR.out s hlt
      have hNM := HNl.out s hlt
      go_wp2_with (first | (refine wpL_load rfl .u32 51 _ rfl N (256 * s) rfl _ hr Tryd.oQ32 Tryd.sQ32 ?_) | (go_at_call 16; refine (HV.out s _ hlt).mono ?_; rintro e w7 ⟨rfl, g7⟩) | (refine wpL_store rfl .i64 24 _ _ rfl M (256 * s) rfl _ rfl .i64 _ ((hN.left s (Nat.le_refl _) hlt).new g7) Tryd.sP ?_; intro w8 p8))
      go_roundw
      case rel => exact ⟨s + 1, by omega, by go_num, grown_new (grownBy_trans hg g7) p8.g lw, (hN.new g7).step p8, fun u hu => ((HR.out u hu).new g7).far p8.g (by simp; omega)⟩
      case measure => simp [intOf]; omega
    · have hk6 : s = k := by omega
      subst hk6
      have HD : Hid (∀ u, u < s → PRow .i64 wr M (256 * u) (Ls u)) := fun u hu => hN.done u hu
      clear hN
      go_wp2
      go_ret2
      exact ⟨M, rfl, HD.out, hg⟩
end Go.Proofs.YtkijpphmiogbbabDoor
