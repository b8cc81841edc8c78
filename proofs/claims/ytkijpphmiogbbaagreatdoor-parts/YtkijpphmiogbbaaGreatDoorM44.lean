import Derived.Test.YtkijpphmiogbbaaGreatDoorM43
import Derived.Test.YtkijpphmiogbbaaGreatDoorM42
namespace Go.Proofs.YtkijpphmiogbbaaGreatDoor
open Go.RowKit
attribute [local go_sem ↓] Go.wp_at_zero Go.wp_at_succ

set_option maxHeartbeats 4000000 in
set_option maxRecDepth 20000 in
theorem UnpackHint_all (k o : Nat) (n g : Int) (t : ByteArray) (w : World) (hs : IsSet n g k o) (hsz : t.size = o + k) :
    Calls Tryz.prog 75 #[.int .i64 n, .string t] w fun e w' => ((rgood (txH t) k o ∧ ∃ N, e = .returned (.tuple #[.slice (some ⟨N, 0, none⟩) k k, .nilIface]) ∧ w.heap.size ≤ N ∧ ∀ s, s < k → PRow .i64 w' N (256 * s) (rdL (txH t) o s)) ∨ (¬ rgood (txH t) k o ∧ e = .returned (.tuple #[.slice none 0 0, .iface 138 (.int .i64 8)]))) ∧ w.grownBy w' none := by
  have hko : k ≤ 8 ∧ o ≤ 80 := by unfold IsSet at hs; omega
  have k8 := hko.1
  have o80 := hko.2
  have HN : Hid (∀ W, Calls Tryz.prog 129 #[.int .i64 n] W fun e w' => e = .returned (.tuple #[.agg #[.int .i64 g, .int .i64 (k : Int), .int .i64 (o : Int)], .nilIface]) ∧ W.grownBy w' none) := fun W => New_any n g k o W hs
  have HY : Hid (∀ W, Calls Tryz.prog 139 #[.agg #[.int .i64 g, .int .i64 (k : Int), .int .i64 (o : Int)]] W fun e w' => e = .returned (.int .i64 ((o : Int) + (k : Int))) ∧ W.grownBy w' none) := fun W => hintBytes_any g k o W (by omega) (by omega) (by omega) (by omega)
  have HU : Hid (∀ W, Calls Tryz.prog 140 #[.agg #[.int .i64 g, .int .i64 (k : Int), .int .i64 (o : Int)], .string t] W fun e w' => ((rgood (txH t) k o ∧ ∃ N, e = .returned (.tuple #[.slice (some ⟨N, 0, none⟩) k k, .bool true]) ∧ ∀ s, s < k → PRow .u32 w' N (256 * s) (rdL (txH t) o s)) ∨ (¬ rgood (txH t) k o ∧ e = .returned (.tuple #[.slice none 0 0, .bool false]))) ∧ W.grownBy w' none) := fun W => sUnpack_all k o g t W k8 o80 hsz
  have HV : Hid (∀ s W, s < k → Calls Tryz.prog 125 #[.agg (polyA .u32 (rdL (txH t) o s))] W fun e w' => e = .returned (.agg (polyA .i64 (rdL (txH t) o s))) ∧ W.grownBy w' none) := fun s W hs => wide32_any (rdL (txH t) o s) W (fun i _ => by have := rdP_01 (txH t) (rst (txH t) o s) (rst (txH t) o (s + 1) - rst (txH t) o s) i; unfold rdL; omega)
  clear hs hko
  go_enter Tryz.func75, Tryz.ntmps75
  go_wp2_with fail
  refine (HN.out _).mono ?_
  rintro e w2 ⟨rfl, g2⟩
  have g3 := World.grownBy_alloc w2 (.cells #[.int .i64 g, .int .i64 (k : Int), .int .i64 (o : Int)] 176) none
  have S3 := setAt_new w2 g k o 176
  have q3 := grownBy_trans g2 g3
  have c0 := S3.g
  have c1 := S3.k
  have c2 := S3.o
  clear g3
  go_wp2_with fail
  generalize w2.alloc (.cells #[.int .i64 g, .int .i64 (k : Int), .int .i64 (o : Int)] 176) = w3 at *
  refine (HY.out w3).mono ?_
  rintro e w4 ⟨rfl, g4⟩
  have S4 := S3.new g4
  have q4 := grownBy_trans q3 g4
  have l2 := g2.size
  clear c0 c1 c2 S3 q3 g4 HY g2
  have c0 := S4.g
  have c1 := S4.k
  have c2 := S4.o
  have ht : (t.size : Int) = (o : Int) + (k : Int) := by omega
  go_wp2_with fail
  refine (HU.out w4).mono ?_
  rintro e w5 ⟨⟨hgd, N, rfl, r5⟩ | ⟨hgd, rfl⟩, g5⟩
  case inr =>
    have HF : Hid (¬ rgood (txH t) k o) := hgd
    clear hgd c0 c1 c2 S4 HU ht hsz
    go_wp2
    go_ret2
    exact ⟨Or.inr ⟨HF.out, rfl⟩, grownBy_trans q4 g5⟩
  have HGD : Hid (rgood (txH t) k o) := hgd
  clear hgd
  have S5 := S4.new g5
  have q5 := grownBy_trans q4 g5
  have HR5 : Hid (∀ s, s < k → PRow .u32 w5 N (256 * s) (rdL (txH t) o s)) := r5
  clear c0 c1 c2 S4 q4 g5 r5 HU ht hsz
  have c1 := S5.k
  have hmk := fun W => mk64 k k8 W
  have m6 := made_rows .i64 w5 k 71
  have g6 := World.grownBy_alloc w5 (.cells (madeCells (polyA .i64 (fun _ => 0)) (k * 256)) 71) none
  have S6 := S5.new g6
  have d1 := S6.k
  go_wp2
  generalize w5.alloc (.cells (madeCells (polyA .i64 (fun _ => 0)) (k * 256)) 71) = w6 at *
  have hg := grownBy_trans q5 g6
  have HR : Hid (∀ s, s < k → PRow .u32 w6 N (256 * s) (rdL (txH t) o s)) := fun s hs => (HR5.out s hs).new g6
  have HNl : Hid (∀ s, s < k → N < w5.heap.size) := fun s hs => (HR5.out s hs).lt
  have lw : w.heap.size ≤ w5.heap.size := q5.size
  clear c1 d1 hmk S5 S6 q5 HR5
  obtain ⟨M, hM⟩ : ∃ M, M = w5.heap.size := ⟨_, rfl⟩
  rw [← hM] at m6 lw HNl ⊢
  have hN : Nar .i64 w6 M k 0 (rdL (txH t) o) := ⟨fun s hs => absurd hs (by omega), fun s _ hs => m6 s hs⟩
  clear hM m6 g6
  go_loopw [11, 40] (fun _ i wr => ∃ s : Nat, s ≤ k ∧ i = .int .i64 s ∧ w.grownBy wr none ∧ Nar .i64 wr M k s (rdL (txH t) o) ∧ Hid (∀ s, s < k → PRow .u32 wr N (256 * s) (rdL (txH t) o s))) (fun _ i _ => k - (intOf i).toNat)
  case atStart => exact ⟨0, by omega, rfl, hg, hN, HR⟩
  case round =>
    clear hg hN HR
    obtain ⟨s, hs, rfl, hg, hN, HR⟩ := hrel
    by_cases hlt : s < k
    · have a0 : (0 : Int) ≤ (s : Int) := by omega
      have a1 : (s : Int) < (k : Int) := by omega
      have ix := fun W => ixPolys32 N k s hlt W
      have ix2 := fun W => ixPolysc M k k s hlt W
      have hr := HR.out s hlt
      have hNM := HNl.out s hlt
      go_wp2_with (first | (refine wpL_load rfl .u32 166 _ rfl N (256 * s) rfl _ hr Tryz.oQ32 Tryz.sQ32 ?_) | (go_at_call 125; refine (HV.out s _ hlt).mono ?_; rintro e w7 ⟨rfl, g7⟩) | (refine wpL_store rfl .i64 71 _ _ rfl M (256 * s) rfl _ rfl .i64 _ ((hN.left s (Nat.le_refl _) hlt).new g7) Tryz.sP ?_; intro w8 p8))
      go_roundw
      case rel => exact ⟨s + 1, by omega, by go_num, grown_new (grownBy_trans hg g7) p8.g lw, (hN.new g7).step p8, fun u hu => ((HR.out u hu).new g7).far p8.g (by simp; omega)⟩
      case measure => simp [intOf]; omega
    · have hk6 : s = k := by omega
      subst hk6
      have HD : Hid (∀ u, u < s → PRow .i64 wr M (256 * u) (rdL (txH t) o u)) := fun u hu => hN.done u hu
      clear hN
      go_wp2
      go_ret2
      exact ⟨Or.inl ⟨HGD.out, M, rfl, lw, HD.out⟩, hg⟩
set_option maxHeartbeats 2000000 in
set_option maxRecDepth 20000 in
theorem UnpackHint_none (t : ByteArray) (n : Int) (w : World) (h1 : (n == 44) = false) (h2 : (n == 65) = false) (h3 : (n == 87) = false) :
    Calls Tryz.prog 75 #[.int .i64 n, .string t] w fun e w' => e = .returned (.tuple #[.slice none 0 0, .iface 138 (.int .i64 1)]) ∧ w.grownBy w' none := by
  have HN : Hid (∀ W, Calls Tryz.prog 129 #[.int .i64 n] W fun e w' => e = .returned (.tuple #[.agg #[.int .i64 0, .int .i64 0, .int .i64 0], .iface 138 (.int .i64 1)]) ∧ W.grownBy w' none) := fun W => New_none n W h1 h2 h3
  go_enter Tryz.func75, Tryz.ntmps75
  go_wp2_with fail
  refine (HN.out _).mono ?_
  rintro e w2 ⟨rfl, g2⟩
  have g3 := World.grownBy_alloc w2 (.cells #[.int .i64 0, .int .i64 0, .int .i64 0] 176) none
  go_wp2
  go_ret2
  exact ⟨rfl, grownBy_trans g2 g3⟩
set_option maxHeartbeats 2000000 in
set_option maxRecDepth 20000 in
theorem UnpackHint_len (k o : Nat) (n g : Int) (t : ByteArray) (w : World) (hs : IsSet n g k o) (hsz : ¬ t.size = o + k) (_hs2 : t.size ≤ 1000000) :
    Calls Tryz.prog 75 #[.int .i64 n, .string t] w fun e w' => e = .returned (.tuple #[.slice none 0 0, .iface 138 (.int .i64 2)]) ∧ w.grownBy w' none := by
  have hko : k ≤ 8 ∧ o ≤ 80 := by unfold IsSet at hs; omega
  have k8 := hko.1
  have o80 := hko.2
  have HN : Hid (∀ W, Calls Tryz.prog 129 #[.int .i64 n] W fun e w' => e = .returned (.tuple #[.agg #[.int .i64 g, .int .i64 (k : Int), .int .i64 (o : Int)], .nilIface]) ∧ W.grownBy w' none) := fun W => New_any n g k o W hs
  have HY : Hid (∀ W, Calls Tryz.prog 139 #[.agg #[.int .i64 g, .int .i64 (k : Int), .int .i64 (o : Int)]] W fun e w' => e = .returned (.int .i64 ((o : Int) + (k : Int))) ∧ W.grownBy w' none) := fun W => hintBytes_any g k o W (by omega) (by omega) (by omega) (by omega)
  have d1 : ((t.size : Int) != (o : Int) + (k : Int)) = true := by simp; omega
  clear hs hsz hko
  go_enter Tryz.func75, Tryz.ntmps75
  go_wp2_with fail
  refine (HN.out _).mono ?_
  rintro e w2 ⟨rfl, g2⟩
  have g3 := World.grownBy_alloc w2 (.cells #[.int .i64 g, .int .i64 (k : Int), .int .i64 (o : Int)] 176) none
  have S3 := setAt_new w2 g k o 176
  have q3 := grownBy_trans g2 g3
  have c0 := S3.g
  have c1 := S3.k
  have c2 := S3.o
  clear g3
  go_wp2_with fail
  generalize w2.alloc (.cells #[.int .i64 g, .int .i64 (k : Int), .int .i64 (o : Int)] 176) = w3 at *
  refine (HY.out w3).mono ?_
  rintro e w4 ⟨rfl, g4⟩
  clear c0 c1 c2 S3
  go_wp2
  go_ret2
  exact ⟨rfl, grownBy_trans q3 g4⟩
end Go.Proofs.YtkijpphmiogbbaaGreatDoor

namespace Go.Proofs.YtkijpphmiogbbaaGreatDoor.Z
open Go.RowKit
attribute [local go_sem ↓] Go.wp_at_zero Go.wp_at_succ
attribute [local go_sem ↓] ld_hide st_hide ldA_hide stA_hide

set_option maxHeartbeats 4000000 in
set_option maxRecDepth 20000 in
theorem hun_n (d : Int) (t : ByteArray) (s : Sg) (w : World) (ht : t.size ≤ 20000)
    (HS : Hid (∀ W, Calls Tryz.prog 64 #[.int .i64 d] W fun e w' => e = .returned (.tuple #[sgV s, .bool false]) ∧ W.grownBy w' none))
    (HA : Hid (∀ W, Calls Tryz.prog 75 #[.int .i64 d, .string t] W fun e w' => e = .returned (.tuple #[.slice none 0 0, .iface 138 (.int .i64 1)]) ∧ W.grownBy w' none))
    (hE : Et w) : Calls Tryz.prog 35 #[.int .i64 d, .string t] w fun e w' => e = .returned (.tuple #[.slice none 0 0, .bool true]) ∧ w.grownBy w' none := by
  have t9 : (t.size : Int) ≤ 20000 := by omega
  clear ht
  go_enter Tryz.func35, Tryz.ntmps35
  go_wp2_with fail
  refine (HA.out _).mono ?_
  rintro e w1 ⟨rfl, g1⟩
  go_wp2_with fail
  refine (HS.out _).mono ?_
  rintro e w5 ⟨rfl, y5⟩
  have g5 := grownBy_trans g1 y5
  have S1 : SgAt (w5.alloc (.cells #[.int .i64 s.k, .int .i64 s.l, .int .i64 s.e, .int .i64 s.c, .int .i64 s.g, .int .i64 s.t, .int .i64 s.a, .int .i64 s.o] 102)) w5.heap.size s := sgAt_new w5 s
  have y6 := grownBy_trans y5 (World.grownBy_alloc w5 (.cells #[.int .i64 s.k, .int .i64 s.l, .int .i64 s.e, .int .i64 s.c, .int .i64 s.g, .int .i64 s.t, .int .i64 s.a, .int .i64 s.o] 102) none)
  have g6 := grownBy_trans g1 y6
  clear g5 y5 g1
  go_wp2_with fail
  generalize w5.alloc (.cells #[.int .i64 s.k, .int .i64 s.l, .int .i64 s.e, .int .i64 s.c, .int .i64 s.g, .int .i64 s.t, .int .i64 s.a, .int .i64 s.o] 102) = w6 at *
  clear S1
  clear y6
  have g7 := g6
  clear g6
  refine (ltold_err 1 _ (hE.new g7) (by decide)).mono ?_
  rintro e w9 ⟨rfl, y9⟩
  have g9 := grownBy_trans g7 y9
  clear y9 g7
  go_wp2
  refine wp_loop_rounds 1 ?_
  rw [rounds_succ]
  go_wp2
  go_ret2
  exact ⟨rfl, g9⟩
set_option maxHeartbeats 4000000 in
set_option maxRecDepth 20000 in
theorem hun_l (d : Int) (t : ByteArray) (s : Sg) (w : World) (ht : t.size ≤ 20000) (hk : ¬ (t.size : Int) = s.o + s.k) (hs : 0 ≤ s.o ∧ s.o ≤ 80 ∧ 0 ≤ s.k ∧ s.k ≤ 8)
    (HS : Hid (∀ W, Calls Tryz.prog 64 #[.int .i64 d] W fun e w' => e = .returned (.tuple #[sgV s, .bool true]) ∧ W.grownBy w' none))
    (HA : Hid (∀ W, Calls Tryz.prog 75 #[.int .i64 d, .string t] W fun e w' => e = .returned (.tuple #[.slice none 0 0, .iface 138 (.int .i64 2)]) ∧ W.grownBy w' none))
    (hE : Et w) : Calls Tryz.prog 35 #[.int .i64 d, .string t] w fun e w' => e = .returned (.tuple #[.slice none 0 0, .bool true]) ∧ w.grownBy w' none := by
  obtain ⟨o0, o1, q0, q1⟩ := hs
  have kk : ((t.size : Int) != s.o + s.k) = true := by simpa using hk
  clear hk
  have wr9 : IntKind.i64.wrap (s.o + s.k) = s.o + s.k := by rw [IntKind.wrap_i64] <;> omega
  clear o0 o1 q0 q1
  have t9 : (t.size : Int) ≤ 20000 := by omega
  clear ht
  go_enter Tryz.func35, Tryz.ntmps35
  go_wp2_with fail
  refine (HA.out _).mono ?_
  rintro e w1 ⟨rfl, g1⟩
  go_wp2_with fail
  refine (HS.out _).mono ?_
  rintro e w5 ⟨rfl, y5⟩
  have g5 := grownBy_trans g1 y5
  have S1 : SgAt (w5.alloc (.cells #[.int .i64 s.k, .int .i64 s.l, .int .i64 s.e, .int .i64 s.c, .int .i64 s.g, .int .i64 s.t, .int .i64 s.a, .int .i64 s.o] 102)) w5.heap.size s := sgAt_new w5 s
  have y6 := grownBy_trans y5 (World.grownBy_alloc w5 (.cells #[.int .i64 s.k, .int .i64 s.l, .int .i64 s.e, .int .i64 s.c, .int .i64 s.g, .int .i64 s.t, .int .i64 s.a, .int .i64 s.o] 102) none)
  have g6 := grownBy_trans g1 y6
  clear g5 y5 g1
  obtain ⟨g0, g1, g2, g3, g4, g5, g6b, g7⟩ := S1
  go_wp2_with fail
  generalize w5.alloc (.cells #[.int .i64 s.k, .int .i64 s.l, .int .i64 s.e, .int .i64 s.c, .int .i64 s.g, .int .i64 s.t, .int .i64 s.a, .int .i64 s.o] 102) = w6 at *
  clear g0 g1 g2 g3 g4 g5 g6b g7
  clear y6
  have g7 := g6
  clear g6
  refine (ltold_err 2 _ (hE.new g7) (by decide)).mono ?_
  rintro e w9 ⟨rfl, y9⟩
  have g9 := grownBy_trans g7 y9
  clear y9 g7
  go_wp2
  refine wp_loop_rounds 1 ?_
  rw [rounds_succ]
  go_wp2
  go_ret2
  exact ⟨rfl, g9⟩
set_option maxHeartbeats 4000000 in
set_option maxRecDepth 20000 in
theorem hun_h (d : Int) (t : ByteArray) (s : Sg) (w : World) (ht : t.size ≤ 20000) (hk : (t.size : Int) = s.o + s.k) (hs : 0 ≤ s.o ∧ s.o ≤ 80 ∧ 0 ≤ s.k ∧ s.k ≤ 8)
    (HS : Hid (∀ W, Calls Tryz.prog 64 #[.int .i64 d] W fun e w' => e = .returned (.tuple #[sgV s, .bool true]) ∧ W.grownBy w' none))
    (HA : Hid (∀ W, Calls Tryz.prog 75 #[.int .i64 d, .string t] W fun e w' => e = .returned (.tuple #[.slice none 0 0, .iface 138 (.int .i64 8)]) ∧ W.grownBy w' none))
    (HP : Hid (∀ W, Calls Tryz.prog 76 #[sgV s, .string t] W fun e w' => e = .returned (.tuple #[.slice none 0 0, .bool false]) ∧ W.grownBy w' none))
    (hE : Et w) : Calls Tryz.prog 35 #[.int .i64 d, .string t] w fun e w' => e = .returned (.tuple #[.slice none 0 0, .bool true]) ∧ w.grownBy w' none := by
  obtain ⟨o0, o1, q0, q1⟩ := hs
  have kk : ((t.size : Int) != s.o + s.k) = false := by simpa using hk
  clear hk
  have wr9 : IntKind.i64.wrap (s.o + s.k) = s.o + s.k := by rw [IntKind.wrap_i64] <;> omega
  clear o0 o1 q0 q1
  have t9 : (t.size : Int) ≤ 20000 := by omega
  clear ht
  go_enter Tryz.func35, Tryz.ntmps35
  go_wp2_with fail
  refine (HA.out _).mono ?_
  rintro e w1 ⟨rfl, g1⟩
  go_wp2_with fail
  refine (HS.out _).mono ?_
  rintro e w5 ⟨rfl, y5⟩
  have g5 := grownBy_trans g1 y5
  have S1 : SgAt (w5.alloc (.cells #[.int .i64 s.k, .int .i64 s.l, .int .i64 s.e, .int .i64 s.c, .int .i64 s.g, .int .i64 s.t, .int .i64 s.a, .int .i64 s.o] 102)) w5.heap.size s := sgAt_new w5 s
  have y6 := grownBy_trans y5 (World.grownBy_alloc w5 (.cells #[.int .i64 s.k, .int .i64 s.l, .int .i64 s.e, .int .i64 s.c, .int .i64 s.g, .int .i64 s.t, .int .i64 s.a, .int .i64 s.o] 102) none)
  have g6 := grownBy_trans g1 y6
  clear g5 y5 g1
  obtain ⟨g0, g1, g2, g3, g4, g5, g6b, g7⟩ := S1
  go_wp2_with fail
  generalize w5.alloc (.cells #[.int .i64 s.k, .int .i64 s.l, .int .i64 s.e, .int .i64 s.c, .int .i64 s.g, .int .i64 s.t, .int .i64 s.a, .int .i64 s.o] 102) = w6 at *
  clear g0 g1 g2 g3 g4 g5 g6b g7
  clear y6
  refine (HP.out _).mono ?_
  rintro e w7 ⟨rfl, y7⟩
  have g7 := grownBy_trans g6 y7
  clear g6 y7
  go_wp2_with fail
  refine (ltold_err 8 _ (hE.new g7) (by decide)).mono ?_
  rintro e w9 ⟨rfl, y9⟩
  have g9 := grownBy_trans g7 y9
  clear y9 g7
  go_wp2
  refine wp_loop_rounds 1 ?_
  rw [rounds_succ]
  go_wp2
  go_ret2
  exact ⟨rfl, g9⟩
set_option maxHeartbeats 4000000 in
set_option maxRecDepth 20000 in
theorem hun_k (d : Int) (t : ByteArray) (s : Sg) (k : Nat) (Rs : Nat → Nat → Int) (w : World) (ht : t.size ≤ 20000) (hk : (t.size : Int) = s.o + s.k) (hs : 0 ≤ s.o ∧ s.o ≤ 80 ∧ 0 ≤ s.k ∧ s.k ≤ 8) (k8 : k ≤ 8)
    (HS : Hid (∀ W, Calls Tryz.prog 64 #[.int .i64 d] W fun e w' => e = .returned (.tuple #[sgV s, .bool true]) ∧ W.grownBy w' none))
    (HA : Hid (∀ W, Calls Tryz.prog 75 #[.int .i64 d, .string t] W fun e w' => ∃ N, e = .returned (.tuple #[.slice (some ⟨N, 0, none⟩) k k, .nilIface]) ∧ W.heap.size ≤ N ∧ (∀ s, s < k → PRow .i64 w' N (256 * s) (Rs s)) ∧ W.grownBy w' none))
    (HP : Hid (∀ W, Calls Tryz.prog 76 #[sgV s, .string t] W fun e w' => ∃ N, e = .returned (.tuple #[.slice (some ⟨N, 0, none⟩) k k, .bool true]) ∧ (∀ s, s < k → PRow .i64 w' N (256 * s) (Rs s)) ∧ W.grownBy w' none))
    : Calls Tryz.prog 35 #[.int .i64 d, .string t] w fun e w' => ∃ N, e = .returned (.tuple #[.slice (some ⟨N, 0, none⟩) k k, .bool true]) ∧ w.heap.size ≤ N ∧ (∀ s, s < k → PRow .i64 w' N (256 * s) (Rs s)) ∧ w.grownBy w' none := by
  obtain ⟨o0, o1, q0, q1⟩ := hs
  have kk : ((t.size : Int) != s.o + s.k) = false := by simpa using hk
  clear hk
  have wr9 : IntKind.i64.wrap (s.o + s.k) = s.o + s.k := by rw [IntKind.wrap_i64] <;> omega
  clear o0 o1 q0 q1
  have t9 : (t.size : Int) ≤ 20000 := by omega
  clear ht
  go_enter Tryz.func35, Tryz.ntmps35
  go_wp2_with fail
  refine (HA.out _).mono ?_
  rintro e w1 ⟨N, rfl, lN, r1, g1⟩
  have R1 : Hid (∀ s, s < k → PRow .i64 w1 N (256 * s) (Rs s)) := r1
  clear r1
  go_wp2_with fail
  refine (HS.out _).mono ?_
  rintro e w5 ⟨rfl, y5⟩
  have g5 := grownBy_trans g1 y5
  have S1 : SgAt (w5.alloc (.cells #[.int .i64 s.k, .int .i64 s.l, .int .i64 s.e, .int .i64 s.c, .int .i64 s.g, .int .i64 s.t, .int .i64 s.a, .int .i64 s.o] 102)) w5.heap.size s := sgAt_new w5 s
  have y6 := grownBy_trans y5 (World.grownBy_alloc w5 (.cells #[.int .i64 s.k, .int .i64 s.l, .int .i64 s.e, .int .i64 s.c, .int .i64 s.g, .int .i64 s.t, .int .i64 s.a, .int .i64 s.o] 102) none)
  have g6 := grownBy_trans g1 y6
  clear g5 y5 g1
  obtain ⟨g0, g1, g2, g3, g4, g5, g6b, g7⟩ := S1
  go_wp2_with fail
  generalize w5.alloc (.cells #[.int .i64 s.k, .int .i64 s.l, .int .i64 s.e, .int .i64 s.c, .int .i64 s.g, .int .i64 s.t, .int .i64 s.a, .int .i64 s.o] 102) = w6 at *
  clear g0 g1 g2 g3 g4 g5 g6b g7
  have R6 : Hid (∀ s, s < k → PRow .i64 w6 N (256 * s) (Rs s)) := fun s hs => (R1.out s hs).new y6
  clear R1 y6
  refine (HP.out _).mono ?_
  rintro e w7 ⟨M, rfl, r7, y7⟩
  have R7 : Hid (∀ s, s < k → PRow .i64 w7 N (256 * s) (Rs s)) := fun s hs => (R6.out s hs).new y7
  have M7 : Hid (∀ s, s < k → PRow .i64 w7 M (256 * s) (Rs s)) := r7
  have g7 := grownBy_trans g6 y7
  clear g6 y7 r7 R6
  go_wp2_with fail
  refine (ltold_nil _).mono ?_
  rintro e w' ⟨rfl, hw⟩
  rw [hw]
  clear hw w'
  have k9 : (k : Int) ≤ 8 := by omega
  go_wp2
  go_loopw [13, 14] (fun i _ wr => ∃ j : Nat, j ≤ k ∧ i = .int .i64 j ∧ w.grownBy wr none ∧ Hid (∀ s, s < k → PRow .i64 wr N (256 * s) (Rs s)) ∧ Hid (∀ s, s < k → PRow .i64 wr M (256 * s) (Rs s))) (fun i _ _ => k - (intOf i).toNat)
  case atStart => exact ⟨0, by omega, rfl, g7, R7, M7⟩
  case round =>
    clear g7 R7 M7
    obtain ⟨j, hj, rfl, hg, RN, RM⟩ := hrel
    by_cases hlt : j < k
    · have a1 : (j : Int) < (k : Int) := by omega
      have ix1 := fun W => ixRefs M k k j hlt W
      have ix2 := fun W => ixA N k k j hlt W
      have ld1 := run_hidLd wr.drew M (256 * j) _ (RM.out j hlt).drew
      have ld2 := run_hidLdA wr.drew N (256 * j) _ (RN.out j hlt).drew
      have HG : Hid (w.grownBy wr none) := hg
      clear hg
      go_wp2_with fail
      go_region_with (go_at_call 59; refine (is_same _ _ (fun _ _ => rfl) _).mono ?_; rintro e w8 ⟨rfl, y8⟩)
      all_goals
        have y8b : wr.drew.grownBy w8 none := y8
        have yy : wr.grownBy w8 none := grownBy_trans (grown_drew (World.grownBy.refl _ _)) y8b
        have g8 := grownBy_trans HG.out yy
        have RN8 : Hid (∀ s, s < k → PRow .i64 w8 N (256 * s) (Rs s)) := fun s hs => (RN.out s hs).new yy
        have RM8 : Hid (∀ s, s < k → PRow .i64 w8 M (256 * s) (Rs s)) := fun s hs => (RM.out s hs).new yy
        clear ld1 ld2 y8 y8b yy HG RN RM
        go_wp2
        go_roundw
        case rel => exact ⟨j + 1, by omega, by go_num, g8, RN8, RM8⟩
        case measure => simp [intOf]; omega
    · obtain rfl : j = k := by omega
      clear hlt hj RM
      go_wp2
      go_ret2
      exact ⟨N, rfl, lN, RN.out, hg⟩
end Go.Proofs.YtkijpphmiogbbaaGreatDoor.Z
