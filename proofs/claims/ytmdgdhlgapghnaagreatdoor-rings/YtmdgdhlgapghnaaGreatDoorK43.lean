import Derived.Test.YtmdgdhlgapghnaaGreatDoorK42
import Derived.Test.YtmdgdhlgapghnaaGreatDoorK26
namespace Go.Proofs.YtmdgdhlgapghnaaGreatDoor
open Go.RowKit
attribute [local go_sem ↓] Go.wp_at_zero Go.wp_at_succ

set_option maxHeartbeats 1000000 in
set_option maxRecDepth 20000 in
theorem modulo_none (q : Int) (u v : Nat) (l : Value) (w : World) (h1 : (q == 3329) = false) (h2 : (q == 8380417) = false) :
    Calls Tryz.prog 99 #[.int .i64 q, .func (.func u) #[] #[], .func (.func v) #[] #[], l] w fun e w' => e = .returned (.tuple #[.agg (polyA .i64 (fun _ => 0)), .iface 138 (.int .i64 1)]) ∧ w.grownBy w' none := by
  have t1 := fns_boxed w (.func (.func u) #[] #[]) (.func (.func v) #[] #[]) 225 226 71
  rw [← Tryz.z24] at t1
  obtain ⟨g1, c1, c2, z1⟩ := t1
  go_enter Tryz.func99, Tryz.ntmps99
  go_wp2_with (first | (refine wpL_store rfl .i64 71 _ _ rfl (w.heap.size + 1 + 1) 0 rfl (fun _ => 0) (by rw [← Tryz.z24]; rfl) .i64 _ z1 Tryz.sP ?_; intro w6 p6))
  refine bodyPost_ret (res2 rfl .i64 _ w6 (w.heap.size + 1 + 1) _ _ rfl rfl p6.r ⟨_, Tryz.uP⟩ Tryz.sP) rfl ⟨rfl, grown_new g1 p6.g (by omega)⟩
set_option maxHeartbeats 1000000 in
set_option maxRecDepth 20000 in
theorem forward_none (q : Int) (L : Nat → Int) (w : World) (h1 : (q == 3329) = false) (h2 : (q == 8380417) = false) :
    Calls Tryz.prog 50 #[.int .i64 q, .agg (polyA .i64 L)] w fun e w' => e = .returned (.tuple #[.agg (polyA .i64 (fun _ => 0)), .iface 138 (.int .i64 1)]) ∧ w.grownBy w' none := by
  have n1 := new_alloc .i64 w L 71
  have n2 := new_alloc .i64 (w.alloc (.cells (polyA .i64 L) 71)) (fun _ => 0) 71
  rw [← Tryz.z24] at n2
  have z2 := n2.r
  rw [n1.s] at z2
  go_enter Tryz.func50, Tryz.ntmps50
  go_wp2_with (first | (refine wpL_load rfl .i64 71 _ rfl w.heap.size 0 rfl _ (n1.r.new n2.g) ⟨_, Tryz.uP⟩ Tryz.sP ?_) | (refine wpL_bs1 rfl _ rfl L rfl ?_; intro w3 n3))
  refine (modulo_none q _ _ _ w3 h1 h2).mono ?_
  rintro e w5 ⟨rfl, g5⟩
  go_wp2_with (first | (refine wpL_store rfl .i64 71 _ _ rfl (w.heap.size + 1) 0 rfl _ rfl .i64 _ ((z2.new n3.g).new g5) Tryz.sP ?_; intro w6 p6))
  refine bodyPost_ret (res2 rfl .i64 _ w6 (w.heap.size + 1) _ _ rfl rfl p6.r ⟨_, Tryz.uP⟩ Tryz.sP) rfl ⟨rfl, grown_new (grownBy_trans (grownBy_trans n1.g (grownBy_trans n2.g n3.g)) g5) p6.g (by omega)⟩
set_option maxHeartbeats 1000000 in
set_option maxRecDepth 20000 in
theorem inverse_none (q : Int) (L : Nat → Int) (w : World) (h1 : (q == 3329) = false) (h2 : (q == 8380417) = false) :
    Calls Tryz.prog 51 #[.int .i64 q, .agg (polyA .i64 L)] w fun e w' => e = .returned (.tuple #[.agg (polyA .i64 (fun _ => 0)), .iface 138 (.int .i64 1)]) ∧ w.grownBy w' none := by
  have n1 := new_alloc .i64 w L 71
  have n2 := new_alloc .i64 (w.alloc (.cells (polyA .i64 L) 71)) (fun _ => 0) 71
  rw [← Tryz.z24] at n2
  have z2 := n2.r
  rw [n1.s] at z2
  go_enter Tryz.func51, Tryz.ntmps51
  go_wp2_with (first | (refine wpL_load rfl .i64 71 _ rfl w.heap.size 0 rfl _ (n1.r.new n2.g) ⟨_, Tryz.uP⟩ Tryz.sP ?_) | (refine wpL_bs1 rfl _ rfl L rfl ?_; intro w3 n3))
  refine (modulo_none q _ _ _ w3 h1 h2).mono ?_
  rintro e w5 ⟨rfl, g5⟩
  go_wp2_with (first | (refine wpL_store rfl .i64 71 _ _ rfl (w.heap.size + 1) 0 rfl _ rfl .i64 _ ((z2.new n3.g).new g5) Tryz.sP ?_; intro w6 p6))
  refine bodyPost_ret (res2 rfl .i64 _ w6 (w.heap.size + 1) _ _ rfl rfl p6.r ⟨_, Tryz.uP⟩ Tryz.sP) rfl ⟨rfl, grown_new (grownBy_trans (grownBy_trans n1.g (grownBy_trans n2.g n3.g)) g5) p6.g (by omega)⟩
set_option maxHeartbeats 1000000 in
set_option maxRecDepth 20000 in
theorem product_none (q : Int) (F G : Nat → Int) (w : World) (h1 : (q == 3329) = false) (h2 : (q == 8380417) = false) :
    Calls Tryz.prog 52 #[.int .i64 q, .agg (polyA .i64 F), .agg (polyA .i64 G)] w fun e w' => e = .returned (.tuple #[.agg (polyA .i64 (fun _ => 0)), .iface 138 (.int .i64 1)]) ∧ w.grownBy w' none := by
  have n1 := new_alloc .i64 w F 71
  have n2 := new_alloc .i64 (w.alloc (.cells (polyA .i64 F) 71)) G 71
  have n3 := new_alloc .i64 ((w.alloc (.cells (polyA .i64 F) 71)).alloc (.cells (polyA .i64 G) 71)) (fun _ => 0) 71
  rw [← Tryz.z24] at n3
  have f3 := (n1.r.new n2.g).new n3.g
  have h3 := n2.r.new n3.g
  rw [n1.s] at h3
  have z3 := n3.r
  rw [n2.s, n1.s] at z3
  have g3 := grownBy_trans n1.g (grownBy_trans n2.g n3.g)
  clear n1 n2 n3
  go_enter Tryz.func52, Tryz.ntmps52
  go_wp2_with (first | (refine wpL_load rfl .i64 71 _ rfl w.heap.size 0 rfl _ f3 ⟨_, Tryz.uP⟩ Tryz.sP ?_) | (refine wpL_load rfl .i64 71 _ rfl (w.heap.size + 1) 0 rfl _ h3 ⟨_, Tryz.uP⟩ Tryz.sP ?_) | (refine wpL_bs2 rfl _ _ rfl F G rfl rfl ?_; intro w4 g4 a4 b4))
  refine (modulo_none q _ _ _ w4 h1 h2).mono ?_
  rintro e w5 ⟨rfl, g5⟩
  go_wp2_with (first | (refine wpL_store rfl .i64 71 _ _ rfl (w.heap.size + 1 + 1) 0 rfl _ rfl .i64 _ ((z3.new g4).new g5) Tryz.sP ?_; intro w6 p6))
  refine bodyPost_ret (res2 rfl .i64 _ w6 (w.heap.size + 1 + 1) _ _ rfl rfl p6.r ⟨_, Tryz.uP⟩ Tryz.sP) rfl ⟨rfl, grown_new (grownBy_trans (grownBy_trans g3 g4) g5) p6.g (by omega)⟩
end Go.Proofs.YtmdgdhlgapghnaaGreatDoor

namespace Go.Proofs.YtmdgdhlgapghnaaGreatDoor
open Go.RowKit
attribute [local go_sem ↓] Go.wp_at_zero Go.wp_at_succ

set_option maxHeartbeats 400000 in
theorem packedBytes_any (d : Nat) (w : World) (hd1 : d ≤ 23) :
    Calls Tryz.prog 121 #[.int .i64 d] w fun e w' => e = .returned (.int .i64 (32 * (d : Int))) ∧ w' = w := by
  go_enter Tryz.func121, Tryz.ntmps121
  go_wp2
  go_ret
  exact ⟨rfl, rfl⟩

theorem dig_lt (T d i : Nat) (hd : d ≤ 23) : 0 ≤ dig T d i ∧ dig T d i < 4294967296 := by
  have h0 := Nat.mod_lt (T / 2 ^ (d * i)) (Nat.two_pow_pos d)
  have h23 : (2 : Nat) ^ d ≤ 2 ^ 23 := Nat.pow_le_pow_right (by omega) hd
  unfold dig
  omega
set_option maxHeartbeats 1000000 in
set_option maxRecDepth 20000 in
theorem unpack_any (d : Nat) (s : ByteArray) (w : World) (hd0 : 1 ≤ d) (hd1 : d ≤ 23) (hs : s.size = 32 * d) :
    Calls Tryz.prog 59 #[.int .i64 d, .string s] w fun e w' => e = .returned (.tuple #[.agg (polyA .i64 (dig (numT s) d)), .nilIface]) ∧ w.grownBy w' none := by
  have n1 := new_alloc .i64 w (fun _ => 0) 71
  rw [← Tryz.z24] at n1
  have d0 : decide ((d : Int) < 1) = false := by simp; omega
  have d1 : decide ((23 : Int) < (d : Int)) = false := by simp; omega
  have hne : ((s.size : Int) != 32 * (d : Int)) = false := by simp; omega
  go_enter Tryz.func59, Tryz.ntmps59
  go_wp2_with (first | (go_at_call 121; refine (packedBytes_any d _ hd1).mono ?_; rintro e w' ⟨rfl, rfl⟩) | (go_at_call 123; refine (unpack32_any d s _ hd0 hd1 hs).mono ?_; rintro e w5 ⟨rfl, g5⟩) | (go_at_call 122; refine (wide32_any _ _ (fun i _ => dig_lt _ d i hd1)).mono ?_; rintro e w6 ⟨rfl, g6⟩) | (refine wpL_store rfl .i64 71 _ _ rfl w.heap.size 0 rfl _ rfl .i64 _ ((n1.r.new g5).new g6) Tryz.sP ?_; intro w7 p7))
  refine bodyPost_ret (res2 rfl .i64 _ w7 w.heap.size _ _ rfl rfl p7.r ⟨_, Tryz.uP⟩ Tryz.sP) rfl ⟨rfl, grown_new (grownBy_trans (grownBy_trans n1.g g5) g6) p7.g (Nat.le_refl _)⟩
end Go.Proofs.YtmdgdhlgapghnaaGreatDoor

namespace Go.Proofs.YtmdgdhlgapghnaaGreatDoor
open Go.RowKit
attribute [local go_sem ↓] Go.wp_at_zero Go.wp_at_succ

theorem PRow.there256P {k : IntKind} {w : World} {b o : Nat} {L : Nat → Int} (h : PRow k w b o L) : w.there b o 256 := fun i hi => ⟨by rw [(h i hi).1]; rfl, (h i hi).2⟩
theorem polyL_oneP (k : IntKind) (L : Nat → Int) : ∀ v ∈ polyL k L, v.oneCell' = true := by
  intro v hv
  unfold polyL at hv
  simp at hv
  obtain ⟨i, _, rfl⟩ := hv
  rfl
theorem range_newP {W W' : World} {b o : Nat} {cs : List Value} (h : W.rangeAt b o cs) (hg : W.grownBy W' none) : W'.rangeAt b o cs := fun j v hv => hg.cell (h j v hv) (by simp)
/-- A load, and a store, of a whole polynomial, kept from being laid open by the walk. -/
def hidLd (p : Value) : Sem Value := Instr.loadAt 71 p
def hidSt (p v : Value) := Instr.storeAt 166 p v
theorem ld_hide (p : Value) : Instr.loadAt 71 p = hidLd p := rfl
theorem st_hide (p v : Value) : Instr.storeAt 166 p v = hidSt p v := rfl
theorem run_hidLd (W : World) (b : Nat) (L : Nat → Int) (hr : PRow .i64 W b 0 L) : (hidLd (.pointer (some ⟨b, 0, none⟩))).run Tryz.prog W = .ok (.agg (polyA .i64 L)) W := by
  unfold hidLd
  simp only [Instr.loadAt, Instr.sureAddr, Sem.run_bind, Sem.run_pure, Result.andThen_ok, run_loadRow .i64 W 71 b 0 L hr ⟨_, Tryz.uP⟩ Tryz.sP]
theorem run_hidSt (W : World) (b : Nat) (L M : Nat → Int) (hr : PRow .u32 W b 0 M) : (hidSt (.pointer (some ⟨b, 0, none⟩)) (.agg (polyA .u32 L))).run Tryz.prog W = .ok () (W.setCells b 0 (polyA .u32 L).toList) :=
  run_storeAt_mid W b 0 166 (polyA .u32 L) (hr.there .u32 L) (by rw [polyA_size]; exact Tryz.sQ32) (polyA_one .u32 L)
attribute [local go_sem ↓] ld_hide st_hide
set_option maxHeartbeats 1000000 in
set_option maxRecDepth 20000 in
theorem pack_any (a : Nat → Nat) (d : Nat) (w : World) (hd0 : 1 ≤ d) (hd1 : d ≤ 23) (ha : ∀ i, i < 256 → a i < 2 ^ d) :
    Calls Tryz.prog 57 #[.int .i64 d, .agg (polyA .i64 (fun i => (a i : Int)))] w fun e w' => e = .returned (.tuple #[.string (strOf (bytesL (num (2 ^ d) a 256) (32 * d))), .nilIface]) ∧ w.grownBy w' none := by
  have n1 := new_alloc .i64 w (fun i => (a i : Int)) 71
  have d0 : decide ((d : Int) < 1) = false := by simp; omega
  have d1 : decide ((23 : Int) < (d : Int)) = false := by simp; omega
  have hX : IntKind.i64.wrap (2 ^ d) = ((2 ^ d : Nat) : Int) := by
    have hp : (2 : Nat) ^ d ≤ 2 ^ 23 := Nat.pow_le_pow_right (n := 2) (by omega) hd1
    have e : (2 : Int) ^ d = ((2 ^ d : Nat) : Int) := by simp
    rw [e]; generalize (2 : Nat) ^ d = q at *
    rw [IntKind.wrap_i64] <;> omega
  have hlo : ∀ i, i < 256 → (0 : Int) ≤ (a i : Int) ∧ (a i : Int) < IntKind.i64.wrap (2 ^ d) := fun i hi => ⟨Int.natCast_nonneg _, by rw [hX]; exact Int.ofNat_lt.2 (ha i hi)⟩
  have hle : IntKind.i64.wrap (2 ^ d) ≤ 4294967296 := by
    have hp : (2 : Nat) ^ d ≤ 2 ^ 23 := Nat.pow_le_pow_right (n := 2) (by omega) hd1
    rw [hX]; omega
  have HC := hid_mkP (fun W => narrow32_ok (fun i => (a i : Int)) (IntKind.i64.wrap (2 ^ d)) W hlo hle)
  have HP := hid_mkP (fun W => pack32_any a d W hd0 hd1 ha)
  clear hX hlo hle ha
  go_enter Tryz.func57, Tryz.ntmps57
  go_wp2_with fail
  generalize w.alloc (.cells (polyA .i64 (fun i => (a i : Int))) 71) = w1 at *
  have n2 := new_alloc .u32 w1 (fun _ => 0) 166
  rw [← Tryz.zQ32] at n2
  have s1 := n1.s
  have r2 := n2.r.drew
  rw [s1] at r2
  have L1 := run_hidLd w1.drew w.heap.size _ n1.r.drew
  have L2 := run_hidLd (w1.alloc (.cells Tryz.zeroCells166 166)).drew w.heap.size _ (n1.r.new n2.g).drew
  go_region_with (first | (go_at_call 119; refine (HC.out _).mono ?_; rintro e w5 ⟨rfl, g5⟩; have n5 := new_alloc .u32 w5 (fun _ => 0) 166; rw [← Tryz.zQ32] at n5; have stA := run_hidSt (w5.alloc (.cells Tryz.zeroCells166 166)) w5.heap.size (fun i => (a i : Int)) _ n5.r; try (have g5b : (w1.alloc (.cells Tryz.zeroCells166 166)).drew.grownBy w5 none := (by with_reducible assumption); have stB := run_hidSt w5 (w.heap.size + 1) (fun i => (a i : Int)) _ (r2.new g5b))))
  all_goals first
    | ( have e6 := stB
        have p6 := put_cells .u32 w5 (w.heap.size + 1) 0 (fun i => (a i : Int)) ((r2.new g5b).there .u32 _)
        have g6 := grown_new (grownBy_trans n1.g (grownBy_trans (grown_drew n2.g) g5b)) p6.g (Nat.le_succ _)
        generalize w5.setCells (w.heap.size + 1) 0 (polyA .u32 (fun i => (a i : Int))).toList = w6 at *
        clear e6 stB
        clear L1 L2 stA
        go_wp2_with (first | (refine wpL_load rfl .u32 166 _ rfl (w.heap.size + 1) 0 rfl _ p6.r Tryz.oQ32 Tryz.sQ32 ?_) | (go_at_call 120; refine (HP.out _).mono ?_; rintro e w7 ⟨v, rfl, hO, g7⟩; have hcv := conv_own w7 _ v (32 * d) (by omega) _ hO))
        go_ret2
        exact ⟨rfl, grownBy_trans g6 g7⟩)
    | ( have p6 := put_cells .u32 (w5.alloc (.cells Tryz.zeroCells166 166)) w5.heap.size 0 (fun i => (a i : Int)) (n5.r.there .u32 _)
        have g6 := grown_new (grownBy_trans n1.g (grownBy_trans (grown_drew (World.grownBy.refl _ _)) (grownBy_trans g5 n5.g))) p6.g (Nat.le_trans n1.g.size g5.size)
        generalize (w5.alloc (.cells Tryz.zeroCells166 166)).setCells w5.heap.size 0 (polyA .u32 (fun i => (a i : Int))).toList = w6 at *
        clear L1 L2 stA
        go_wp2_with (first | (refine wpL_load rfl .u32 166 _ rfl w5.heap.size 0 rfl _ p6.r Tryz.oQ32 Tryz.sQ32 ?_) | (go_at_call 120; refine (HP.out _).mono ?_; rintro e w7 ⟨v, rfl, hO, g7⟩; have hcv := conv_own w7 _ v (32 * d) (by omega) _ hO))
        go_ret2
        exact ⟨rfl, grownBy_trans g6 g7⟩)
end Go.Proofs.YtmdgdhlgapghnaaGreatDoor
