import Derived.Test.YtkijpphmiogbbabPc
namespace Go.Proofs.Ytkijpphmiogbbab
open Go.RowKit
attribute [local go_sem ↓] Go.wp_at_zero Go.wp_at_succ
attribute [local go_sem] Try.zv24 Try.zv42

theorem PRow.there256P {k : IntKind} {w : World} {b o : Nat} {L : Nat → Int} (h : PRow k w b o L) : w.there b o 256 := fun i hi => ⟨by rw [(h i hi).1]; rfl, (h i hi).2⟩
theorem polyL_oneP (k : IntKind) (L : Nat → Int) : ∀ v ∈ polyL k L, v.oneCell' = true := by
  intro v hv
  unfold polyL at hv
  simp at hv
  obtain ⟨i, _, rfl⟩ := hv
  rfl
theorem range_newP {W W' : World} {b o : Nat} {cs : List Value} (h : W.rangeAt b o cs) (hg : W.grownBy W' none) : W'.rangeAt b o cs := fun j v hv => hg.cell (h j v hv) (by simp)
/-- A load, and a store, of a whole polynomial, kept from being laid open by the walk. -/
def hidLd (p : Value) : Sem Value := Instr.loadAt 24 p
def hidSt (p v : Value) := Instr.storeAt 42 p v
theorem ld_hide (p : Value) : Instr.loadAt 24 p = hidLd p := rfl
theorem st_hide (p v : Value) : Instr.storeAt 42 p v = hidSt p v := rfl
theorem run_hidLd (W : World) (b : Nat) (L : Nat → Int) (hr : PRow .i64 W b 0 L) : (hidLd (.pointer (some ⟨b, 0, none⟩))).run Try.prog W = .ok (.agg (polyA .i64 L)) W := by
  unfold hidLd
  simp only [Instr.loadAt, Instr.sureAddr, Sem.run_bind, Sem.run_pure, Result.andThen_ok, run_loadRow .i64 W 24 b 0 L hr ⟨_, Try.uP⟩ Try.sP]
theorem run_hidSt (W : World) (b : Nat) (L M : Nat → Int) (hr : PRow .u32 W b 0 M) : (hidSt (.pointer (some ⟨b, 0, none⟩)) (.agg (polyA .u32 L))).run Try.prog W = .ok () (W.setCells b 0 (polyA .u32 L).toList) :=
  run_storeAt_mid W b 0 42 (polyA .u32 L) (hr.there .u32 L) (by rw [polyA_size]; exact Try.sQ32) (polyA_one .u32 L)
attribute [local go_sem ↓] ld_hide st_hide
set_option maxHeartbeats 1000000 in
set_option maxRecDepth 20000 in
theorem pack_any (a : Nat → Nat) (d : Nat) (w : World) (hd0 : 1 ≤ d) (hd1 : d ≤ 23) (ha : ∀ i, i < 256 → a i < 2 ^ d) :
    Calls Try.prog 7 #[.int .i64 d, .agg (polyA .i64 (fun i => (a i : Int)))] w fun e w' => e = .returned (.tuple #[.string (strOf (bytesL (num (2 ^ d) a 256) (32 * d))), .nilIface]) ∧ w.grownBy w' none := by
  have n1 := new_alloc .i64 w (fun i => (a i : Int)) 24
  have d0 : decide ((d : Int) < 1) = false := by simp; omega
  have d1 : decide ((23 : Int) < (d : Int)) = false := by simp; omega
  have hX : IntKind.i64.wrap (2 ^ d) = ((2 ^ d : Nat) : Int) := by
    have hp : (2 : Nat) ^ d ≤ 2 ^ 23 := Nat.pow_le_pow_right (n := 2) (by omega) hd1
    have e : (2 : Int) ^ d = ((2 ^ d : Nat) : Int) := by simp
    rw [e]; generalize (2 : Nat) ^ d = q at *
    rw [IntKind.wrap_i64] <;> omega
  have hlo : ∀ i, i < 256 → (0 : Int) ≤ (a i : Int) ∧ (a i : Int) < IntKind.i64.wrap (2 ^ d) := fun i hi => ⟨Int.natCast_nonneg _, by rw [hX]; exact Int.ofNat_lt.2 (ha i hi)⟩
  have hle : IntKind.i64.wrap (2 ^ d) ≤ 4294967296 := by
    have hp : (2 : Nat) ^ d ≤ 2 ^ 23 := Nat.pow_le_pow_right (n := 2) (by omega) hd1
    rw [hX]; omega
  have HC := hid_mkP (fun W => narrow32_ok (fun i => (a i : Int)) (IntKind.i64.wrap (2 ^ d)) W hlo hle)
  have HP := hid_mkP (fun W => pack32_any a d W hd0 hd1 ha)
  clear hX hlo hle ha
  go_enter Try.func7, Try.ntmps7
  go_wp2_with fail
  generalize w.alloc (.cells (polyA .i64 (fun i => (a i : Int))) 24) = w1 at *
  have n2 := new_alloc .u32 w1 (fun _ => 0) 42
  rw [← Try.zQ32] at n2
  have s1 := n1.s
  have r2 := n2.r.drew
  rw [s1] at r2
  have L1 := run_hidLd w1.drew w.heap.size _ n1.r.drew
  have L2 := run_hidLd (w1.alloc (.cells Try.zeroCells42 42)).drew w.heap.size _ (n1.r.new n2.g).drew
  go_region_with (first | (go_at_call 14; refine (HC.out _).mono ?_; rintro e w5 ⟨rfl, g5⟩; have n5 := new_alloc .u32 w5 (fun _ => 0) 42; rw [← Try.zQ32] at n5; have stA := run_hidSt (w5.alloc (.cells Try.zeroCells42 42)) w5.heap.size (fun i => (a i : Int)) _ n5.r; try (have g5b : (w1.alloc (.cells Try.zeroCells42 42)).drew.grownBy w5 none := (by with_reducible assumption); have stB := run_hidSt w5 (w.heap.size + 1) (fun i => (a i : Int)) _ (r2.new g5b))))
  all_goals first
    | ( have e6 := stB
        have p6 := put_cells .u32 w5 (w.heap.size + 1) 0 (fun i => (a i : Int)) ((r2.new g5b).there .u32 _)
        have g6 := grown_new (grownBy_trans n1.g (grownBy_trans (grown_drew n2.g) g5b)) p6.g (Nat.le_succ _)
        generalize w5.setCells (w.heap.size + 1) 0 (polyA .u32 (fun i => (a i : Int))).toList = w6 at *
        clear e6 stB
        clear L1 L2 stA
        go_wp2_with (first | (refine wpL_load rfl .u32 42 _ rfl (w.heap.size + 1) 0 rfl _ p6.r Try.oQ32 Try.sQ32 ?_) | (go_at_call 15; refine (HP.out _).mono ?_; rintro e w7 ⟨v, rfl, hO, g7⟩; have hcv := conv_own w7 _ v (32 * d) (by omega) _ hO))
        go_ret2
        exact ⟨rfl, grownBy_trans g6 g7⟩)
    | ( have p6 := put_cells .u32 (w5.alloc (.cells Try.zeroCells42 42)) w5.heap.size 0 (fun i => (a i : Int)) (n5.r.there .u32 _)
        have g6 := grown_new (grownBy_trans n1.g (grownBy_trans (grown_drew (World.grownBy.refl _ _)) (grownBy_trans g5 n5.g))) p6.g (Nat.le_trans n1.g.size g5.size)
        generalize (w5.alloc (.cells Try.zeroCells42 42)).setCells w5.heap.size 0 (polyA .u32 (fun i => (a i : Int))).toList = w6 at *
        clear L1 L2 stA
        go_wp2_with (first | (refine wpL_load rfl .u32 42 _ rfl w5.heap.size 0 rfl _ p6.r Try.oQ32 Try.sQ32 ?_) | (go_at_call 15; refine (HP.out _).mono ?_; rintro e w7 ⟨v, rfl, hO, g7⟩; have hcv := conv_own w7 _ v (32 * d) (by omega) _ hO))
        go_ret2
        exact ⟨rfl, grownBy_trans g6 g7⟩)
end Go.Proofs.Ytkijpphmiogbbab
