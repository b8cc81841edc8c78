import Derived.Test.YtkijpphmiogbbaaGreatDoorK42
import Derived.Test.YtkijpphmiogbbaaGreatDoorK30
import Derived.Test.YtkijpphmiogbbaaGreatDoorK33
import Derived.Test.YtkijpphmiogbbaaGreatDoorK34
import Derived.WalkKit
import Derived.RegionTactic
namespace Go.Proofs.YtkijpphmiogbbaaGreatDoor
open Go.RowKit
attribute [local go_sem ↓] Go.wp_at_zero Go.wp_at_succ
set_option maxHeartbeats 1000000 in
set_option maxRecDepth 20000 in
/-- A text of another length. -/
theorem unpack_len (s : ByteArray) (d : Nat) (w : World) (hd0 : 1 ≤ d) (hd1 : d ≤ 23) (hs : ¬ s.size = 32 * d) (_hs2 : s.size ≤ 1000000) :
    Calls Tryz.prog 62 #[.int .i64 d, .string s] w fun e w' => e = .returned (.tuple #[.agg (polyA .i64 (fun _ => 0)), .iface 138 (.int .i64 2)]) ∧ w.grownBy w' none := by
  have n1 := new_alloc .i64 w (fun _ => 0) 71
  rw [← Tryz.z24] at n1
  have g1 := n1.g
  have r1 := n1.r
  have d0 : decide ((d : Int) < 1) = false := by simp; omega
  have d1 : decide ((23 : Int) < (d : Int)) = false := by simp; omega
  have HP := hid_mkP (fun W => packedBytes_any d W hd1)
  have e1 : ((s.size : Int) != 32 * (d : Int)) = true := by simp; omega
  go_enter Tryz.func62, Tryz.ntmps62
  go_wp2_with (first | (go_at_call 124; refine (HP.out _).mono ?_; rintro e w5 ⟨rfl, rfl⟩) | (refine wpL_store rfl .i64 71 _ _ rfl w.heap.size 0 rfl (fun _ => 0) (by rw [← Tryz.z24]; rfl) .i64 _ r1 Tryz.sP ?_; intro w6 p6))
  refine bodyPost_ret (res2 rfl .i64 _ w6 w.heap.size _ _ rfl rfl p6.r ⟨_, Tryz.uP⟩ Tryz.sP) rfl ⟨rfl, grown_new g1 p6.g (Nat.le_refl _)⟩
attribute [local go_sem ↓] ld_hide st_hide
set_option maxHeartbeats 1000000 in
set_option maxRecDepth 20000 in
theorem pack_bad (L : Nat → Int) (d : Nat) (w : World) (hd0 : 1 ≤ d) (hd1 : d ≤ 23) (k0 : Nat) (hk0 : k0 < 256) (hL : ∀ i, i < k0 → 0 ≤ L i ∧ L i < 2 ^ d) (hbad : L k0 < 0 ∨ 2 ^ d ≤ L k0) :
    Calls Tryz.prog 60 #[.int .i64 d, .agg (polyA .i64 L)] w fun e w' => e = .returned (.tuple #[.string ByteArray.empty, .iface 138 (.int .i64 5)]) ∧ w.grownBy w' none := by
  have n1 := new_alloc .i64 w L 71
  have d0 : decide ((d : Int) < 1) = false := by simp; omega
  have d1 : decide ((23 : Int) < (d : Int)) = false := by simp; omega
  have hX : IntKind.i64.wrap (2 ^ d) = ((2 ^ d : Nat) : Int) := by
    have hp : (2 : Nat) ^ d ≤ 2 ^ 23 := Nat.pow_le_pow_right (n := 2) (by omega) hd1
    have e : (2 : Int) ^ d = ((2 ^ d : Nat) : Int) := by simp
    rw [e]; generalize (2 : Nat) ^ d = q at *
    rw [IntKind.wrap_i64] <;> omega
  have hX2 : IntKind.i64.wrap (2 ^ d) = (2 : Int) ^ d := by rw [hX]; simp
  have hle : IntKind.i64.wrap (2 ^ d) ≤ 4294967296 := by
    have hp : (2 : Nat) ^ d ≤ 2 ^ 23 := Nat.pow_le_pow_right (n := 2) (by omega) hd1
    rw [hX]; omega
  have HC := hid_mkP (fun W => narrow32_bad L (IntKind.i64.wrap (2 ^ d)) W k0 hk0 (fun i hi => by rw [hX2]; exact hL i hi) (by rw [hX2]; exact hbad) hle)
  clear hX hX2 hle hL hbad
  go_enter Tryz.func60, Tryz.ntmps60
  go_wp2_with fail
  generalize w.alloc (.cells (polyA .i64 L) 71) = w1 at *
  have n2 := new_alloc .u32 w1 (fun _ => 0) 166
  rw [← Tryz.zQ32] at n2
  have s1 := n1.s
  have r2 := n2.r.drew
  rw [s1] at r2
  have L1 := run_hidLd w1.drew w.heap.size _ n1.r.drew
  have L2 := run_hidLd (w1.alloc (.cells Tryz.zeroCells166 166)).drew w.heap.size _ (n1.r.new n2.g).drew
  go_region_with (first | (go_at_call 122; refine (HC.out _).mono ?_; rintro e w5 ⟨rfl, g5⟩; have n5 := new_alloc .u32 w5 (fun _ => 0) 166; rw [← Tryz.zQ32] at n5; have stA := run_hidSt (w5.alloc (.cells Tryz.zeroCells166 166)) w5.heap.size (fun _ => (0 : Int)) _ n5.r; try (have g5b : (w1.alloc (.cells Tryz.zeroCells166 166)).drew.grownBy w5 none := (by with_reducible assumption); have stB := run_hidSt w5 (w.heap.size + 1) (fun _ => (0 : Int)) _ (r2.new g5b))))
  all_goals first
    | ( have e6 := stB
        have p6 := put_cells .u32 w5 (w.heap.size + 1) 0 (fun _ => (0 : Int)) ((r2.new g5b).there .u32 _)
        have g6 := grown_new (grownBy_trans n1.g (grownBy_trans (grown_drew n2.g) g5b)) p6.g (Nat.le_succ _)
        generalize w5.setCells (w.heap.size + 1) 0 (polyA .u32 (fun _ => (0 : Int))).toList = w6 at *
        clear e6 stB
        clear L1 L2 stA
        go_wp2
        go_ret2
        exact ⟨rfl, g6⟩)
    | ( have p6 := put_cells .u32 (w5.alloc (.cells Tryz.zeroCells166 166)) w5.heap.size 0 (fun _ => (0 : Int)) (n5.r.there .u32 _)
        have g6 := grown_new (grownBy_trans n1.g (grownBy_trans (grown_drew (World.grownBy.refl _ _)) (grownBy_trans g5 n5.g))) p6.g (Nat.le_trans n1.g.size g5.size)
        generalize (w5.alloc (.cells Tryz.zeroCells166 166)).setCells w5.heap.size 0 (polyA .u32 (fun _ => (0 : Int))).toList = w6 at *
        clear L1 L2 stA
        go_wp2
        go_ret2
        exact ⟨rfl, g6⟩)
end Go.Proofs.YtkijpphmiogbbaaGreatDoor

namespace Go.Proofs.YtkijpphmiogbbaaGreatDoor.Z
open Go.RowKit

theorem packed_law (d : Int) (L : Nat → Int) (w : World) (hE : Et w) : ∃ t : ByteArray, t.size ≤ 20000 ∧ Calls Tryz.prog 29 #[.int .i64 d, .agg (polyA .i64 L)] w fun e w' => e = .returned (.tuple #[.string t, .bool true]) ∧ w.grownBy w' none := by
  by_cases e1 : d < 1
  · exact ⟨ByteArray.empty, by decide, pk_low d L e1 (fun W => pack_low L d W e1) w hE⟩
  · by_cases e2 : 23 < d
    · exact ⟨ByteArray.empty, by decide, pk_high d L e2 (fun W => pack_high L d W e2) w hE⟩
    · obtain ⟨n, rfl⟩ : ∃ n : Nat, d = (n : Int) := ⟨d.toNat, by omega⟩
      have n1 : 1 ≤ n := by omega
      have n2 : n ≤ 23 := by omega
      by_cases hL : InB L (2 ^ n)
      · have hlt : ∀ i, i < 256 → (L i).toNat < 2 ^ n := fun i hi => by
          have h := hL i hi
          have e : (2 : Int) ^ n = ((2 ^ n : Nat) : Int) := by rw [Int.natCast_pow]; rfl
          rw [e] at h
          generalize (2 : Nat) ^ n = x at *
          omega
        have h32 : ∀ i, i < 256 → (L i).toNat < 4294967296 := fun i hi => by
          have h := hL i hi
          have p := pow_le23 n n2
          omega
        refine ⟨encT (fun i => (L i).toNat) n, ?_, pk_k n L (encT (fun i => (L i).toNat) n) n1 n2 hL (fun W => ?_) (fun W => ?_) w⟩
        · rw [encT_is _ n n1 hlt, strOf_size, Go.Proofs.YtkijpphmiogbbaaGreatDoor.bytesL_len]
          omega
        · rw [nat_of hL, encT_is _ n n1 hlt]
          exact pack_any (fun i => (L i).toNat) n W n1 n2 hlt
        · rw [nat_of hL]
          exact renc_any n n1 (by omega) (fun i => (L i).toNat) h32 W
      · obtain ⟨k0, hk0, hlo, hb⟩ := bad_of hL
        exact ⟨ByteArray.empty, by decide, pk_bad n L n1 n2 hL (fun W => pack_bad L n W n1 n2 k0 hk0 hlo hb) w hE⟩
theorem unpacked_law (d : Int) (s : ByteArray) (hs : s.size ≤ 20000) (w : World) (hE : Et w) : ∃ H : Nat → Int, (∀ j, j < 256 → InI (H j)) ∧ Calls Tryz.prog 30 #[.int .i64 d, .string s] w fun e w' => e = .returned (.tuple #[.agg (polyA .i64 H), .bool true]) ∧ w.grownBy w' none := by
  by_cases e1 : d < 1
  · exact ⟨fun _ => 0, fun _ _ => ini_zero, un_low d s e1 (fun W => unpack_low s d W e1) w hE⟩
  · by_cases e2 : 23 < d
    · exact ⟨fun _ => 0, fun _ _ => ini_zero, un_high d s e2 (fun W => unpack_high s d W e2) w hE⟩
    · obtain ⟨n, rfl⟩ : ∃ n : Nat, d = (n : Int) := ⟨d.toNat, by omega⟩
      have n1 : 1 ≤ n := by omega
      have n2 : n ≤ 23 := by omega
      by_cases hl : s.size = 32 * n
      · refine ⟨fun i => (unp s n i n : Int), fun j _ => ?_, un_k n s (dig (numT s) n) (fun i => (unp s n i n : Int)) (fun j hj => ?_) n1 n2 hl (fun W => unpack_any n s W n1 n2 hl) (fun W => runp_any n (by omega) s hl W) w⟩
        · show InI ((unp s n j n : Nat) : Int)
          have h1 := unp_lt s n j n
          have h2 : (2 : Nat) ^ n ≤ 2 ^ 23 := Nat.pow_le_pow_right (by omega) n2
          unfold InI
          generalize (2 : Nat) ^ n = x at *
          omega
        · show dig (numT s) n j = _
          rw [unp_num s n j hl hj]
          rfl
      · exact ⟨fun _ => 0, fun _ _ => ini_zero, un_len n s n1 n2 hl (by omega) (fun W => unpack_len s n W n1 n2 hl (by omega)) w hE⟩
end Go.Proofs.YtkijpphmiogbbaaGreatDoor.Z

namespace Go.Proofs.YtkijpphmiogbbaaGreatDoor

theorem ready_mem {md : Region.Mode} {ops : Array Oper} {l : Array Bool} {i : Nat} (h : i ∈ Region.ready md ops l) :
    i < ops.size ∧ l.getD i true = false ∧ ((ops[i]?).map (·.after.all fun e => !Region.binds md e || l.getD e.on false)).getD false = true := by
  unfold Region.ready at h
  rw [List.mem_filter, List.mem_range] at h
  obtain ⟨h1, h2⟩ := h
  rw [Bool.and_eq_true] at h2
  exact ⟨h1, by simpa using h2.1, h2.2⟩
theorem ready_none {md : Region.Mode} {ops : Array Oper} {l : Array Bool} (h : l.toList.count false = 0) (hs : l.size = ops.size) : Region.ready md ops l = [] := by
  unfold Region.ready
  rw [List.filter_eq_nil_iff]
  intro i hi
  rw [List.mem_range] at hi
  have hb : l.getD i true = true := by
    have hl : i < l.size := by omega
    rw [Array.getD_eq_getD_getElem?, Array.getElem?_eq_getElem hl]
    simp only [Option.getD_some]
    have := List.count_eq_zero.1 h
    cases hx : l[i] with
    | true => rfl
    | false => exact absurd (by rw [← hx]; exact Array.getElem_mem_toList hl) this
  simp [hb]
theorem count_listed {l : Array Bool} {i : Nat} (hi : i < l.size) (hf : l.getD i true = false) : (l.setIfInBounds i true).toList.count false + 1 = l.toList.count false := by
  have hx : l[i] = false := by
    rw [Array.getD_eq_getD_getElem?, Array.getElem?_eq_getElem hi] at hf
    simpa using hf
  have hm : false ∈ l.toList := by rw [← hx]; exact Array.getElem_mem_toList hi
  have hp := List.count_pos_iff.2 hm
  rw [Array.toList_setIfInBounds, List.count_set (by simpa using hi)]
  simp only [Array.getElem_toList, hx]
  simp only [BEq.rfl, if_true, Bool.true_beq, Bool.false_eq_true, if_false]
  omega
/-- Operation i waits for operation j. -/
def edgeB (md : Region.Mode) (ops : Array Oper) (i j : Nat) : Bool := ((ops[i]?).map (·.after.any fun e => Region.binds md e && e.on == j)).getD false
theorem ready_dep {md : Region.Mode} {ops : Array Oper} {l : Array Bool} {i : Nat} (h : i ∈ Region.ready md ops l) (j : Nat) (he : edgeB md ops i j = true) : l.getD j false = true := by
  have hr := (ready_mem h).2.2
  unfold edgeB at he
  cases ho : ops[i]? with
  | none => rw [ho] at hr; simp at hr
  | some o =>
    rw [ho] at hr he
    simp only [Option.map_some, Option.getD_some, Array.any_eq_true', Array.all_eq_true', Bool.and_eq_true, beq_iff_eq] at hr he
    obtain ⟨e, hm, hb, rfl⟩ := he
    have := hr e hm
    simpa [hb] using this
/-- Every operation waits only for those ahead of it. -/
def lowB (md : Region.Mode) (ops : Array Oper) : Bool := (List.range ops.size).all fun i => ((ops[i]?).map (·.after.all fun e => !Region.binds md e || decide (e.on < i))).getD false
theorem ready_all {md : Region.Mode} {ops : Array Oper} {l : Array Bool} (h : Region.ready md ops l = []) (hl : lowB md ops = true) (hs : l.size = ops.size) : ∀ k, k < ops.size → l.getD k false = true := by
  intro k
  induction k using Nat.strongRecOn with
  | ind k ih =>
    intro hk
    unfold lowB at hl
    rw [List.all_eq_true] at hl
    have h1 := hl k (List.mem_range.2 hk)
    unfold Region.ready at h
    rw [List.filter_eq_nil_iff] at h
    have h2 := h k (List.mem_range.2 hk)
    have hkl : k < l.size := by omega
    cases ho : ops[k]? with
    | none => rw [ho] at h1; simp at h1
    | some o =>
      rw [ho] at h1 h2
      simp only [Option.map_some, Option.getD_some, Array.all_eq_true', Bool.or_eq_true, Bool.not_eq_true', decide_eq_true_eq, Bool.and_eq_true, not_and] at h1 h2
      have h3 : ∀ e ∈ o.after, Region.binds md e = false ∨ l.getD e.on false = true := fun e he => by
        rcases h1 e he with h4 | h4
        · exact Or.inl h4
        · exact Or.inr (ih e.on h4 (by omega))
      have h4 : ¬ l.getD k true = false := fun h5 => h2 h5 h3
      have h5 : l.getD k true = l.getD k false := by
        rw [Array.getD_eq_getD_getElem?, Array.getD_eq_getD_getElem?, Array.getElem?_eq_getElem hkl]
        rfl
      rw [← h5]
      simpa using h4
/-- A REGION THAT DRAWS, BY WHAT HOLDS AT EVERY POINT OF IT: each operation that may come up hands it on. -/
theorem wpAny_inv {P : Program} {md : Region.Mode} {ops : Array Oper} {Q : Exit → Act → World → Prop} (I : Array Bool → Act → World → Prop)
    (hs : ∀ l a w, I l a w → ∀ i, i ∈ Region.ready md ops l → wpOp P ops Q i (I (l.setIfInBounds i true)) a w)
    (he : ∀ l a w, I l a w → Region.ready md ops l = [] → Q .normal a w) :
    ∀ fuel l a w, l.toList.count false ≤ fuel → l.size = ops.size → I l a w → wpAny P md ops Q fuel l a w
  | 0, l, a, w, hc, hz, h => ⟨ready_none (by omega) hz, he l a w h (ready_none (by omega) hz)⟩
  | fuel + 1, l, a, w, hc, hz, h => ⟨he l a w h, fun i hi => wpOp_mono (fun a' w' h' => wpAny_inv I hs he fuel _ a' w' (by
      have hr := ready_mem hi
      have := count_listed (by omega) hr.2.1
      omega) (by simpa using hz) h') (hs l a w h i hi)⟩
theorem wp_region_inv {P : Program} {ops : Array Oper} {Q : Exit → Act → World → Prop} {id : Nat} {a : Act} {w : World} (I : Array Bool → Act → World → Prop) (hm : P.follows .mixedOrders = true)
    (h0 : I (Array.replicate ops.size false) a w.drew)
    (hs : ∀ l a w, I l a w → ∀ i, i ∈ Region.ready .any ops l → wpOp P ops Q i (I (l.setIfInBounds i true)) a w)
    (he : ∀ l a w, I l a w → Region.ready .any ops l = [] → Q .normal a w) : (Code.region id ops true).wp P Q a w :=
  wp_region_any hm (wpAny_inv I hs he _ _ _ _ (by simp) (by simp) h0)
end Go.Proofs.YtkijpphmiogbbaaGreatDoor
