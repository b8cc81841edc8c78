import Derived.Test.YtkijpphmiogbbabL3
import Derived.Test.YtkijpphmiogbbabN1
import Derived.Laws.BitsAllLaws
import Derived.Laws.Strings
namespace Go.Proofs.Ytkijpphmiogbbab
open Go.RowKit
attribute [local go_sem ↓] Go.wp_at_zero Go.wp_at_succ
attribute [local go_sem] Try.zv24 Try.zv42

theorem hid_mkP {p : Prop} (h : p) : Hid p := h
/-- The bytes of a text as one number. -/
def txt (s : ByteArray) (j : Nat) : Nat := (s.data.toList.getD j 0).toNat
def numT (s : ByteArray) : Nat := num 256 (txt s) s.size
theorem txt_lt (s : ByteArray) (j : Nat) : txt s j < 256 := UInt8.toNat_lt _
theorem numT_byte (s : ByteArray) (j : Nat) (h : j < s.size) : numT s / 2 ^ (8 * j) % 2 ^ 8 = txt s j := by
  have := num_digit 256 (txt s) s.size j (fun i _ => txt_lt s i) h
  rw [Nat.pow_mul]
  exact this
theorem run_ixs (s : ByteArray) (x : Nat) (h : x < s.size) (W : World) : (Instr.index 9 (.string s) (.int .i64 (x : Int))).run Try.prog W = .ok (.int .u8 ((txt s x : Nat) : Int)) W := by
  rw [run_index_string W 9 s .i64 x (by kernel_rfl), dif_pos ⟨by omega, by omega⟩]
  congr 2
  unfold txt
  have h' : x < s.data.toList.length := by simpa using h
  rw [List.getD_eq_getElem?_getD, List.getElem?_eq_getElem h']
  simp [ByteArray.getElem_eq_getElem_data]
theorem or_add (h b n : Nat) (hh : h < 2 ^ n) (hb : b * 2 ^ n + h < 4294967296) : bits BinOp.or IntKind.u32 (h : Int) ((b : Int) * 2 ^ n % 4294967296) = ((h + b * 2 ^ n : Nat) : Int) := by
  have e : (b : Int) * 2 ^ n % 4294967296 = ((b * 2 ^ n : Nat) : Int) := by
    have : (b : Int) * 2 ^ n = ((b * 2 ^ n : Nat) : Int) := by simp
    rw [this]; omega
  rw [e, u32_or_nat h _ (by omega) (by omega)]
  congr 1
  rw [Nat.or_comm, Nat.mul_comm b, ← Nat.two_pow_add_eq_or_of_lt hh]
  omega
theorem and_maskP (x m : Nat) (hx : x < 4294967296) (hm : m ≤ 32) : bits BinOp.and IntKind.u32 (x : Int) (((2 : Int) ^ m - 1) % 4294967296) = ((x % 2 ^ m : Nat) : Int) := by
  have h1 : (2 : Nat) ^ m ≤ 2 ^ 32 := Nat.pow_le_pow_right (by omega) hm
  have h0 := Nat.two_pow_pos m
  have e : ((2 : Int) ^ m - 1) % 4294967296 = ((2 ^ m - 1 : Nat) : Int) := by
    have : (2 : Int) ^ m = ((2 ^ m : Nat) : Int) := by simp
    rw [this]; omega
  rw [e, u32_and_nat x _ hx (by omega), Nat.and_two_pow_sub_one_eq_mod]
/-- Coefficient i of the polynomial that a number T is. -/
def dig (T d i : Nat) : Int := ((T / 2 ^ (d * i) % 2 ^ d : Nat) : Int)

set_option maxHeartbeats 1000000 in
set_option maxRecDepth 20000 in
theorem unpack32_any (d : Nat) (s : ByteArray) (w : World) (hd0 : 1 ≤ d) (hd1 : d ≤ 23) (hs : s.size = 32 * d) :
    Calls Try.prog 18 #[.int .i64 d, .string s] w fun e w' => e = .returned (.agg (polyA .u32 (dig (numT s) d))) ∧ w.grownBy w' none := by
  have HX : Hid (∀ x W, x < 32 * d → (Instr.index 9 (.string s) (.int .i64 (x : Int))).run Try.prog W = .ok (.int .u8 ((txt s x : Nat) : Int)) W ∧ numT s / 2 ^ (8 * x) % 2 ^ 8 = txt s x) := fun x W h => ⟨run_ixs s x (by omega) W, numT_byte s x (by omega)⟩
  obtain ⟨T, hT⟩ : ∃ T, T = numT s := ⟨_, rfl⟩
  rw [← hT] at HX ⊢
  clear hs hT
  have n1 := new_alloc .u32 w (fun _ => 0) 42
  rw [← Try.zQ32] at n1
  have n2 := new_alloc .u32 (w.alloc (.cells Try.zeroCells42 42)) (fun _ => 0) 42
  rw [← Try.zQ32] at n2
  go_enter Try.func18, Try.ntmps18
  go_wp2
  generalize (w.alloc (.cells Try.zeroCells42 42)).alloc (.cells Try.zeroCells42 42) = w2 at *
  have hA : PRow .u32 w2 w.heap.size 0 (fun _ => 0) := n1.r.new n2.g
  have hR : PRow .u32 w2 (w.heap.size + 1) 0 (fun _ => 0) := by have := n2.r; rw [n1.s] at this; exact this
  have hg : w.grownBy w2 none := grownBy_trans n1.g n2.g
  clear n1 n2
  obtain ⟨B, hB⟩ : ∃ B, B = w.heap.size := ⟨_, rfl⟩
  rw [← hB] at hA hR ⊢
  have hB' : w.heap.size ≤ B := by omega
  clear hB
  go_loopw [6, 7, 8, 9, 10] (fun h n x _ i wr => ∃ (hh nn xx ii : Nat), ii ≤ 256 ∧ h = .int .u32 hh ∧ n = .int .i64 nn ∧ x = .int .i64 xx ∧ i = .int .i64 ii ∧ Hid (hh = win T (d * ii) (8 * xx) ∧ d * ii + nn = 8 * xx) ∧ nn < 8 ∧ w.grownBy wr none ∧ PRow .u32 wr B 0 (fun _ => 0) ∧ PRow .u32 wr (B + 1) 0 (fun j => if j < ii then dig T d j else 0)) (fun _ _ _ _ i _ => 256 - (intOf i).toNat)
  case atStart => exact ⟨0, 0, 0, 0, by omega, rfl, rfl, rfl, rfl, ⟨(win_none T 0).symm, rfl⟩, by omega, hg, hA, hR.ext (fun j _ => by simp)⟩
  case round =>
    clear hA hR hg
    obtain ⟨hh, nn, xx, ii, hi, rfl, rfl, rfl, rfl, HW, hn8, hg, hA, hR⟩ := hrel
    by_cases hlt : ii < 256
    · have b0 : (0 : Int) ≤ (ii : Int) := by omega
      have b1 : (ii : Int) < 256 := by omega
      go_wp2
      go_loopw [6, 7, 8] (fun h n x wv => ∃ (hv nv xv : Nat), h = .int .u32 hv ∧ n = .int .i64 nv ∧ x = .int .i64 xv ∧ Hid (hv = win T (d * ii) (8 * xv) ∧ d * ii + nv = 8 * xv) ∧ nv < d + 8 ∧ wv = wr) (fun _ n _ _ => d + 8 - (intOf n).toNat)
      case atStart => exact ⟨hh, nn, xx, rfl, rfl, rfl, HW, by omega, rfl⟩
      case round =>
        clear HW hn8
        obtain ⟨hv, nv, xv, rfl, rfl, rfl, HW, hnv, hwv⟩ := hrel
        subst hwv
        by_cases hlt2 : nv < d
        · have hx32 : xv < 32 * d := by
            have h1 := HW.out.2
            have h2 : d * ii + d ≤ 256 * d := by rw [Nat.mul_comm 256, ← Nat.mul_succ]; exact Nat.mul_le_mul_left _ hlt
            omega
          have ixs := fun W => (HX.out xv W hx32).1
          have HT := hid_mkP (HX.out xv wr hx32).2
          have hb8 := txt_lt s xv
          generalize txt s xv = b at *
          have c1 : (nv : Int) < (d : Int) := by omega
          go_wp2
          go_roundw
          case rel =>
            have hl := win_lt T (d * ii) (8 * xv) (by have := HW.out.2; omega)
            rw [← HW.out.1, show 8 * xv - d * ii = nv by have := HW.out.2; omega] at hl
            have h22 : (2 : Nat) ^ nv ≤ 2 ^ 22 := Nat.pow_le_pow_right (by omega) (by omega)
            have hbn : b * 2 ^ nv ≤ 255 * 2 ^ 22 := Nat.mul_le_mul (by omega) h22
            have e1 := or_add hv b nv hl (by omega)
            have e2 := win_add T (d * ii) (8 * xv) 8 (by have := HW.out.2; omega)
            rw [HT.out, ← HW.out.1, show 8 * xv - d * ii = nv by have := HW.out.2; omega] at e2
            exact ⟨hv + b * 2 ^ nv, nv + 8, xv + 1, by rw [e1], by go_num, by go_num, ⟨by rw [e2]; rfl, by have := HW.out.2; omega⟩, by omega, trivial⟩
          case measure => simp [intOf]; omega
        · have c1 : decide ((nv : Int) < (d : Int)) = false := by simp; omega
          have cc := (hR.at0 ii hlt).1
          have ff := (hR.at0 ii hlt).2
          have nd : (d : Int) ≤ (nv : Int) := by omega
          have HV : Hid (bits BinOp.and IntKind.u32 (hv : Int) (((2 : Int) ^ d - 1) % 4294967296) = dig T d ii) := by
            have hl := win_lt T (d * ii) (8 * xv) (by have := HW.out.2; omega)
            rw [← HW.out.1, show 8 * xv - d * ii = nv by have := HW.out.2; omega] at hl
            have h22 : (2 : Nat) ^ nv ≤ 2 ^ 30 := Nat.pow_le_pow_right (by omega) (by omega)
            show _ = _
            rw [and_maskP hv d (by omega) (by omega)]
            unfold dig
            rw [HW.out.1, win_low T (d * ii) (8 * xv) d (by have := HW.out.2; omega)]
          go_wp2
          refine ⟨⟨hv / 2 ^ d, nv - d, xv, ii + 1, by omega, by simp, ?_, rfl, by go_num, ⟨by rw [HW.out.1, win_shift, Nat.mul_succ], by have := HW.out.2; rw [Nat.mul_succ]; omega⟩, by omega, grown_setNew hg (by simp; omega) _, hA.set_other (by simp) _, ?_⟩, by simp [intOf]; omega⟩
          · congr 1; omega
          · rw [HV.out]; exact (hR.set0 hlt _).ext (fun j _ => mix_step _ _ ii j)
    · have hi6 : ii = 256 := by omega
      subst hi6
      have hR' : PRow .u32 wr (B + 1) 0 (dig T d) := hR.ext (fun j hj => by simp [hj])
      clear hR
      go_wp2_with (first | (refine wpL_load rfl .u32 42 _ rfl (B + 1) 0 rfl _ hR' Try.oQ32 Try.sQ32 ?_) | (refine wpL_store rfl .u32 42 _ _ rfl B 0 rfl _ rfl .u32 _ hA Try.sQ32 ?_; intro w4 p4))
      refine bodyPost_ret (res1 rfl .u32 _ w4 B _ rfl p4.r Try.oQ32 Try.sQ32) rfl ⟨rfl, grown_new hg p4.g (by omega)⟩
end Go.Proofs.Ytkijpphmiogbbab
