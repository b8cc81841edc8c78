import Derived.Test.YtkijpphmiogbbabPa
import Derived.Laws.BytesString
import Derived.Laws.MakeOwn
import Derived.Laws.OwnMore
import Derived.OwnWalk
namespace Go.Proofs.Ytkijpphmiogbbab
open Go.RowKit
attribute [local go_sem ↓] Go.wp_at_zero Go.wp_at_succ
attribute [local go_sem] Try.zv24 Try.zv42

/-- The first m bytes of a number. -/
def bytesL (S m : Nat) : List Int := (List.range m).map fun j => ((S / 2 ^ (8 * j) % 2 ^ 8 : Nat) : Int)
theorem bytesL_len (S m : Nat) : (bytesL S m).length = m := by simp [bytesL]
theorem bytesL_succ (S m : Nat) : bytesL S (m + 1) = bytesL S m ++ [((S / 2 ^ (8 * m) % 2 ^ 8 : Nat) : Int)] := by simp [bytesL, List.range_succ]
def strOf (ns : List Int) : ByteArray := ns.foldl (fun r n => r.push (UInt8.ofNat n.toNat)) ByteArray.empty
theorem strOf_list : ∀ (ns : List Int) (s : ByteArray), (ns.foldl (fun r n => r.push (UInt8.ofNat n.toNat)) s).data.toList = s.data.toList ++ ns.map (fun n => UInt8.ofNat n.toNat)
  | [], s => by simp
  | n :: ns, s => by
    rw [List.foldl_cons, strOf_list ns]
    simp [ByteArray.push]
theorem strOf_data (ns : List Int) : (strOf ns).data.toList = ns.map (fun n => UInt8.ofNat n.toNat) := by
  have := strOf_list ns ByteArray.empty
  unfold strOf
  simpa using this
theorem strOf_size (ns : List Int) : (strOf ns).size = ns.length := by
  have h := congrArg List.length (strOf_data ns)
  simpa using h
theorem strOf_txt (S m j : Nat) (h : j < m) : txt (strOf (bytesL S m)) j = S / 2 ^ (8 * j) % 2 ^ 8 := by
  unfold txt
  rw [strOf_data, List.getD_eq_getElem?_getD, List.getElem?_map]
  unfold bytesL
  rw [List.getElem?_map, List.getElem?_range h]
  have hl : S / 2 ^ (8 * j) % 2 ^ 8 < 256 := Nat.mod_lt _ (by decide)
  simp only [Option.map_some, Option.getD_some, Int.toNat_natCast]
  rw [UInt8.toNat_ofNat']
  omega
theorem numT_strOf (S m : Nat) : numT (strOf (bytesL S m)) = S % 2 ^ (8 * m) := by
  unfold numT
  rw [strOf_size, bytesL_len, num_ext 256 _ (fun j => S / 256 ^ j % 256) m (fun j hj => by rw [strOf_txt S m j hj, Nat.pow_mul]), num_of, Nat.pow_mul]
theorem strOf_numT (s : ByteArray) : strOf (bytesL (numT s) s.size) = s := by
  apply ByteArray.ext
  apply Array.ext'
  rw [strOf_data]
  apply List.ext_getElem
  · simp [bytesL]
  · intro i h1 h2
    have hi : i < s.size := by simpa using h2
    have e := numT_byte s i hi
    simp only [bytesL, List.map_map, List.getElem_map, List.getElem_range, Function.comp, Int.toNat_natCast]
    rw [e]
    unfold txt
    rw [List.getD_eq_getElem?_getD, List.getElem?_eq_getElem h2]
    simp
theorem Try.uBs : Try.prog.underlying 45 = some (.slice 5) := by kernel_rfl
theorem Try.uB : Try.prog.underlying 5 = some (.int .u8) := by kernel_rfl
theorem Try.uS : Try.prog.underlying 9 = some .string := by kernel_rfl
theorem Try.infoB : (Try.prog.info? 5).map (fun i => (i.zero, i.size, i.bytes)) = some (some (.int .u8 0), 1, 1) := by kernel_rfl
/-- string(b) of a row of one's own. -/
theorem conv_own (w : World) (base : Nat) (v : Value) (n : Nat) (hn : 0 < n) (ns : List Int) (h : w.ownsRow base 5 1 v n (ns.map (Value.int .u8))) : (convert 45 9 v).run Try.prog w = .ok (.string (strOf ns)) w := by
  have hlen : ns.length = n := by have := h.1; simpa using this
  rcases h.2 with ⟨_, h0⟩ | ⟨g, cap, cur, rfl, hb, hh, h1, h2, h3, h4⟩
  · omega
  rw [run_convert_bytes_string w 45 9 5 (some ⟨g, 0, none⟩) n cap Try.uBs Try.uB Try.uS]
  refine run_bytesToString w ⟨g, 0, none⟩ n cap ns ?_
  have hl := run_loadCells_list (P := Try.prog) w ⟨g, 0, none⟩ (ns.map (Value.int .u8)) (fun j u hu => by
    have := h.cells (g := g) rfl j u hu
    exact this)
  rw [List.length_map, hlen] at hl
  exact hl
theorem grown_own {w w1 w2 : World} {r : Option Nat} (h : w.grownBy w1 none) (k : w1.grownBy w2 r) (hb : ∀ b, r = some b → w.heap.size ≤ b) : w.grownBy w2 none :=
  ⟨k.os.trans h.os, k.tape.trans h.tape, k.output.trans h.output, Nat.le_trans h.size k.size, fun i hi _ => (k.block i (Nat.lt_of_lt_of_le hi h.size) (fun e => by have := hb i e.symm; omega)).trans (h.block i hi (by simp))⟩

set_option maxHeartbeats 1000000 in
set_option maxRecDepth 20000 in
theorem pack32_any (a : Nat → Nat) (d : Nat) (w : World) (hd0 : 1 ≤ d) (hd1 : d ≤ 23) (ha : ∀ i, i < 256 → a i < 2 ^ d) :
    Calls Try.prog 15 #[.int .i64 d, .agg (polyA .u32 (fun i => (a i : Int)))] w fun e w' => ∃ v, e = .returned v ∧ w'.ownsRow w.heap.size 5 1 v (32 * d) ((bytesL (num (2 ^ d) a 256) (32 * d)).map (Value.int .u8)) ∧ w.grownBy w' none := by
  obtain ⟨S, hS⟩ : ∃ S, S = num (2 ^ d) a 256 := ⟨_, rfl⟩
  have HA : Hid (∀ i, i < 256 → a i = S / 2 ^ (d * i) % 2 ^ d) := fun i hi => by rw [hS, Nat.pow_mul]; exact (num_digit (2 ^ d) a 256 i ha hi).symm
  rw [← hS]
  clear hS ha
  obtain ⟨i0, hi, hz0, hz1, hz2⟩ := info_parts Try.infoB
  have n1 := new_alloc .u32 w (fun i => (a i : Int)) 42
  have hmk : ∀ W, (Instr.makeSlice 45 (.int .i64 0) (.int .i64 (32 * (d : Int)))).run Try.prog W = .ok (.slice (some ⟨W.heap.size, 0, none⟩) 0 (32 * d)) (W.alloc (.cells (madeCells #[.int .u8 0] (32 * d)) 5)) := fun W => by
    have h := run_make (P := Try.prog) W 45 5 i0 (.int .u8 0) Try.uBs hi hz0 .i64 .i64 0 (32 * (d : Int)) (by omega) (by omega) (by rw [hz2]; omega) (by omega)
    rw [hz1] at h
    have e : (32 * (d : Int)).toNat = 32 * d := by omega
    simpa [Value.cells, e] using h
  go_enter Try.func15, Try.ntmps15
  go_wp2_with (first | go_in | (refine wpL_load rfl .u32 42 _ rfl w.heap.size 0 rfl _ ((n1.r).new (World.grownBy_alloc _ _ none)) Try.oQ32 Try.sQ32 ?_))
  have hO : ((w.alloc (.cells (polyA .u32 (fun i => (a i : Int))) 42)).alloc (.cells (madeCells #[.int .u8 0] (32 * d)) 5)).ownsRow w.heap.size 5 1 (.slice (some ⟨(w.alloc (.cells (polyA .u32 (fun i => (a i : Int))) 42)).heap.size, 0, none⟩) 0 (32 * d)) 0 [] :=
    World.ownsRow_made _ _ (32 * d) n1.g.size (by unfold maxLen; omega) (by rw [size_madeCells]; omega)
  have hg : w.grownBy ((w.alloc (.cells (polyA .u32 (fun i => (a i : Int))) 42)).alloc (.cells (madeCells #[.int .u8 0] (32 * d)) 5)) none := grownBy_trans n1.g (World.grownBy_alloc _ _ none)
  rw [World.size_alloc] at hO
  generalize (w.alloc (.cells (polyA .u32 (fun i => (a i : Int))) 42)).alloc (.cells (madeCells #[.int .u8 0] (32 * d)) 5) = w2 at *
  clear n1 hmk
  go_loopw [5, 6, 7, 9, 14] (fun v h n _ i wr => ∃ (hh nn ee ii : Nat), ii ≤ 256 ∧ h = .int .u32 hh ∧ n = .int .i64 nn ∧ i = .int .i64 ii ∧ Hid (hh = win S (8 * ee) (d * ii) ∧ 8 * ee + nn = d * ii) ∧ nn < 8 ∧ w.grownBy wr none ∧ wr.ownsRow w.heap.size 5 1 v ee ((bytesL S ee).map (Value.int .u8))) (fun _ _ _ _ i _ => 256 - (intOf i).toNat)
  case atStart => exact ⟨0, 0, 0, 0, by omega, rfl, rfl, rfl, ⟨(win_none S 0).symm, rfl⟩, by omega, hg, hO⟩
  case round =>
    clear hg hO
    obtain ⟨hh, nn, ee, ii, hi6, rfl, rfl, rfl, HW, hn8, hg, hO⟩ := hrel
    by_cases hlt : ii < 256
    · have b0 : (0 : Int) ≤ (ii : Int) := by omega
      have b1 : (ii : Int) < 256 := by omega
      have ix := fun W => ix32 (fun i => (a i : Int)) ii hlt W
      have HAi := hid_mkP (HA.out ii hlt)
      generalize a ii = x at *
      obtain ⟨y, hy⟩ : ∃ y : Nat, bits BinOp.or IntKind.u32 (hh : Int) ((x : Int) * 2 ^ nn % 4294967296) = (y : Int) ∧ y = win S (8 * ee) (d * (ii + 1)) := by
        refine ⟨_, ?_, rfl⟩
        have hl := win_lt S (8 * ee) (d * ii) (by have := HW.out.2; omega)
        rw [← HW.out.1, show d * ii - 8 * ee = nn by have := HW.out.2; omega] at hl
        have hx : x < 2 ^ d := by rw [HAi.out]; exact Nat.mod_lt _ (Nat.two_pow_pos d)
        have h7 : (2 : Nat) ^ nn ≤ 2 ^ 7 := Nat.pow_le_pow_right (by omega) (by omega)
        have h23 : (2 : Nat) ^ d ≤ 2 ^ 23 := Nat.pow_le_pow_right (by omega) hd1
        have hb : x * 2 ^ nn ≤ 2 ^ 23 * 2 ^ 7 := Nat.mul_le_mul (by omega) h7
        rw [or_add hh x nn hl (by omega)]
        have e2 := win_add S (8 * ee) (d * ii) d (by have := HW.out.2; omega)
        rw [← HAi.out, ← HW.out.1, show d * ii - 8 * ee = nn by have := HW.out.2; omega] at e2
        rw [Nat.mul_succ, ← e2]
      have hy1 := hy.1
      have HY := hid_mkP hy.2
      have HW2 := hid_mkP HW.out.2
      clear hy HW HAi
      go_wp2
      go_loopw [5, 6, 7] (fun v h n wv => ∃ (hv nv ev : Nat), h = .int .u32 hv ∧ n = .int .i64 nv ∧ Hid (hv = win S (8 * ev) (d * (ii + 1)) ∧ 8 * ev + nv = d * (ii + 1)) ∧ nv < d + 8 ∧ w.grownBy wv none ∧ wv.ownsRow w.heap.size 5 1 v ev ((bytesL S ev).map (Value.int .u8))) (fun _ _ n _ => (intOf n).toNat)
      case atStart => exact ⟨y, nn + d, ee, rfl, by go_num, ⟨HY.out, by have := HW2.out; rw [Nat.mul_succ]; omega⟩, by omega, hg, hO⟩
      case round =>
        clear hO HY HW2 hg hn8 hy1 ix
        obtain ⟨hv, nv, ev, rfl, rfl, HW, hnv, hg, hO⟩ := hrel
        by_cases hlt2 : 8 ≤ nv
        · have c1 : (8 : Int) ≤ (nv : Int) := by omega
          have hev : ev < 32 * d := by
            have h1 := HW.out.2
            have h2 : d * (ii + 1) ≤ d * 256 := Nat.mul_le_mul_left _ hlt
            omega
          have hbb : ∀ b, Value.ownBlock u5 = some b → w.heap.size ≤ b := fun b hb => (hO.lt b hb).1
          go_wp2_with (first | (at_builtin; refine wpList_append_own _ rfl _ _ 45 rfl w.heap.size 5 i0 (.int .u8 0) 1 1 Try.uBs hi hz0 hz1 hz2 rfl (by decide) _ _ _ rfl (hO.alloc _) ⟨_, 0, none⟩ 1 1 [.int .u8 ((hv : Int) % 256)] rfl rfl ?c1 ?c2 ?c3 ?c4 ?c5 ?_))
          case c1 =>
            intro j u hj
            match j, hj with
            | 0, hj => simp at hj; subst hj; simp [Addr.add]
          case c2 => intro u hu; simp at hu; subst hu; rfl
          case c3 => unfold maxLen; omega
          case c4 => omega
          case c5 => have := hg.size; simp; omega
          intro v' w1 hown' hgrow _
          go_wp2
          go_roundw
          case rel =>
            refine ⟨hv / 2 ^ 8, nv - 8, ev + 1, by simp, ?_, ⟨?_, by have := HW.out.2; omega⟩, by omega, grown_own (grownBy_trans hg (World.grownBy_alloc _ _ none)) hgrow hbb, ?_⟩
            · congr 1; omega
            · rw [HW.out.1, win_shift, show 8 * ev + 8 = 8 * (ev + 1) by omega]
            · rw [bytesL_succ, List.map_append]
              have hb : (hv : Int) % 256 = ((S / 2 ^ (8 * ev) % 2 ^ 8 : Nat) : Int) := by
                rw [← win_low S (8 * ev) (d * (ii + 1)) 8 (by have := HW.out.2; omega), ← HW.out.1]; simp
              rw [hb] at hown'
              exact hown'
          case measure => simp [intOf]; omega
        · have c1 : decide ((8 : Int) ≤ (nv : Int)) = false := by simp; omega
          go_wp2
          exact ⟨⟨hv, nv, ev, ii + 1, by omega, rfl, rfl, by go_num, HW, by omega, hg, hO⟩, by simp [intOf]; omega⟩
    · have hi7 : ii = 256 := by omega
      subst hi7
      go_wp2
      go_ret
      have he : ee = 32 * d ∧ nn = 0 := by have := HW.out.2; omega
      obtain ⟨rfl, rfl⟩ := he
      exact ⟨_, rfl, hO, hg⟩
end Go.Proofs.Ytkijpphmiogbbab
