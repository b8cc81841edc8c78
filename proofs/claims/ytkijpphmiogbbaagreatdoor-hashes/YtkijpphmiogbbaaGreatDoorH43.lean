import Derived.Test.YtkijpphmiogbbaaGreatDoorH42
namespace Go.Proofs.YtkijpphmiogbbaaGreatDoor
open Go.RowKit
attribute [local go_sem ↓] Go.wp_at_zero Go.wp_at_succ

theorem Tryz.uBy7 : Tryz.prog.underlying 5 = some (.int .u8) := by kernel_rfl
theorem Tryz.uSt7 : Tryz.prog.underlying 9 = some .string := by kernel_rfl
theorem Tryz.iBy7 : (Tryz.prog.info? 5).map (fun i => (i.zero, i.size, i.bytes)) = some (some (.int .u8 0), 1, 1) := by kernel_rfl
theorem info7 {P : Program} {t : TypeId} {x : Option Value × Nat × Nat} (h : (P.info? t).map (fun i => (i.zero, i.size, i.bytes)) = some x) : ∃ i, P.info? t = some i ∧ i.zero = x.1 ∧ i.size = x.2.1 ∧ i.bytes = x.2.2 := by
  cases hi : P.info? t with
  | none => rw [hi] at h; cases h
  | some i =>
    rw [hi] at h
    simp only [Option.map_some, Option.some.injEq] at h
    subst h
    exact ⟨i, rfl, rfl, rfl, rfl⟩
def nums (l : List UInt8) : List Int := l.map (fun b => (b.toNat : Int))
/-- The bytes ahead of the last XOR. -/
def rawL (en : UInt8) (t : List UInt8) (k : Nat) : List Int := nums t ++ [(en.toNat : Int)] ++ List.replicate k 0
theorem rawL_len (en : UInt8) (t : List UInt8) (k : Nat) : (rawL en t k).length = t.length + 1 + k := by simp [rawL, nums]; omega
theorem rawL_succ (en : UInt8) (t : List UInt8) (k : Nat) : rawL en t (k + 1) = rawL en t k ++ [0] := by
  unfold rawL
  rw [List.replicate_succ', ← List.append_assoc]
theorem xor_en (en : UInt8) (he : en = 6 ∨ en = 31) : bits BinOp.xor IntKind.u8 (en.toNat : Int) 128 = ((en ^^^ 128).toNat : Int) := by
  rcases he with rfl | rfl <;> decide
theorem xor_0 : bits BinOp.xor IntKind.u8 0 128 = 128 := by decide
/-- The text with its end, as numbers. -/
theorem raw_is (en : UInt8) (he : en = 6 ∨ en = 31) (rate : Nat) (hr : 0 < rate) (t : List UInt8) (k : Nat) (hk : t.length + 1 + k = padN rate t.length) (i : Nat) (hi : i + 1 = (rawL en t k).length) (x : Int) (hx : (rawL en t k)[i]? = some x) :
    (rawL en t k).set i (bits BinOp.xor IntKind.u8 x 128) = nums (padded en rate t) := by
  have hp := padN_is rate t.length hr
  rw [rawL_len] at hi
  have hi2 : i = t.length + k := by omega
  subst hi2
  unfold padded padL nums
  by_cases e : t.length % rate + 1 = rate
  · have hk0 : k = 0 := by omega
    subst hk0
    rw [if_pos e]
    unfold rawL nums at hx ⊢
    simp only [List.replicate_zero, List.append_nil, Nat.add_zero] at hx ⊢
    rw [List.getElem?_append_right (by simp)] at hx
    simp at hx
    subst hx
    rw [xor_en en he, List.set_append_right _ _ (by simp)]
    simp
  · rw [if_neg e]
    obtain ⟨j, rfl⟩ : ∃ j, k = j + 1 := ⟨k - 1, by omega⟩
    have hj : rate - t.length % rate - 2 = j := by omega
    rw [hj]
    unfold rawL nums at hx ⊢
    rw [List.replicate_succ', ← List.append_assoc, List.getElem?_append_right (by simp)] at hx
    rw [List.replicate_succ', ← List.append_assoc, List.set_append_right _ _ (by simp)]
    have e0 : t.length + (j + 1) - (List.map (fun b : UInt8 => (b.toNat : Int)) t ++ [(en.toNat : Int)] ++ List.replicate j 0).length = 0 := by simp
    rw [e0] at hx ⊢
    simp at hx
    subst hx
    rw [xor_0]
    simp
theorem conv_nil (w : World) : (convert 41 9 (.slice none 0 0)).run Tryz.prog w = .ok (.string ByteArray.empty) w := by kernel_rfl
/-- What came out, as a text. -/
theorem conv_out (w : World) (base : Nat) (v : Value) (n : Nat) (F : Spg) (h : w.ownsRow base 5 1 v n (outV F n)) : (convert 41 9 v).run Tryz.prog w = .ok (.string (outStr F n)) w := by
  rcases h.2 with ⟨rfl, rfl⟩ | ⟨g, cap, cur, rfl, hb, hh, h1, h2, h3, h4⟩
  · exact conv_nil w
  rw [run_convert_bytes_string w 41 9 5 (some ⟨g, 0, none⟩) n cap Tryz.uBytes Tryz.uBy7 Tryz.uSt7]
  refine run_bytesToString w ⟨g, 0, none⟩ n cap ((List.range n).map (outI F)) ?_
  have e : outV F n = ((List.range n).map (outI F)).map (Value.int .u8) := by unfold outV; rw [List.map_map]; rfl
  have hl := run_loadCells_list (P := Tryz.prog) w ⟨g, 0, none⟩ (outV F n) (fun j u hu => h.cells (g := g) rfl j u hu)
  rw [outV_len] at hl
  rw [← e]; exact hl
theorem nums_at (l : List UInt8) (j : Nat) (h : j < l.length) : (nums l)[j]?.getD 0 = (l[j].toNat : Int) := by
  unfold nums
  rw [List.getElem?_map, List.getElem?_eq_getElem h]; rfl
set_option maxHeartbeats 4000000 in
set_option maxRecDepth 20000 in
theorem sponge_any (rate cnt : Nat) (en : UInt8) (he : en = 6 ∨ en = 31) (t : ByteArray) (w : World) (hr0 : 0 < rate) (hr : rate ≤ 200) (h8 : rate % 8 = 0) (ht : t.size ≤ 549755813888) (hcn : cnt ≤ 1099511627776) :
    Calls Tryz.prog 94 #[.int .i64 rate, .int .u8 (en.toNat : Int), .string t, .int .i64 cnt] w fun e w' => e = .returned (.string (outStr (finishS (absorbS (startS rate (en.toNat : Int)) t.data.toList)) cnt)) ∧ w.grownBy w' none := by
  obtain ⟨i0, hi, hz0, hz1, hz2⟩ := info7 Tryz.iBy7
  simp only at hz0 hz1 hz2
  have HI : Hid (Tryz.prog.info? 5 = some i0) := hi
  have r1 : (rate : Int) ≤ 200 := by omega
  have r0 : (0 : Int) < (rate : Int) := by omega
  have hz : Row (w.alloc (.cells zero25 225)) w.heap.size 25 (fun _ => 0) := row_zero25 w 225
  have s1 : (w.alloc (.cells zero25 225)).heap.size = w.heap.size + 1 := by simp
  have hcv := Lib.run_convert_string_bytes (P := Tryz.prog) (w.alloc (.cells zero25 225)) 9 41 5 t Tryz.uSt7 Tryz.uBytes Tryz.uBy7
  have hOw := OwnB_conv (w.alloc (.cells zero25 225)) (w.heap.size + 1) 5 t (by unfold maxLen; omega) (by rw [s1]; exact Nat.le_refl _)
  have hgc := grown_conv (w.alloc (.cells zero25 225)) 5 t none
  have hw1 : w.grownBy (w.alloc (.cells zero25 225)) none := World.grownBy_alloc _ _ _
  rw [s1] at hcv hOw
  have hg2 : w.grownBy _ none := grownBy_trans hw1 hgc
  have hA2 : Row _ w.heap.size 25 (fun _ => 0) := row_kept hz hgc (by simp)
  unfold zero25 at hcv hOw hg2 hA2
  generalize Lib.bytesWorld (w.alloc (.cells #[.int .u64 0, .int .u64 0, .int .u64 0, .int .u64 0, .int .u64 0, .int .u64 0, .int .u64 0, .int .u64 0, .int .u64 0, .int .u64 0, .int .u64 0, .int .u64 0, .int .u64 0, .int .u64 0, .int .u64 0, .int .u64 0, .int .u64 0, .int .u64 0, .int .u64 0, .int .u64 0, .int .u64 0, .int .u64 0, .int .u64 0, .int .u64 0, .int .u64 0] 225)) 5 t = W2 at hcv hOw hg2 hA2
  generalize grownCap (w.alloc (.cells #[.int .u64 0, .int .u64 0, .int .u64 0, .int .u64 0, .int .u64 0, .int .u64 0, .int .u64 0, .int .u64 0, .int .u64 0, .int .u64 0, .int .u64 0, .int .u64 0, .int .u64 0, .int .u64 0, .int .u64 0, .int .u64 0, .int .u64 0, .int .u64 0, .int .u64 0, .int .u64 0, .int .u64 0, .int .u64 0, .int .u64 0, .int .u64 0, .int .u64 0] 225)) t.size 0 5 = cap0 at hcv hOw
  have HO : Hid (OwnB W2 (w.heap.size + 1) (.slice (some ⟨w.heap.size + 1, 0, none⟩) t.size cap0) (nums t.data.toList)) := hOw
  have hs2 : w.heap.size + 1 ≤ W2.heap.size := by
    obtain ⟨g9, c9, e9, h9, h10⟩ := hOw.form
    omega
  have hlt : (nums t.data.toList).length = t.size := by simp [nums]
  clear hi s1 hz hw1 hgc hOw
  go_enter Tryz.func94, Tryz.ntmps94
  go_wp2_with (first | (at_builtin; refine wpList_app1 rfl _ _ 41 rfl (w.heap.size + 1) 5 i0 Tryz.uBytes HI.out hz0 hz1 hz2 _ (nums t.data.toList) rfl ?o1 ?o2 _ 1 (en.toNat : Int) rfl ?c1 ?c2 ?_))
  case o1 => exact HO.out.kept (World.grownBy_alloc _ _ none) (Or.inr rfl)
  case o2 => simp; omega
  case c2 => rw [hlt]; omega
  case c1 => rw [World.cell?_alloc_new]; rfl
  intro v1 W3 hO3 hg3
  have hg03 : w.grownBy W3 none := grown_new (grownBy_trans hg2 (World.grownBy_alloc W2 _ none)) hg3 (Nat.le_succ _)
  have hA3 : Row W3 w.heap.size 25 (fun _ => 0) := row_kept (hA2.alloc _) hg3 (by simp [Value.ownBlock])
  have hR3 : OwnB W3 (w.heap.size + 1) v1 (rawL en t.data.toList 0) := by
    have e9 : rawL en t.data.toList 0 = nums t.data.toList ++ [(en.toNat : Int)] := by simp [rawL]
    rw [e9]; exact hO3
  have hs3 : w.heap.size + 1 ≤ W3.heap.size := Nat.le_trans hs2 (Nat.le_trans (World.grownBy_alloc W2 _ none).size hg3.size)
  obtain ⟨l, hl⟩ : ∃ l, l = t.data.toList := ⟨_, rfl⟩
  have hll : l.length = t.size := by rw [hl]; simp
  rw [← hl] at hR3
  have HL : Hid (l = t.data.toList) := hl
  obtain ⟨N, hN⟩ : ∃ N, N = padN rate t.size := ⟨_, rfl⟩
  have HN : Hid (N = padN rate t.size) := hN
  have hNb : N ≤ t.size + 200 ∧ t.size + 1 ≤ N := by rw [hN]; have := padN_is rate t.size hr0; omega
  clear hO3 hg3 hA2 hg2 hcv HO hlt hl hN hs2
  go_wp2
  go_loopw [10] (fun v wr => ∃ k n : Nat, n = t.size + 1 + k ∧ n ≤ N ∧ OwnB wr (w.heap.size + 1) v (rawL en l k) ∧ w.grownBy wr none ∧ Row wr w.heap.size 25 (fun _ => 0)) (fun v _ => N - lenOf v)
  case atStart => exact ⟨0, t.size + 1, by omega, hNb.2, hR3, hg03, hA3⟩
  case round =>
    clear hR3 hg03 hA3 hs3
    obtain ⟨k, n, hn, hnN, hO, hg, hA⟩ := hrel
    obtain ⟨g, cap, rfl, hgb, hgl⟩ := hO.form
    have hlen : (rawL en l k).length = n := by rw [rawL_len, hll, hn]
    rw [hlen] at hO ⊢
    have hmore := padN_more rate t.size n hr0 (by omega) (by rw [← HN.out]; exact hnN)
    rw [← HN.out] at hmore
    have n1 : (n : Int) ≤ 549755814200 := by omega
    have hmod : (n : Int) % (rate : Int) = ((n % rate : Nat) : Int) := by simp
    have HM : Hid ((n : Int) % (rate : Int) = ((n % rate : Nat) : Int)) := hmod
    have HK : Hid (n = t.size + 1 + k) := hn
    have hn1 : t.size + 1 ≤ n := by omega
    clear hn
    by_cases hlt : n < N
    · have q0 : (0 : Int) < (n : Int) % (rate : Int) := by rw [hmod]; have := hmore.2 hlt; omega
      have HO : Hid (OwnB wr (w.heap.size + 1) (.slice (some ⟨g, 0, none⟩) n cap) (rawL en l k)) := hO
      clear hmore hmod hO
      go_wp2_with (first | (at_builtin; refine wpList_app1 rfl _ _ 41 rfl (w.heap.size + 1) 5 i0 Tryz.uBytes HI.out hz0 hz1 hz2 _ (rawL en l k) rfl ?o1 ?o2 _ 1 0 rfl ?c1 ?c2 ?_))
      case o1 => exact HO.out.kept (World.grownBy_alloc _ _ none) (Or.inr rfl)
      case o2 => have := hg.size; simp; omega
      case c2 => rw [hlen]; omega
      case c1 => rw [World.cell?_alloc_new]; rfl
      intro v4 W4 hO4 hg4
      have hg04 : w.grownBy W4 none := grown_new (grownBy_trans hg (World.grownBy_alloc wr _ none)) hg4 (by show w.heap.size ≤ g; omega)
      have hA4 : Row W4 w.heap.size 25 (fun _ => 0) := row_kept (hA.alloc _) hg4 (by simp [Value.ownBlock]; omega)
      have hR4 : OwnB W4 (w.heap.size + 1) v4 (rawL en l (k + 1)) := by rw [rawL_succ]; exact hO4
      obtain ⟨g5, cap5, hv5, _, _⟩ := hR4.form
      have hl5 : (rawL en l (k + 1)).length = n + 1 := by rw [rawL_len, hll, HK.out]; omega
      rw [hl5] at hv5
      subst hv5
      clear hO4 hg4 HO q0
      go_wp2
      go_roundw
      case rel => exact ⟨k + 1, n + 1, by have := HK.out; omega, by omega, hR4, hg04, hA4⟩
      case measure => show N - (n + 1) < N - n; omega
    · have hnN2 : N = n := by omega
      subst hnN2
      clear hlt
      have q0 : (N : Int) % (rate : Int) = 0 := by
        rw [hmod]
        have : ¬ 0 < N % rate := fun h => by have := hmore.1 h; omega
        omega
      obtain ⟨x, hx⟩ : ∃ x, (rawL en l k)[N - 1]? = some x := ⟨_, List.getElem?_eq_getElem (by omega)⟩
      have hO9 : OwnB wr (w.heap.size + 1) (.slice (some ⟨g, 0, none⟩) (rawL en l k).length cap) (rawL en l k) := by rw [hlen]; exact hO
      have hcx := hO9.at (N - 1) (by omega)
      have hx2 : (rawL en l k)[N - 1]'(by omega) = x := by
        rw [List.getElem?_eq_getElem (by omega)] at hx; exact Option.some.inj hx
      rw [hx2] at hcx
      obtain ⟨cx, fx⟩ := hcx
      have hraw := raw_is en he rate hr0 l k (by rw [hll, ← HN.out, HK.out]) (N - 1) (by omega) x hx
      have hput := hO9.put (N - 1) (by omega) (bits BinOp.xor IntKind.u8 x 128)
      rw [hraw, hlen] at hput
      obtain ⟨M1, hM1⟩ : ∃ m, m = N - 1 := ⟨_, rfl⟩
      rw [← hM1] at cx fx hput
      have t1 : ((N : Int) - 1).toNat = M1 := by omega
      have t2 : (0 : Int) ≤ (N : Int) - 1 := by omega
      have t3 : (N : Int) - 1 < (N : Int) := by omega
      have t4 : IntKind.i64.wrap ((N : Int) - 1) = (N : Int) - 1 := by rw [IntKind.wrap_i64] <;> omega
      have hAb : ¬ g = w.heap.size := by omega
      have hgs : w.grownBy (wr.setCell ⟨g, M1, none⟩ (.int .u8 (bits BinOp.xor IntKind.u8 x 128))) none := grown_setNew hg (by show w.heap.size ≤ g; omega) _
      have hAs : Row (wr.setCell ⟨g, M1, none⟩ (.int .u8 (bits BinOp.xor IntKind.u8 x 128))) w.heap.size 25 (fun _ => 0) := hA.set_other hAb _
      have HP : Hid (OwnB (wr.setCell ⟨g, M1, none⟩ (.int .u8 (bits BinOp.xor IntKind.u8 x 128))) (w.heap.size + 1) (.slice (some ⟨g, 0, none⟩) N cap) (nums (padded en rate l))) := hput
      clear hmore hmod hO hO9 hx hx2 hraw hput hg hA hM1
      go_wp2
      generalize wr.setCell ⟨g, M1, none⟩ (.int .u8 (bits BinOp.xor IntKind.u8 x 128)) = W5 at *
      clear cx fx t1 t2 t3 t4
      have hpl : (padded en rate l).length = N := by rw [padded_len en rate hr0 l, hll, HN.out]
      have hnl : (nums (padded en rate l)).length = N := by unfold nums; rw [List.length_map]; exact hpl
      have hB : ∀ j (h : j < (padded en rate l).length), (fun j => (nums (padded en rate l))[j]?.getD 0) j = ((padded en rate l)[j].toNat : Int) := fun j h => nums_at _ j h
      have hB0 : ∀ j, j < N → W5.cell? ⟨g, j, none⟩ = some (.int .u8 ((fun j => (nums (padded en rate l))[j]?.getD 0) j)) := fun j hj => by
        have h9 : OwnB W5 (w.heap.size + 1) (.slice (some ⟨g, 0, none⟩) (nums (padded en rate l)).length cap) (nums (padded en rate l)) := by rw [hnl]; exact HP.out
        have h10 := (h9.at j (by rw [hnl]; exact hj)).1
        rw [h10]
        simp only [List.getElem?_eq_getElem (show j < (nums (padded en rate l)).length by rw [hnl]; exact hj), Option.getD_some]
      have hblk := padded_blocks en he rate hr0 hr h8 l _ hB
      have hNM : N = (t.size / rate + 1) * rate := HN.out
      rw [hll] at hblk
      obtain ⟨F, hF⟩ : ∃ F, F = finishS (absorbS (startS rate (en.toNat : Int)) l) := ⟨_, rfl⟩
      have hFp : F.place = 0 := by rw [hF]; rfl
      have hFr : F.rate = rate := by
        rw [hF]
        show (absorbS (startS rate (en.toNat : Int)) l).rate = rate
        rw [(absorbS_takes l (start_ok rate (en.toNat : Int) hr0 hr)).2.1]; rfl
      rw [← hF] at hblk
      have HF : Hid (F = finishS (absorbS (startS rate (en.toNat : Int)) l)) := hF
      have HB : Hid (blkTo (fun _ => 0) (fun j => (nums (padded en rate l))[j]?.getD 0) rate (t.size / rate + 1) = F.L) := hblk
      have nN : N ≤ 1099511627776 := by omega
      generalize (fun j : Nat => (nums (padded en rate l))[j]?.getD 0) = BB at *
      clear hpl hnl hB hblk HP hF HK hlen q0 HM
      refine ph_blocks _ w.heap.size rate g N (t.size / rate + 1) cap (fun _ => 0) BB _ _ _ _ _ _ _ _ _ _ _ _ _ _ _ _ _ _ _ _ _ _ _ _ _ _ _ _ _ _ _ _ _ _ _ _ _ _ _ _ _ _ _ _ _ _ _ _ _ _ _ _ _ _ _ _ _ _ _ _ _ _ _ _ _ _ _ _ _ _ _ _ _ _ _ _ _ _ _ _ _ _ _ _ _ _ _ _ _ _ _ _ _ _ _ _ _ _ _ _ _ _ _ _ _ _ hr0 hr hNM nN hAb hAs hB0 ?_
      clear hNM hAs hB0
      intro u11 u12 u41 u42 u43 u44 u45 u46 u47 u48 u49 u50 u51 u52 u53 u54 u55 u56 u57 u58 u59 u60 u61 u62 u63 u64 u65 u66 u67 u68 u69 u70 u71 u72 u73 W6 a hg6 hs6 hA6
      have hg06 : w.grownBy W6 none := grown_new hgs hg6 (Nat.le_refl _)
      have hb6 : Same a F.L := by rw [← HB.out]; exact hs6
      clear hg6 hs6 hgs HB
      go_wp2
      refine ph_out _ w.heap.size rate cnt F a _ _ _ _ _ _ _ _ _ _ _ _ _ _ _ _ _ _ _ _ _ _ _ _ _ _ _ _ _ _ _ _ _ _ _ _ _ _ _ _ _ _ _ _ _ _ _ _ _ _ _ _ _ _ _ _ _ _ _ _ _ _ _ _ _ _ _ _ _ _ _ _ _ _ _ _ _ _ _ _ _ _ _ _ _ _ _ _ _ _ _ _ _ _ _ _ _ _ _ _ _ _ _ _ _ w _ hr0 hr hcn hFp hFr hb6 (Nat.le_refl _) hg06 hA6 ?_
      intro u14 u74 u75 u76 u77 u78 u79 u80 u81 u82 u83 u84 u85 u86 u87 u88 u89 u90 u91 u92 u93 u94 u95 u96 u97 u98 u99 u100 u101 u102 u103 u104 u105 u106 v1 W7 hg7 hO7
      have hcb := conv_out W7 _ _ cnt F hO7
      clear hO7 hb6 hA6 hg06
      go_wp2
      go_ret
      refine ⟨?_, hg7⟩
      rw [← HL.out, ← HF.out]
      rfl
end Go.Proofs.YtkijpphmiogbbaaGreatDoor
