import Derived.Test.YtkijpphmiogbbaaDoorK
namespace Go.Proofs.YtkijpphmiogbbaaDoor
open Go.RowKit
attribute [local go_sem ↓] Go.wp_at_zero Go.wp_at_succ

theorem Sp.far' {w w' : World} {b : Nat} {r : Option Nat} {s : Spg} (h : Sp w b s) (hg : w.grownBy w' r) (hne : some b ≠ r) : Sp w' b s := by
  refine ⟨fun i hi => ⟨hg.cell (h.row i hi).1 hne, ?_⟩, hg.cell h.c25 hne, hg.cell h.c26 hne, hg.cell h.c27 hne, hg.cell h.c28 hne, fun i => ?_⟩
  · rw [hg.frozen_far ⟨b, i, none⟩ h.lt hne]; exact (h.row i hi).2
  · rw [hg.frozen_far ⟨b, i, none⟩ h.lt hne]; exact h.fz i
theorem Globs.grown' {w w' : World} (h : Globs w) (k : w.grownBy w' none) : Globs w' :=
  ⟨fun i hi => k.cell (h.tg i hi) (by simp), fun i hi => k.cell (h.tn i hi) (by simp), fun i hi => k.cell (h.rb i hi) (by simp), k.cell h.et (by simp)⟩
theorem below_of_grown {w w' : World} (h : w.grownBy w' none) : Below w.heap.size w w' := ⟨h.os, h.tape, h.output, h.size, fun k hk => h.block k hk (by simp)⟩

def rateK (k : Nat) : Nat := if k = 0 then 168 else 136
theorem newStream_any (k : Nat) (hk : k < 2) (w : World) (hG : Globs w) (h4 : 4 ≤ w.heap.size) :
    Calls Tryd.prog 5 #[.int .i64 (128 + 128 * (k : Int))] w fun e w' => ∃ b, w.heap.size ≤ b ∧ e = .returned (.tuple #[.pointer (some ⟨b, 0, none⟩), .nilIface]) ∧ w.grownBy w' none ∧ Sp w' b (startS (rateK k) 31) := by
  have h : k = 0 ∨ k = 1 := by omega
  rcases h with rfl | rfl
  · exact newStream_128 w hG h4
  · exact newStream_256 w hG h4
theorem start_takes (k : Nat) : Takes (startS (rateK k) 31) := by
  unfold rateK startS
  by_cases h : k = 0
  · rw [if_pos h]; exact ⟨by decide, by decide, by decide⟩
  · rw [if_neg h]; exact ⟨by decide, by decide, by decide⟩

theorem pick_any (c n : Int) (w : World) (hc : -9223372036854775808 ≤ c) (hc' : c ≤ 9223372036854775807) (hn : 0 < n) (hn' : n ≤ 9223372036854775807) :
    Calls Tryd.prog 4 #[.int .i64 c, .int .i64 n] w fun e w' => ∃ k : Nat, (k : Int) < n ∧ e = .returned (.int .i64 k) ∧ w' = w := by
  by_cases h : c < 0
  · have h1 : -((c + 1).tmod n) = (-(c + 1)) % n := by rw [← Int.neg_tmod, Int.tmod_eq_emod_of_nonneg (by omega)]
    have h2 := Int.emod_nonneg (-(c + 1)) (show n ≠ 0 by omega)
    have h3 := Int.emod_lt_of_pos (-(c + 1)) hn
    have HK : Hid (-((c + 1).tmod n) = (((-(c + 1)) % n).toNat : Int)) := by show _ = _; rw [h1]; omega
    clear h1
    go_enter Tryd.func4, Tryd.ntmps4
    go_wp2
    go_ret
    refine ⟨((-(c + 1)) % n).toNat, by omega, ?_, rfl⟩
    show Ending.returned (.int .i64 (-((c + 1).tmod n))) = _
    rw [HK.out]
  · have h2 := Int.emod_nonneg c (show n ≠ 0 by omega)
    have h3 := Int.emod_lt_of_pos c hn
    have HK : Hid (c % n = ((c % n).toNat : Int)) := by show _ = _; omega
    go_enter Tryd.func4, Tryd.ntmps4
    go_wp2
    go_ret
    refine ⟨(c % n).toNat, by omega, ?_, rfl⟩
    show Ending.returned (.int .i64 (c % n)) = _
    rw [← HK.out]

set_option maxHeartbeats 2000000 in
set_option maxRecDepth 10000 in
theorem streams_any (c : Int) (t : ByteArray) (a0 : Option Addr) (len cap : Nat) (zs : Nat → Int) (adr : Nat → Addr) (w : World) (hc : -9223372036854775808 ≤ c) (hc' : c ≤ 9223372036854775807)
    (ht : t.size ≤ maxLen) (_hl : len ≤ maxLen) (hix : ∀ i W, i < len → (Instr.indexAt 22 (.slice a0 len cap) (.int .i64 (i : Int))).run Tryd.prog W = .ok (.pointer (some (adr i))) W)
    (hcut : ∀ i, i < len → w.cell? (adr i) = some (.int .i64 (zs i))) (hz : ∀ i, i < len → -9223372036854775808 ≤ zs i ∧ zs i ≤ 9223372036854775807) (hG : Globs w) (h4 : 4 ≤ w.heap.size) :
    Calls Tryd.prog 3 #[.int .i64 c, .string t, .slice a0 len cap] w fun e w' => e = .returned (.bool true) ∧ Below w.heap.size w w' := by
  have HX : Hid (∀ i W, i < len → (Instr.indexAt 22 (.slice a0 len cap) (.int .i64 (i : Int))).run Tryd.prog W = .ok (.pointer (some (adr i))) W) := hix
  have HC : Hid (∀ i, i < len → w.cell? (adr i) = some (.int .i64 (zs i))) := hcut
  have HZ : Hid (∀ i, i < len → -9223372036854775808 ≤ zs i ∧ zs i ≤ 9223372036854775807) := hz
  clear hix hcut hz
  unfold maxLen at ht _hl
  go_enter Tryd.func3, Tryd.ntmps3
  go_wp2_with fail
  refine (pick_any c 2 _ hc hc' (by omega) (by omega)).mono ?_
  rintro e w' ⟨k0, hk0, rfl, hw⟩
  rw [hw]
  clear hw w'
  have hk1 : k0 < 2 := by omega
  have q0 : (0 : Int) ≤ (k0 : Int) := by omega
  go_wp2_with fail
  refine (newStream_any k0 hk1 _ hG h4).mono ?_
  rintro e w1 ⟨bx, hbx, rfl, hg1, hX1⟩
  go_wp2_with fail
  refine (newStream_any k0 hk1 _ (hG.grown' hg1) (Nat.le_trans h4 hg1.size)).mono ?_
  rintro e w2 ⟨bY, hbY, rfl, hg2, hY2⟩
  have hT0 := start_takes k0
  have hp0 : (startS (rateK k0) 31).spent = false := rfl
  generalize startS (rateK k0) 31 = s0 at *
  have hxy : bx < bY := Nat.lt_of_lt_of_le hX1.lt hbY
  have h4x : 4 ≤ bx := Nat.le_trans h4 hbx
  have hX2 := hX1.far' hg2 (by simp)
  have hg02 := grownBy_trans hg1 hg2
  have hG2 := (hG.grown' hg1).grown' hg2
  clear hX1 hg1 hg2
  have hy4 : 4 ≤ bY := by omega
  have hynx : bY ≠ bx := by omega
  clear hbY
  by_cases hbig : (3000 : Int) < (t.size : Int)
  · go_wp2
    go_ret
    exact ⟨rfl, below_of_grown hg02⟩
  · have hA := absorbS_takes t.data.toList hT0
    have hbd : decide ((3000 : Int) < (t.size : Int)) = false := by simpa using hbig
    have ht3 : (t.size : Int) ≤ 3000 := by omega
    clear hbig
    go_wp2_with fail
    refine (absorb_ok bx h4x t (by unfold maxLen; omega) s0 hT0 hp0 _ hX2 hG2).mono ?_
    rintro e w3 ⟨rfl, hg3, hX3⟩
    have hY3 := hY2.far hg3 hynx
    have hG3 := hG2.grown hg3 h4x
    have hg03 := grown_new hg02 hg3 hbx
    clear hX2 hg02 hG2
    go_wp2_with fail
    refine (squeeze_fresh bx h4x 700 (by omega) _ hA.1 (hA.2.2.2.trans hp0) _ hX3 hG3).mono ?_
    rintro e w4 ⟨rfl, hg4, hX4⟩
    have hY4 := hY3.far hg4 hynx
    have hG4 := hG3.grown hg4 h4x
    have hg04 := grown_new hg03 hg4 hbx
    have hV4 := sqTo_gives (finish_gives hA.1) 700
    clear hX3 hY3 hG3 hg03
    go_wp2_with fail
    refine (absorb_spent bx _ _ hV4.r0 hV4.sp _ hX4).mono ?_
    rintro e w' ⟨rfl, hw⟩
    rw [hw]
    clear hw w'
    go_wp2_with fail
    refine (told_6 _ hG4).mono ?_
    rintro e w5 ⟨rfl, hg5⟩
    have hY5 := hY4.far' hg5 (by simp)
    have hG5 := hG4.grown' hg5
    have hg05 := grownBy_trans hg04 hg5
    have HF : Hid (Gives (finishS (absorbS s0 t.data.toList))) := finish_gives hA.1
    clear hX4 hY4 hG4 hg04 hV4
    obtain ⟨F, hF⟩ : ∃ F, F = finishS (absorbS s0 t.data.toList) := ⟨_, rfl⟩
    have h700 := outStr_size F 700
    rw [← hF] at HF ⊢
    have HFE : Hid (F = finishS (absorbS s0 t.data.toList)) := hF
    clear hF
    go_wp2
    go_loopw [9, 16, 17] (fun er r i wr => ∃ (k : Nat) (rb : ByteArray) (sy : Spg), k ≤ len ∧ er = .nilIface ∧ r = .string rb ∧ i = .int .i64 k ∧ rb.size ≤ 3000 ∧ Takes sy ∧ sy.spent = false ∧ absorbS sy rb.data.toList = absorbS s0 t.data.toList ∧ w.grownBy wr none ∧ Globs wr ∧ Sp wr bY sy) (fun _ _ i _ => len - (intOf i).toNat)
    case atStart => exact ⟨0, t, s0, Nat.zero_le _, rfl, rfl, rfl, by omega, hT0, hp0, rfl, hg05, hG5, hY5⟩
    case round =>
      clear hY5 hG5 hg05 hA hT0 hp0 hY2
      obtain ⟨k, rb, sy, hk, rfl, rfl, rfl, hrb, hT, hsp, hab, hg, hGr, hY⟩ := hrel
      have HAB : Hid (absorbS sy rb.data.toList = absorbS s0 t.data.toList) := hab
      have HSP : Hid (sy.spent = false) := hsp
      clear hab hsp
      by_cases hlt : k < len ∧ k < 40
      · obtain ⟨hl1, hl2⟩ := hlt
        have l1 : (k : Int) < (len : Int) := by omega
        have l2 : (k : Int) < 40 := by omega
        have ix := fun W => HX.out k W hl1
        have cc : wr.cell? (adr k) = some (.int .i64 (zs k)) := hg.cell (HC.out k hl1) (by simp)
        have z1 := (HZ.out k hl1).1
        have z2 := (HZ.out k hl1).2
        have rb1 : (rb.size : Int) ≤ 3000 := by omega
        go_wp2_with fail
        refine (pick_any _ _ _ z1 z2 (by omega) (by omega)).mono ?_
        rintro e w' ⟨m, hm, rfl, hw⟩
        rw [hw]
        clear hw w' ix cc
        have m0 : (0 : Int) ≤ (m : Int) := by omega
        have m1 : (m : Int) ≤ (rb.size : Int) := by omega
        go_wp2_with fail
        refine (absorb_ok bY hy4 (rb.extract 0 m) (by unfold maxLen; simp; omega) sy hT HSP.out _ hY hGr).mono ?_
        rintro e w6 ⟨rfl, hg6, hY6⟩
        go_wp2
        go_roundw
        case rel =>
          have hA6 := absorbS_takes (rb.extract 0 m).data.toList hT
          refine ⟨k + 1, rb.extract m rb.size, absorbS sy (rb.extract 0 m).data.toList, by omega, rfl, rfl, by go_num, by simp; omega, hA6.1, hA6.2.2.2.trans HSP.out, ?_, grown_new hg hg6 (by omega), hGr.grown hg6 hy4, hY6⟩
          rw [← absorbS_append, cut_list]; exact HAB.out
        case measure => simp [intOf]; omega
      · have key : len = k ∨ ((k : Int) < (len : Int) ∧ decide ((k : Int) < 40) = false) := by
          by_cases h1 : k < len
          · exact Or.inr ⟨by omega, by simp; omega⟩
          · exact Or.inl (by omega)
        clear hlt hk
        rcases key with hkl | ⟨d1, d2⟩
        · subst hkl
          go_wp2_with fail
          refine (absorb_ok bY hy4 rb (by unfold maxLen; omega) sy hT HSP.out _ hY hGr).mono ?_
          rintro e w6 ⟨rfl, hg6, hY6⟩
          have hA6 := absorbS_takes rb.data.toList hT
          have hg06 := grown_new hg hg6 (by omega)
          have hG6 := hGr.grown hg6 hy4
          have hsp6 := hA6.2.2.2.trans HSP.out
          have hT6 := hA6.1
          rw [HAB.out] at hY6 hsp6 hT6
          clear hA6 hg hg6 hGr hY HAB HSP hT
          have HR0 : Hid (Ready (absorbS s0 t.data.toList) ∧ ended (absorbS s0 t.data.toList) = sqTo F 0) := ⟨Or.inl ⟨hT6, hsp6⟩, by rw [ended_fresh hsp6, HFE.out]; rfl⟩
          clear hsp6 hT6
          go_wp2
          go_loopw [19, 20] (fun g i wv => ∃ (j m : Nat) (sz : Spg), j ≤ len ∧ m ≤ 689 ∧ g = .string (outStr F m) ∧ i = .int .i64 j ∧ Hid (Ready sz ∧ ended sz = sqTo F m) ∧ w.grownBy wv none ∧ Globs wv ∧ Sp wv bY sz) (fun _ i _ => len - (intOf i).toNat)
          case atStart => exact ⟨0, 0, _, Nat.zero_le _, by omega, rfl, rfl, HR0, hg06, hG6, hY6⟩
          case round =>
            clear hY6 hG6 hg06 HR0
            obtain ⟨j, m, sz, hj, hm, rfl, rfl, HR, hg, hGr, hY⟩ := hrel
            have hom := outStr_size F m
            by_cases hlt : j < len ∧ j < 40 ∧ m < 600
            · obtain ⟨hl1, hl2, hl3⟩ := hlt
              have l1 : (j : Int) < (len : Int) := by omega
              have l2 : (j : Int) < 40 := by omega
              have l3 : (m : Int) < 600 := by omega
              have ix := fun W => HX.out j W hl1
              have cc : wr.cell? (adr j) = some (.int .i64 (zs j)) := hg.cell (HC.out j hl1) (by simp)
              have z1 := (HZ.out j hl1).1
              have z2 := (HZ.out j hl1).2
              go_wp2_with fail
              refine (pick_any _ _ _ z1 z2 (by omega) (by omega)).mono ?_
              rintro e w' ⟨n, hn, rfl, hw⟩
              rw [hw]
              clear hw w' ix cc
              go_wp2_with fail
              refine (squeeze_any bY hy4 n (by omega) sz HR.out.1 _ hY hGr).mono ?_
              rw [HR.out.2]
              rintro e w7 ⟨rfl, hg7, hY7⟩
              have hon := outStr_size (sqTo F m) n
              go_wp2
              go_roundw
              case rel =>
                have hV7 : Gives (sqTo (sqTo F m) n) := by rw [← sqTo_add]; exact sqTo_gives HF.out (m + n)
                exact ⟨j + 1, m + n, sqTo (sqTo F m) n, by omega, by omega, by rw [outStr_add], by go_num, ⟨Or.inr hV7, by rw [ended_of_gives hV7, sqTo_add]⟩, grown_new hg hg7 (by omega), hGr.grown hg7 hy4, hY7⟩
              case measure => simp [intOf]; omega
            · have key : len = j ∨ ((j : Int) < (len : Int) ∧ decide ((j : Int) < 40) = false) ∨ ((j : Int) < (len : Int) ∧ (j : Int) < 40 ∧ decide ((m : Int) < 600) = false) := by
                by_cases h1 : j < len
                · by_cases h2 : j < 40
                  · exact Or.inr (Or.inr ⟨by omega, by omega, by simp; omega⟩)
                  · exact Or.inr (Or.inl ⟨by omega, by simp; omega⟩)
                · exact Or.inl (by omega)
              have hpre := outStr_prefix F m 700 (by omega)
              have m0 : (0 : Int) ≤ (m : Int) := by omega
              have m7 : (m : Int) ≤ 700 := by omega
              clear hlt hj hm
              rcases key with hjl | ⟨d3, d4⟩ | ⟨d3, d4, d5⟩
              · subst hjl
                go_wp2
                go_ret
                exact ⟨rfl, below_of_grown hg⟩
              · go_wp2
                go_ret
                exact ⟨rfl, below_of_grown hg⟩
              · go_wp2
                go_ret
                exact ⟨rfl, below_of_grown hg⟩
        · go_wp2_with fail
          refine (absorb_ok bY hy4 rb (by unfold maxLen; omega) sy hT HSP.out _ hY hGr).mono ?_
          rintro e w6 ⟨rfl, hg6, hY6⟩
          have hA6 := absorbS_takes rb.data.toList hT
          have hg06 := grown_new hg hg6 (by omega)
          have hG6 := hGr.grown hg6 hy4
          have hsp6 := hA6.2.2.2.trans HSP.out
          have hT6 := hA6.1
          rw [HAB.out] at hY6 hsp6 hT6
          clear hA6 hg hg6 hGr hY HAB HSP hT
          have HR0 : Hid (Ready (absorbS s0 t.data.toList) ∧ ended (absorbS s0 t.data.toList) = sqTo F 0) := ⟨Or.inl ⟨hT6, hsp6⟩, by rw [ended_fresh hsp6, HFE.out]; rfl⟩
          clear hsp6 hT6
          go_wp2
          go_loopw [19, 20] (fun g i wv => ∃ (j m : Nat) (sz : Spg), j ≤ len ∧ m ≤ 689 ∧ g = .string (outStr F m) ∧ i = .int .i64 j ∧ Hid (Ready sz ∧ ended sz = sqTo F m) ∧ w.grownBy wv none ∧ Globs wv ∧ Sp wv bY sz) (fun _ i _ => len - (intOf i).toNat)
          case atStart => exact ⟨0, 0, _, Nat.zero_le _, by omega, rfl, rfl, HR0, hg06, hG6, hY6⟩
          case round =>
            clear hY6 hG6 hg06 HR0
            obtain ⟨j, m, sz, hj, hm, rfl, rfl, HR, hg, hGr, hY⟩ := hrel
            have hom := outStr_size F m
            by_cases hlt : j < len ∧ j < 40 ∧ m < 600
            · obtain ⟨hl1, hl2, hl3⟩ := hlt
              have l1 : (j : Int) < (len : Int) := by omega
              have l2 : (j : Int) < 40 := by omega
              have l3 : (m : Int) < 600 := by omega
              have ix := fun W => HX.out j W hl1
              have cc : wr.cell? (adr j) = some (.int .i64 (zs j)) := hg.cell (HC.out j hl1) (by simp)
              have z1 := (HZ.out j hl1).1
              have z2 := (HZ.out j hl1).2
              go_wp2_with fail
              refine (pick_any _ _ _ z1 z2 (by omega) (by omega)).mono ?_
              rintro e w' ⟨n, hn, rfl, hw⟩
              rw [hw]
              clear hw w' ix cc
              go_wp2_with fail
              refine (squeeze_any bY hy4 n (by omega) sz HR.out.1 _ hY hGr).mono ?_
              rw [HR.out.2]
              rintro e w7 ⟨rfl, hg7, hY7⟩
              have hon := outStr_size (sqTo F m) n
              go_wp2
              go_roundw
              case rel =>
                have hV7 : Gives (sqTo (sqTo F m) n) := by rw [← sqTo_add]; exact sqTo_gives HF.out (m + n)
                exact ⟨j + 1, m + n, sqTo (sqTo F m) n, by omega, by omega, by rw [outStr_add], by go_num, ⟨Or.inr hV7, by rw [ended_of_gives hV7, sqTo_add]⟩, grown_new hg hg7 (by omega), hGr.grown hg7 hy4, hY7⟩
              case measure => simp [intOf]; omega
            · have key : len = j ∨ ((j : Int) < (len : Int) ∧ decide ((j : Int) < 40) = false) ∨ ((j : Int) < (len : Int) ∧ (j : Int) < 40 ∧ decide ((m : Int) < 600) = false) := by
                by_cases h1 : j < len
                · by_cases h2 : j < 40
                  · exact Or.inr (Or.inr ⟨by omega, by omega, by simp; omega⟩)
                  · exact Or.inr (Or.inl ⟨by omega, by simp; omega⟩)
                · exact Or.inl (by omega)
              have hpre := outStr_prefix F m 700 (by omega)
              have m0 : (0 : Int) ≤ (m : Int) := by omega
              have m7 : (m : Int) ≤ 700 := by omega
              clear hlt hj hm
              rcases key with hjl | ⟨d3, d4⟩ | ⟨d3, d4, d5⟩
              · subst hjl
                go_wp2
                go_ret
                exact ⟨rfl, below_of_grown hg⟩
              · go_wp2
                go_ret
                exact ⟨rfl, below_of_grown hg⟩
              · go_wp2
                go_ret
                exact ⟨rfl, below_of_grown hg⟩
end Go.Proofs.YtkijpphmiogbbaaDoor
