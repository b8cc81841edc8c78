import Derived.Test.YtkijpphmiogbbaaGreatDoorH48
namespace Go.Proofs.YtkijpphmiogbbaaGreatDoor.Z
open Go.RowKit
attribute [local go_sem ↓] Go.wp_at_zero Go.wp_at_succ
variable {B c : Nat} {w0 w : World}

theorem Tryz.uStr : Tryz.prog.underlying 32 = some (.slice 46) := by kernel_rfl
theorem Tryz.iPtr : (Tryz.prog.info? 46).map (fun i => (i.zero, i.size, i.bytes)) = some (some (.pointer none), 1, 8) := by kernel_rfl
theorem ptrs_len (m : Nat) (rs : Nat → St) : (ptrs m rs).length = m := by simp [ptrs]
theorem ptrs_at (m : Nat) (rs : Nat → St) (k : Nat) (h : k < m) : (ptrs m rs)[k]? = some (.pointer (some ⟨(rs k).p, 0, none⟩)) := by
  unfold ptrs; rw [List.getElem?_map, List.getElem?_range h]; rfl
set_option maxHeartbeats 4000000 in
set_option maxRecDepth 20000 in
theorem hash_8 (hG0 : Globs w0) (hB : 4 ≤ B) (hc : c ≤ 40000) (o : OpV) (ho : OpOK o) (hk : Hid (o.kind = 8)) (h : SW (XH B w0) B c w) :
    Calls Tryz.prog 16 #[.pointer (some ⟨B, 0, none⟩), opVal o] w fun e w' => e = .returned (.bool true) ∧ SW (XH B w0) B (c + 1) w' := by
  have hX := XH_local B w0
  have k8 : (o.kind == 8) = true := by rw [hk.out]; rfl
  go_enter Tryz.func16, Tryz.ntmps16
  go_wp2_with fail
  obtain ⟨vT, vP, vS, ts, nP, ps, Φ, h⟩ := h
  have hO := opAt_new w o
  have h1 : SWd (XH B w0) B c vT vP vS ts nP ps Φ (opBox w o) := h.keep hX (World.grownBy_alloc w _ none)
  have hG1 : Globs (opBox w o) := Globs_low hG0 hB (SW_low ⟨_, _, _, _, _, _, _, h1⟩)
  have hs1 : 4 ≤ (opBox w o).heap.size := by have := h1.Blt; omega
  refine (text_any hc _ ho.x h1).mono ?_
  rintro e w1 ⟨t, rfl, ht, hg1⟩
  have h2 := h1.keep hX hg1
  have hO1 := hO.far hg1 (by simp)
  have hG2 := hG1.new hg1
  have hs2 := Nat.le_trans hs1 hg1.size
  generalize w.heap.size = b at *
  have q5 := hO1.a
  clear h h1 hO hg1 hG1 hs1
  go_wp2_with fail
  refine (summed_any _ t ht _ hG2 hs2).mono ?_
  rintro e w2 ⟨rfl, hg2⟩
  clear q5
  go_wp2
  go_ret
  exact ⟨rfl, SW.more hX ⟨_, _, _, _, _, _, _, h2.keep hX hg2⟩ (Nat.le_succ c)⟩
set_option maxHeartbeats 4000000 in
set_option maxRecDepth 20000 in
theorem hash_9n (hG0 : Globs w0) (hB : 4 ≤ B) (_hc : c ≤ 40000) (o : OpV) (_ho : OpOK o) (hk : Hid (o.kind = 9)) (b1 : (o.a != 128) = true) (b2 : (o.a != 256) = true) (h : SW (XH B w0) B c w) :
    Calls Tryz.prog 16 #[.pointer (some ⟨B, 0, none⟩), opVal o] w fun e w' => e = .returned (.bool true) ∧ SW (XH B w0) B (c + 1) w' := by
  have hX := XH_local B w0
  have k8 : (o.kind == 8) = false := by rw [hk.out]; rfl
  have k9 : (o.kind == 9) = true := by rw [hk.out]; rfl
  go_enter Tryz.func16, Tryz.ntmps16
  go_wp2_with fail
  obtain ⟨vT, vP, vS, ts, nP, ps, Φ, h⟩ := h
  have hO := opAt_new w o
  have h1 : SWd (XH B w0) B c vT vP vS ts nP ps Φ (opBox w o) := h.keep hX (World.grownBy_alloc w _ none)
  have hG1 : Globs (opBox w o) := Globs_low hG0 hB (SW_low ⟨_, _, _, _, _, _, _, h1⟩)
  have hs1 : 4 ≤ (opBox w o).heap.size := by have := h1.Blt; omega
  refine (opened_none o.a _ hG1 b1 b2).mono ?_
  rintro e w1 ⟨rfl, hg1⟩
  have h2 := h1.keep hX hg1
  clear h h1 hO hG1 hs1
  go_wp2
  go_ret
  exact ⟨rfl, SW.more hX ⟨_, _, _, _, _, _, _, h2⟩ (Nat.le_succ c)⟩
set_option maxHeartbeats 4000000 in
set_option maxRecDepth 20000 in
theorem hash_9 (hG0 : Globs w0) (hB : 4 ≤ B) (hc : c ≤ 40000) (o : OpV) (_ho : OpOK o) (hk : Hid (o.kind = 9)) (hop : ∀ W, Globs W → 4 ≤ W.heap.size → Calls Tryz.prog 25 #[.int .i64 o.a] W fun e w' => ∃ r : St, e = .returned (.tuple #[.pointer (some ⟨r.p, 0, none⟩), .bool true]) ∧ W.grownBy w' none ∧ StAt w' r ∧ W.heap.size ≤ r.p ∧ W.heap.size ≤ r.b ∧ r.s.size = 0 ∧ r.a = 0) (h : SW (XH B w0) B c w) :
    Calls Tryz.prog 16 #[.pointer (some ⟨B, 0, none⟩), opVal o] w fun e w' => e = .returned (.bool true) ∧ SW (XH B w0) B (c + 1) w' := by
  have hX := XH_local B w0
  have k8 : (o.kind == 8) = false := by rw [hk.out]; rfl
  have k9 : (o.kind == 9) = true := by rw [hk.out]; rfl
  have HOP : Hid (∀ W, Globs W → 4 ≤ W.heap.size → Calls Tryz.prog 25 #[.int .i64 o.a] W fun e w' => ∃ r : St, e = .returned (.tuple #[.pointer (some ⟨r.p, 0, none⟩), .bool true]) ∧ W.grownBy w' none ∧ StAt w' r ∧ W.heap.size ≤ r.p ∧ W.heap.size ≤ r.b ∧ r.s.size = 0 ∧ r.a = 0) := hop
  clear hop
  go_enter Tryz.func16, Tryz.ntmps16
  go_wp2_with fail
  obtain ⟨vT, vP, vS, ts, nP, ps, Φ, h⟩ := h
  have hO := opAt_new w o
  have h1 : SWd (XH B w0) B c vT vP vS ts nP ps Φ (opBox w o) := h.keep hX (World.grownBy_alloc w _ none)
  have hG1 : Globs (opBox w o) := Globs_low hG0 hB (SW_low ⟨_, _, _, _, _, _, _, h1⟩)
  have hs1 : 4 ≤ (opBox w o).heap.size := by have := h1.Blt; omega
  refine (HOP.out _ hG1 hs1).mono ?_
  rintro e w1 ⟨r, rfl, hg1, hr, hp, hb, hrs, hra⟩
  obtain ⟨_, m, rs, hx⟩ := h1.side
  have h2 := h1.keep hX hg1
  have hx1 : XHd B w0 c vS.s Φ w1 m rs := hx.loc hg1.os hg1.tape hg1.output hg1.size (fun k hk => hg1.block k (h1.lt k hk) (by simp))
  obtain ⟨i0, hi, hz0, hz1, hz2⟩ := info_of Tryz.iPtr
  simp only at hz0 hz1 hz2
  have HI : Hid (Tryz.prog.info? 46 = some i0) := hi
  have HO : Hid (w1.ownsRow 0 46 1 vS.s m (ptrs m rs)) := hx1.own
  have HH : Hid (∀ v' w3, w3.ownsRow 0 46 1 v' (m + 1) (ptrs m rs ++ [.pointer (some ⟨r.p, 0, none⟩)]) → (w1.alloc (.cells #[.pointer (some ⟨r.p, 0, none⟩)] 46)).grownBy w3 vS.s.ownBlock → (v'.ownBlock = vS.s.ownBlock ∨ v'.ownBlock = some (w1.heap.size + 1)) → SW (XH B w0) B (c + 1) (w3.setCell ⟨B, 2, none⟩ v') ∧ w3.cell? ⟨B, 2, none⟩ = some vS.s ∧ w3.frozen? ⟨B, 2, none⟩ = false) := fun v' w3 g1 g2 g3 => by
    have h3 := h2.keep hX (World.grownBy_alloc w1 (.cells #[.pointer (some ⟨r.p, 0, none⟩)] 46) none)
    have hSB : vS.s.ownBlock ≠ some B := own_ne hx1.own h2.blk (by decide)
    refine ⟨SW_more h1 hx hr hg1 hp hb hrs hra (World.grownBy_alloc w1 _ none) g1 g2 (by simpa using g3), g2.cell h3.c2 (Ne.symm hSB), ?_⟩
    rw [g2.frozen_far ⟨B, 2, none⟩ h3.Blt (Ne.symm hSB)]; exact h3.fz 2
  have c2 := h2.c2
  have hmc := hx.mc
  clear h h1 h2 hx hx1 hO hG1 hs1 hi hr hg1 hp hb hrs hra
  go_wp2_with (first | (at_builtin; refine wpList_append_own_at _ rfl _ _ 32 rfl 0 46 i0 _ 1 8 Tryz.uStr HI.out hz0 hz1 hz2 rfl (by decide) vS.s m (ptrs m rs) rfl (HO.out.alloc _) ⟨_, 0, none⟩ 1 1 [.pointer (some ⟨r.p, 0, none⟩)] rfl rfl ?c1 ?c2 ?c3 ?c4 ?c5 ?_))
  case c1 =>
    intro j u hj
    match j, hj with
    | 0, hj => simp at hj; subst hj; simp [Addr.add]
  case c2 => intro u hu; simp at hu; subst hu; rfl
  case c3 => unfold maxLen; omega
  case c4 => omega
  case c5 => exact Nat.zero_le _
  intro v' w3 go hg3 _ hbk
  obtain ⟨g9, cap9, hv9⟩ := ownsRow_succ go
  obtain ⟨hfin, d2, df⟩ := HH.out v' w3 go hg3 hbk
  subst hv9
  have HF : Hid (SW (XH B w0) B (c + 1) (w3.setCell ⟨B, 2, none⟩ (.slice (some ⟨g9, 0, none⟩) (m + 1) cap9))) := hfin
  clear go hg3 hbk hfin c2 HO HI HH
  go_wp2
  go_ret
  exact ⟨rfl, HF.out⟩
set_option maxHeartbeats 4000000 in
set_option maxRecDepth 20000 in
theorem hash_st (hG0 : Globs w0) (hB : 4 ≤ B) (hc : c ≤ 40000) (o : OpV) (ho : OpOK o) (hk : Hid (o.kind = 10 ∨ o.kind = 11)) (h : SW (XH B w0) B c w) :
    Calls Tryz.prog 16 #[.pointer (some ⟨B, 0, none⟩), opVal o] w fun e w' => e = .returned (.bool true) ∧ SW (XH B w0) B (c + 1) w' := by
  have hX := XH_local B w0
  have k8 : (o.kind == 8) = false := by rcases hk.out with e | e <;> rw [e] <;> rfl
  have k9 : (o.kind == 9) = false := by rcases hk.out with e | e <;> rw [e] <;> rfl
  obtain ⟨vT, vP, vS, ts, nP, ps, Φ, h⟩ := h
  have hO := opAt_new w o
  have h1 : SWd (XH B w0) B c vT vP vS ts nP ps Φ (opBox w o) := h.keep hX (World.grownBy_alloc w _ none)
  have hG1 : Globs (opBox w o) := Globs_low hG0 hB (SW_low ⟨_, _, _, _, _, _, _, h1⟩)
  have hs1 : 4 ≤ (opBox w o).heap.size := by have := h1.Blt; omega
  obtain ⟨_, m, rs, hx⟩ := h1.side
  have c2 := h1.c2
  have hmc := hx.mc
  rcases own_forms hx.own with ⟨hv, hm0, _⟩ | ⟨g, cap, hv, hcell⟩
  · rw [hv] at c2
    have HH : Hid (SW (XH B w0) B (c + 1) (opBox w o)) := SW.more hX ⟨_, _, _, _, _, _, _, h1⟩ (Nat.le_succ c)
    clear h h1 hx hO hG1 hs1
    go_enter Tryz.func16, Tryz.ntmps16
    go_wp2
    go_ret
    exact ⟨rfl, HH.out⟩
  · rw [hv] at c2
    by_cases hz : m = 0
    · rw [hz] at c2
      have HH : Hid (SW (XH B w0) B (c + 1) (opBox w o)) := SW.more hX ⟨_, _, _, _, _, _, _, h1⟩ (Nat.le_succ c)
      clear h h1 hx hO hG1 hs1 hcell
      go_enter Tryz.func16, Tryz.ntmps16
      go_wp2
      go_ret
      exact ⟨rfl, HH.out⟩
    · have HS : Hid (∀ k : Nat, (k : Int) < (m : Int) → (opBox w o).cell? ⟨g, k, none⟩ = some (.pointer (some ⟨(rs k).p, 0, none⟩))) := fun k hk => hcell k _ (ptrs_at m rs k (by omega))
      have HA : Hid (XHd B w0 c vS.s Φ (opBox w o) m rs) := hx
      have HB : Hid (SWd (XH B w0) B c vT vP vS ts nP ps Φ (opBox w o)) := h1
      have HG : Hid (Globs (opBox w o)) := hG1
      have HO : Hid (OpAt (opBox w o) w.heap.size o) := hO
      have m0 : (0 : Int) < (m : Int) := by omega
      have m1 : (m : Int) ≤ 9223372036854775807 := by omega
      have nz : ((m : Int) == 0) = false := by simp; omega
      clear h h1 hx hO hG1 hs1 hcell hz
      go_enter Tryz.func16, Tryz.ntmps16
      go_wp2
      go_region_with (first | (go_at_call 22; refine (pick_any _ _ _ ho.x m0 m1).mono ?_; rintro e w' ⟨k, hkm, rfl, rfl⟩; have hcl := HS.out k hkm; have k0 : (0 : Int) ≤ (k : Int) := Int.natCast_nonneg k))
      all_goals
        have hg9 : (opBox w o).grownBy (opBox w o).drew none := grown_drew (World.grownBy.refl _ _)
        have hB9 := HB.out.keep hX hg9
        have hA9 : XHd B w0 c vS.s Φ (opBox w o).drew m rs := HA.out.loc rfl rfl rfl (Nat.le_refl _) (fun _ _ => rfl)
        have hG9 : Globs (opBox w o).drew := HG.out.new hg9
        have hO9 : OpAt (opBox w o).drew w.heap.size o := HO.out.far hg9 (by simp)
        generalize (opBox w o).drew = W9 at *
        generalize w.heap.size = b at *
        have hst := hA9.st k (by omega)
        have hss : (rs k).s.size ≤ 1000000000 := by have := hst.s; omega
        have hsa : (rs k).a ≤ 1000000000 := by have := hst.a; omega
        have HQ : Hid (Calls Tryz.prog 26 #[.pointer (some ⟨(rs k).p, 0, none⟩), .int .i64 o.a] W9 fun e w' => e = .returned (.bool true) ∧ ∃ r', Did 20000 (rs k) r' W9 w') := by
          by_cases hbad : o.a < 0 ∨ 10000 < o.a
          · exact squeezed_bad (rs k) o.a hbad W9 hst.at' hG9
          · have e1 : o.a = ((o.a.toNat : Nat) : Int) := by omega
            rw [e1]
            exact squeezed_ok (rs k) o.a.toNat (by omega) hss hsa W9 hst.at' hG9
        have q0 := hO9.kind
        have q2 := hO9.y
        have q5 := hO9.a
        clear c2 hcl HS hg9 HA HB HG HO hv
        rcases hk.out with ek | ek
        · rw [ek] at q0
          go_wp2_with fail
          refine (text_any hc _ ho.y hB9).mono ?_
          rintro e w2 ⟨t, rfl, ht, hg2⟩
          have hB10 := hB9.keep hX hg2
          have hA10 : XHd B w0 c vS.s Φ w2 m rs := hA9.loc hg2.os hg2.tape hg2.output hg2.size (fun k hk => hg2.block k (hB9.lt k hk) (by simp))
          have hG10 := hG9.new hg2
          have HD : Hid (Calls Tryz.prog 27 #[.pointer (some ⟨(rs k).p, 0, none⟩), .string t] w2 fun e w' => e = .returned (.bool true) ∧ ∃ r', Did 20000 (rs k) r' w2 w') := absorbed_any (rs k) t ht hss w2 (hA10.st k (by omega)).at' hG10
          clear q0 q2 q5 hB9 hA9 hG9 hst HQ hO9
          go_wp2_with fail
          refine HD.out.mono ?_
          rintro e w3 ⟨rfl, r', hd⟩
          have HF : Hid (SW (XH B w0) B (c + 1) w3) := SW_did hB10 hA10 (by omega) hd
          clear hB10 hA10 hG10 hd HD hg2
          go_wp2
          go_ret
          exact ⟨rfl, HF.out⟩
        · rw [ek] at q0
          go_wp2_with fail
          refine HQ.out.mono ?_
          rintro e w3 ⟨rfl, r', hd⟩
          have HF : Hid (SW (XH B w0) B (c + 1) w3) := SW_did hB9 hA9 (by omega) hd
          clear q0 q2 q5 hB9 hA9 hG9 hst HQ hO9 hd
          go_wp2
          go_ret
          exact ⟨rfl, HF.out⟩
end Go.Proofs.YtkijpphmiogbbaaGreatDoor.Z
