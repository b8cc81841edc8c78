import Derived.Test.YtikcbdpijjafjaaGreatDoorK17
namespace Go.Proofs.YtikcbdpijjafjaaGreatDoor
open Go.RowKit
attribute [local go_sem ↓] Go.wp_at_zero Go.wp_at_succ

theorem Tryz.uP : Tryz.prog.underlying 71 = some (.array 256 3) := by kernel_rfl
theorem Tryz.sP : (Tryz.prog.info? 71).map (·.size) = some 256 := by kernel_rfl
theorem Tryz.zP : (Tryz.prog.info? 71).map (·.zero) = some (some (.agg (polyA .i64 (fun _ => 0)))) := by kernel_rfl

theorem Tryz.z24 : Tryz.zeroCells71 = polyA .i64 (fun _ => 0) := by kernel_rfl
theorem run_loadRow {P : Program} (k : IntKind) (w : World) (ty : TypeId) (b f : Nat) (L : Nat → Int) (hr : PRow k w b f L)
    (hu : ∃ e, P.underlying ty = some (.array 256 e)) (hi : (P.info? ty).map (·.size) = some 256) :
    (loadVar ty ⟨b, f, none⟩).run P w = .ok (.agg (polyA k L)) w := by
  obtain ⟨_, hu⟩ := hu; exact run_loadVar_mid w b f ty (polyL k L) _ hr.range hu rfl (by rw [polyL_len]; exact hi)
theorem run_index_poly {P : Program} {ty e : TypeId} (k : IntKind) (L : Nat → Int) (i : Nat) (hi : i < 256) (W : World) (hu : P.underlying ty = some (.array 256 e)) (hs : (P.info? e).map (·.size) = some 1) (he : (P.underlying e).map (fun d => match d with | .struct _ | .array _ _ => true | _ => false) = some false) :
    (Instr.index ty (.agg (polyA k L)) (.int .i64 (i : Int))).run P W = .ok (.int k (L i)) W := by
  have h0 : (0 : Int) ≤ (i : Int) ∧ (i : Int) < ((256 : Nat) : Int) := by omega
  cases hq : P.info? e with
  | none => simp [hq] at hs
  | some f =>
    have hs' : f.size = 1 := by simpa [hq] using hs
    cases hd : P.underlying e with
    | none => simp [hd] at he
    | some d =>
      have hagg : (isAgg e).run P W = .ok false W := by
        unfold isAgg
        rw [Sem.run_bind, run_underlying hd W]
        cases d <;> simp_all
      have hp : (polyA k L)[i]? = some (.int k (L i)) := polyA_at k L i hi
      unfold Instr.index
      simp [Sem.run_bind, asIntOf, run_underlying hu W, h0, sizeOf, typeInfo, hq, hs', part, hagg, hp]
      intro h; omega
theorem ixP (L : Nat → Int) (i : Nat) (hi : i < 256) (W : World) : (Instr.index 71 (.agg (polyA .i64 L)) (.int .i64 (i : Int))).run Tryz.prog W = .ok (.int .i64 (L i)) W :=
  run_index_poly (e := 3) .i64 L i hi W Tryz.uP (by kernel_rfl) (by kernel_rfl)
theorem res1 {P : Program} {fn : Func} {p : Tmp} {ty : TypeId} (h : fn.results = #[.cell p ty]) (k : IntKind) (tmps : Array Value) (w : World) (g : Nat) (L : Nat → Int)
    (hp : tmps.getD p undef = .pointer (some ⟨g, 0, none⟩)) (hr : PRow k w g 0 L)
    (hu : ∃ e, P.underlying ty = some (.array 256 e)) (hi : (P.info? ty).map (·.size) = some 256) :
    (results fn tmps).run P w = .ok (.agg (polyA k L)) w := by
  have hp' : tmps[p]?.getD undef = .pointer (some ⟨g, 0, none⟩) := by simpa using hp
  simp [results, h, hp', asAddr, run_loadRow k w ty g 0 L hr hu hi]
theorem res2 {P : Program} {fn : Func} {p s : Tmp} {ty : TypeId} (h : fn.results = #[.cell p ty, .tmp s]) (k : IntKind) (tmps : Array Value) (w : World) (g : Nat) (L : Nat → Int) (v : Value)
    (hp : tmps.getD p undef = .pointer (some ⟨g, 0, none⟩)) (hs : tmps.getD s undef = v) (hr : PRow k w g 0 L)
    (hu : ∃ e, P.underlying ty = some (.array 256 e)) (hi : (P.info? ty).map (·.size) = some 256) :
    (results fn tmps).run P w = .ok (.tuple #[.agg (polyA k L), v]) w := by
  have hp' : tmps[p]?.getD undef = .pointer (some ⟨g, 0, none⟩) := by simpa using hp
  have hs' : tmps[s]?.getD undef = v := by simpa using hs
  simp [results, h, hp', hs', asAddr, run_loadRow k w ty g 0 L hr hu hi]

theorem mix_step (M L : Nat → Int) (k : Nat) (j : Nat) : upd (fun j => if j < k then M j else L j) k (M k) j = if j < k + 1 then M j else L j := by
  unfold upd
  by_cases e : j = k
  · subst e; simp
  · simp only [if_neg e]
    by_cases h : j < k
    · rw [if_pos h, if_pos (by omega)]
    · rw [if_neg h, if_neg (by omega)]
end Go.Proofs.YtikcbdpijjafjaaGreatDoor

namespace Go.Proofs.YtikcbdpijjafjaaGreatDoor
open Go.RowKit
attribute [local go_sem ↓] Go.wp_at_zero Go.wp_at_succ

theorem Tryz.uQ16 : Tryz.prog.underlying 160 = some (.array 256 154) := by kernel_rfl
theorem Tryz.oQ16 : ∃ e, Tryz.prog.underlying 160 = some (.array 256 e) := ⟨_, Tryz.uQ16⟩
theorem Tryz.sQ16 : (Tryz.prog.info? 160).map (·.size) = some 256 := by kernel_rfl
theorem Tryz.zQ16 : Tryz.zeroCells160 = polyA .u16 (fun _ => 0) := by kernel_rfl
theorem ix16 (L : Nat → Int) (i : Nat) (hi : i < 256) (W : World) : (Instr.index 160 (.agg (polyA .u16 L)) (.int .i64 (i : Int))).run Tryz.prog W = .ok (.int .u16 (L i)) W :=
  run_index_poly (e := 154) .u16 L i hi W Tryz.uQ16 (by kernel_rfl) (by kernel_rfl)

set_option maxHeartbeats 1000000 in
set_option maxRecDepth 20000 in
theorem narrow16_ok (L : Nat → Int) (n : Int) (w : World) (hL : ∀ i, i < 256 → 0 ≤ L i ∧ L i < n) (hn' : n ≤ 65536) :
    Calls Tryz.prog 275 #[.agg (polyA .i64 L), .int .i64 n] w fun e w' => e = .returned (.tuple #[.agg (polyA .u16 L), .nilIface]) ∧ w.grownBy w' none := by
  have HL : Hid (∀ i, i < 256 → 0 ≤ L i ∧ L i < n) := hL
  clear hL
  go_enter Tryz.func275, Tryz.ntmps275
  have n1 := new_alloc .i64 w L 71
  go_wp2_with (first | (refine wpL_load rfl .i64 71 _ rfl w.heap.size 0 rfl L (((n1.r).new (World.grownBy_alloc _ _ none)).new (World.grownBy_alloc _ _ none)) ⟨_, Tryz.uP⟩ Tryz.sP ?_))
  have n2 := new_alloc .u16 (w.alloc (.cells (polyA .i64 L) 71)) (fun _ => 0) 160
  rw [← Tryz.zQ16] at n2
  have n3 := new_alloc .u16 ((w.alloc (.cells (polyA .i64 L) 71)).alloc (.cells Tryz.zeroCells160 160)) (fun _ => 0) 160
  rw [← Tryz.zQ16] at n3
  generalize ((w.alloc (.cells (polyA .i64 L) 71)).alloc (.cells Tryz.zeroCells160 160)).alloc (.cells Tryz.zeroCells160 160) = w3 at *
  generalize (w.alloc (.cells (polyA .i64 L) 71)).alloc (.cells Tryz.zeroCells160 160) = w2 at *
  have hA : PRow .u16 w3 (w.heap.size + 1) 0 (fun _ => 0) := by have := n2.r.new n3.g; rw [n1.s] at this; exact this
  have hR : PRow .u16 w3 (w.heap.size + 2) 0 (fun _ => 0) := by have := n3.r; rw [n2.s, n1.s] at this; exact this
  have hg : w.grownBy w3 none := grownBy_trans n1.g (grownBy_trans n2.g n3.g)
  clear n1 n2 n3
  obtain ⟨B, hB⟩ : ∃ B, B = w.heap.size := ⟨_, rfl⟩
  rw [← hB] at hA hR ⊢
  have hB' : w.heap.size ≤ B := by omega
  clear hB
  go_loopw [7, 8, 10] (fun _ _ i wr => ∃ k : Nat, k ≤ 256 ∧ i = .int .i64 k ∧ w.grownBy wr none ∧ PRow .u16 wr (B + 1) 0 (fun _ => 0) ∧ PRow .u16 wr (B + 2) 0 (fun j => if j < k then L j else 0)) (fun _ _ i _ => 256 - (intOf i).toNat)
  case atStart => exact ⟨0, by omega, rfl, hg, hA, hR.ext (fun j _ => by simp)⟩
  case round =>
    clear hA hR hg
    obtain ⟨k, hk, rfl, hg, hA, hR⟩ := hrel
    by_cases hlt : k < 256
    · have b0 : (0 : Int) ≤ (k : Int) := by omega
      have b1 : (k : Int) < 256 := by omega
      have l0 := (HL.out k hlt).1
      have l1 := (HL.out k hlt).2
      have l2 : decide (L k < 0) = false := by simp; omega
      have l3 : decide (n ≤ L k) = false := by simp; omega
      have ix := fun W => ixP L k hlt W
      have cv : IntKind.u16.wrap (L k) = L k := by rw [IntKind.wrap_u16]; omega
      have cc := (hR.at0 k hlt).1
      have ff := (hR.at0 k hlt).2
      go_wp2
      go_roundw
      case rel =>
        refine ⟨k + 1, by omega, by go_num, grown_setNew hg (by simp; omega) _, hA.set_other (by simp) _, (hR.set0 hlt _).ext (fun j _ => mix_step _ _ k j)⟩
      case measure => simp [intOf]; omega
    · have hk6 : k = 256 := by omega
      subst hk6
      have hR' : PRow .u16 wr (B + 2) 0 L := hR.ext (fun j hj => by simp [hj])
      clear hR
      go_wp2_with (first | (refine wpL_load rfl .u16 160 _ rfl (B + 2) 0 rfl L hR' Tryz.oQ16 Tryz.sQ16 ?_) | (refine wpL_store rfl .u16 160 _ _ rfl (B + 1) 0 rfl L rfl .u16 _ hA Tryz.sQ16 ?_; intro w4 p4))
      refine bodyPost_ret (res2 rfl .u16 _ w4 (B + 1) L _ rfl rfl p4.r Tryz.oQ16 Tryz.sQ16) rfl ⟨rfl, grown_new hg p4.g (by omega)⟩

set_option maxHeartbeats 1000000 in
set_option maxRecDepth 20000 in
theorem wide16_any (L : Nat → Int) (w : World) (hL : ∀ i, i < 256 → 0 ≤ L i ∧ L i < 65536) :
    Calls Tryz.prog 191 #[.agg (polyA .u16 L)] w fun e w' => e = .returned (.agg (polyA .i64 L)) ∧ w.grownBy w' none := by
  have HL : Hid (∀ i, i < 256 → 0 ≤ L i ∧ L i < 65536) := hL
  clear hL
  go_enter Tryz.func191, Tryz.ntmps191
  have n1 := new_alloc .u16 w L 160
  go_wp2_with (first | (refine wpL_load rfl .u16 160 _ rfl w.heap.size 0 rfl L (((n1.r).new (World.grownBy_alloc _ _ none)).new (World.grownBy_alloc _ _ none)) Tryz.oQ16 Tryz.sQ16 ?_))
  have n2 := new_alloc .i64 (w.alloc (.cells (polyA .u16 L) 160)) (fun _ => 0) 71
  rw [← Tryz.z24] at n2
  have n3 := new_alloc .i64 ((w.alloc (.cells (polyA .u16 L) 160)).alloc (.cells Tryz.zeroCells71 71)) (fun _ => 0) 71
  rw [← Tryz.z24] at n3
  generalize ((w.alloc (.cells (polyA .u16 L) 160)).alloc (.cells Tryz.zeroCells71 71)).alloc (.cells Tryz.zeroCells71 71) = w3 at *
  generalize (w.alloc (.cells (polyA .u16 L) 160)).alloc (.cells Tryz.zeroCells71 71) = w2 at *
  have hA : PRow .i64 w3 (w.heap.size + 1) 0 (fun _ => 0) := by have := n2.r.new n3.g; rw [n1.s] at this; exact this
  have hR : PRow .i64 w3 (w.heap.size + 2) 0 (fun _ => 0) := by have := n3.r; rw [n2.s, n1.s] at this; exact this
  have hg : w.grownBy w3 none := grownBy_trans n1.g (grownBy_trans n2.g n3.g)
  clear n1 n2 n3
  obtain ⟨B, hB⟩ : ∃ B, B = w.heap.size := ⟨_, rfl⟩
  rw [← hB] at hA hR ⊢
  have hB' : w.heap.size ≤ B := by omega
  clear hB
  go_loopw [4, 5, 7] (fun _ _ i wr => ∃ k : Nat, k ≤ 256 ∧ i = .int .i64 k ∧ w.grownBy wr none ∧ PRow .i64 wr (B + 1) 0 (fun _ => 0) ∧ PRow .i64 wr (B + 2) 0 (fun j => if j < k then L j else 0)) (fun _ _ i _ => 256 - (intOf i).toNat)
  case atStart => exact ⟨0, by omega, rfl, hg, hA, hR.ext (fun j _ => by simp)⟩
  case round =>
    clear hA hR hg
    obtain ⟨k, hk, rfl, hg, hA, hR⟩ := hrel
    by_cases hlt : k < 256
    · have b0 : (0 : Int) ≤ (k : Int) := by omega
      have b1 : (k : Int) < 256 := by omega
      have l0 := (HL.out k hlt).1
      have l1 := (HL.out k hlt).2
      have ix := fun W => ix16 L k hlt W
      have cv : IntKind.i64.wrap (L k) = L k := by rw [IntKind.wrap_i64] <;> omega
      have cc := (hR.at0 k hlt).1
      have ff := (hR.at0 k hlt).2
      go_wp2
      go_roundw
      case rel =>
        refine ⟨k + 1, by omega, by go_num, grown_setNew hg (by simp; omega) _, hA.set_other (by simp) _, (hR.set0 hlt _).ext (fun j _ => mix_step _ _ k j)⟩
      case measure => simp [intOf]; omega
    · have hk6 : k = 256 := by omega
      subst hk6
      have hR' : PRow .i64 wr (B + 2) 0 L := hR.ext (fun j hj => by simp [hj])
      clear hR
      go_wp2_with (first | (refine wpL_load rfl .i64 71 _ rfl (B + 2) 0 rfl L hR' ⟨_, Tryz.uP⟩ Tryz.sP ?_) | (refine wpL_store rfl .i64 71 _ _ rfl (B + 1) 0 rfl L rfl .i64 _ hA Tryz.sP ?_; intro w4 p4))
      refine bodyPost_ret (res1 rfl .i64 _ w4 (B + 1) L rfl p4.r ⟨_, Tryz.uP⟩ Tryz.sP) rfl ⟨rfl, grown_new hg p4.g (by omega)⟩
end Go.Proofs.YtikcbdpijjafjaaGreatDoor
