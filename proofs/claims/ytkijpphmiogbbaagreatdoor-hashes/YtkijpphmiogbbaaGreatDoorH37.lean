import Derived.Test.YtkijpphmiogbbaaGreatDoorH32
import Derived.Test.YtkijpphmiogbbaaGreatDoorH33
import Derived.Test.YtkijpphmiogbbaaGreatDoorH34
import Derived.Test.YtkijpphmiogbbaaGreatDoorH35
import Derived.Test.YtkijpphmiogbbaaGreatDoorH36
namespace Go.Proofs.YtkijpphmiogbbaaGreatDoor
open Go.RowKit
attribute [local go_sem ↓] Go.wp_at_zero Go.wp_at_succ

theorem lanesA_one (L : Nat → Int) : (lanesA L).all (·.oneCell') = true := by
  rw [Array.all_eq_true_iff_forall_mem]
  intro x hx
  unfold lanesA at hx
  simp at hx
  obtain ⟨i, _, rfl⟩ := hx
  rfl
theorem Row.set25 {w : World} {b : Nat} {Z : Nat → Int} (h : Row w b 25 Z) (L : Nat → Int) : Row (w.setCells b 0 (lanesA L).toList) b 25 L := by
  intro i hi
  have hsz : (lanesA L).toList.length = 25 := by rw [Array.length_toList, lanesA_size]
  have := World.cell?_setCells_in b (lanesA L).toList 0 w (fun j hj => by rw [Nat.zero_add, (h j (by omega)).1]; rfl) i (by omega)
  rw [Nat.zero_add] at this
  refine ⟨?_, by rw [World.frozen?_setCells]; exact (h i hi).2⟩
  rw [this]
  have e := lanesA_at L i hi
  rw [Array.getElem?_eq_getElem (by rw [lanesA_size]; exact hi)] at e
  simpa using e
theorem Tryz.uState : Tryz.prog.underlying 225 = some (.array 25 143) := by kernel_rfl
theorem Tryz.sState (L : Nat → Int) : (Tryz.prog.info? 225).map (·.size) = some (lanesA L).size := by rw [lanesA_size]; kernel_rfl
theorem grown_setNews (w : World) (b : Nat) (hb : w.heap.size ≤ b) : ∀ (vs : List Value) (o : Nat) (w1 : World), w.grownBy w1 none → w.grownBy (w1.setCells b o vs) none
  | [], _, _, h => h
  | v :: r, o, w1, h => by rw [World.setCells]; exact grown_setNews w b hb r (o + 1) _ (grown_setNew h hb v)
set_option maxHeartbeats 4000000 in
set_option maxRecDepth 10000 in
theorem permuted_any (L : Nat → Int) (w : World) :
    Calls Tryz.prog 182 #[.agg (lanesA L)] w fun e w' => e = .returned (.agg (lanesA (permR L 24))) ∧ w.grownBy w' none := by
  go_enter Tryz.func182, Tryz.ntmps182
  go_wp2
  go_loopw [3, 4] (fun f i wr => ∃ t : Nat, t ≤ 24 ∧ f = .int .i64 ((lfS (7 * t) : Nat) : Int) ∧ i = .int .i64 t ∧ w.grownBy wr none ∧ Row wr w.heap.size 25 (permR L t) ∧ Row wr (w.heap.size + 1) 25 (fun _ => 0)) (fun _ i _ => 24 - (intOf i).toNat)
  case atStart =>
    refine ⟨0, by omega, rfl, rfl, grownBy_trans (World.grownBy_alloc _ _ _) (World.grownBy_alloc _ _ _), (lanes_row L w _).alloc _, ?_⟩
    have h := row_zero25 (w.alloc (.cells (lanesA L) 225)) 225
    rw [World.size_alloc] at h
    exact h
  case round =>
    obtain ⟨t, ht, rfl, rfl, hg, hA, hR⟩ := hrel
    by_cases hlt : t < 24
    · have HT : Hid (permR L (t + 1) = upd (roundR (permR L t)) 0 (iotaTo (roundR (permR L t) 0) t 7)) := show _ = _ from rfl
      generalize permR L t = M at *
      have t0 : (0 : Int) ≤ (t : Int) := by omega
      have t1 : (t : Int) < 24 := by omega
      obtain ⟨W0, rfl⟩ : ∃ W0, W0 = wr := ⟨_, rfl⟩
      have hAC : w.heap.size < W0.heap.size := hA.lt (by omega)
      have hRC : w.heap.size + 1 < W0.heap.size := hR.lt (by omega)
      have nAR : w.heap.size ≠ w.heap.size + 1 := by omega
      have nCA : W0.heap.size ≠ w.heap.size := by omega
      have nCR : W0.heap.size ≠ w.heap.size + 1 := by omega
      have lC : w.heap.size ≤ W0.heap.size := by omega
      go_wp2
      refine ph_sums _ w.heap.size (w.heap.size + 1) W0.heap.size M (fun _ => 0) _ _ _ _ _ _ _ _ _ _ _ _ _ _ _ _ _ _ _ _ _ _ _ _ _ _ _ _ _ _ _ _ _ _ _ _ _ _ _ _ _ _ _ _ _ _ _ _ _ _ _ _ _ _ _ _ _ _ _ _ _ _ _ _ _ _ _ _ _ _ _ _ _ _ _ _ _ _ _ _ _ _ _ _ _ _ _ _ _ _ _ _ _ _ _ _ _ _ _ _ _ _ _ _ _ _ _ _ _ _ _ _ _ _ _ _ _ _ _ _ _ _ _ _ _ _ _ _ _ _ _ _ _ _ _ _ _ _ _ _ _ _ _ _ _ _ _ _ _ _ _ _ _ _ _ _ _ _ _ _ _ _ _ _ _ _ _ _ _ _ _ _ _ _ _ _ _ w _ lC nCA nCR (grownBy_trans hg (World.grownBy_alloc _ _ _)) (hA.alloc _) (hR.alloc _) (row_zero5 W0 _) ?_
      intro u6 u23 u24 u25 u26 u27 u28 u29 u30 u31 u32 u33 u34 u35 u36 u37 u38 u39 u40 u41 u42 u43 u44 u45 u46 u47 u48 u49 u50 u51 W1 hg1 hA1 hR1 hS1
      clear hg hA hR
      go_wp2
      refine ph_theta _ w.heap.size (w.heap.size + 1) W0.heap.size M (fun _ => 0) _ _ _ _ _ _ _ _ _ _ _ _ _ _ _ _ _ _ _ _ _ _ _ _ _ _ _ _ _ _ _ _ _ _ _ _ _ _ _ _ _ _ _ _ _ _ _ _ _ _ _ _ _ _ _ _ _ _ _ _ _ _ _ _ _ _ _ _ _ _ _ _ _ _ _ _ _ _ _ _ _ _ _ _ _ _ _ _ _ _ _ _ _ _ _ _ _ _ _ _ _ _ _ _ _ _ _ _ _ _ _ _ _ _ _ _ _ _ _ _ _ _ _ _ _ _ _ _ _ _ _ _ _ _ _ _ _ _ _ _ _ _ _ _ _ _ _ _ _ _ _ _ _ _ _ _ _ _ _ _ _ _ _ _ _ _ _ _ _ _ _ _ _ _ _ _ _ w _ (Nat.le_refl _) nCA nAR hg1 hA1 hR1 hS1 ?_
      intro u7 u8 u9 u52 u53 u54 u55 u56 u57 u58 u59 u60 u61 u62 u63 u64 u65 u66 u67 u68 u69 u70 u71 u72 u73 u74 u75 u76 u77 u78 u79 u80 u81 u82 u83 u84 W2 hg2 hA2 hR2
      clear hg1 hA1 hR1 hS1
      have hAB : w.heap.size < W2.heap.size := hA2.lt (by decide)
      have hRB : w.heap.size + 1 < W2.heap.size := hR2.lt (by decide)
      have nBA : W2.heap.size ≠ w.heap.size := Nat.ne_of_gt hAB
      have nBR : W2.heap.size ≠ w.heap.size + 1 := Nat.ne_of_gt hRB
      have e0 := (hA2 0 (by decide)).1
      go_wp2
      clear e0
      refine ph_rho _ w.heap.size (w.heap.size + 1) W2.heap.size (thetaR M) (fun _ => 0) _ _ _ _ _ _ _ _ _ _ _ _ _ _ _ _ _ _ _ _ _ _ _ _ _ _ _ _ _ _ _ _ _ _ _ _ _ _ _ _ _ _ _ _ _ _ _ _ _ _ _ _ _ _ _ _ _ _ _ _ _ _ _ _ _ _ _ _ _ _ _ _ _ _ _ _ _ _ _ _ _ _ _ _ _ _ _ _ _ _ _ _ _ _ _ _ _ _ _ _ _ _ _ _ _ _ _ _ _ _ _ _ _ _ _ _ _ _ _ _ _ _ _ _ _ _ _ _ _ _ _ _ _ _ _ _ _ _ _ _ _ _ _ _ _ _ _ _ _ _ _ _ _ _ _ _ _ _ _ _ _ _ _ _ _ _ _ _ _ _ _ _ _ _ _ w _ (Nat.le_of_lt hAB) nBA nBR (grownBy_trans hg2 (World.grownBy_alloc _ _ _)) (hA2.alloc _) (hR2.alloc _) (row_first25 W2 _ (thetaR M 0)) ?_
      intro u11 u12 u13 u14 u15 u88 u89 u90 u91 u92 u93 u94 u95 u96 u97 u98 u99 u100 u101 u102 u103 u104 u105 u106 u107 u108 u109 u110 u111 u112 u113 u114 u115 u116 u117 u118 u119 W3 hg3 hA3 hR3 hB3
      clear hg2 hA2 hR2
      go_wp2
      refine ph_chi _ w.heap.size (w.heap.size + 1) W2.heap.size (thetaR M) (fun _ => 0) (rhoR (thetaR M) 24) _ _ _ _ _ _ _ _ _ _ _ _ _ _ _ _ _ _ _ _ _ _ _ _ _ _ _ _ _ _ _ _ _ _ _ _ _ _ _ _ _ _ _ _ _ _ _ _ _ _ _ _ _ _ _ _ _ _ _ _ _ _ _ _ _ _ _ _ _ _ _ _ _ _ _ _ _ _ _ _ _ _ _ _ _ _ _ _ _ _ _ _ _ _ _ _ _ _ _ _ _ _ _ _ _ _ _ _ _ _ _ _ _ _ _ _ _ _ _ _ _ _ _ _ _ _ _ _ _ _ _ _ _ _ _ _ _ _ _ _ _ _ _ _ _ _ _ _ _ _ _ _ _ _ _ _ _ _ _ _ _ _ _ _ _ _ _ _ _ _ _ _ _ _ _ _ _ w _ (Nat.le_refl _) nBA nAR hg3 hA3 hR3 hB3 ?_
      intro u16 u17 u120 u121 u122 u123 u124 u125 u126 u127 u128 u129 u130 u131 u132 u133 u134 u135 u136 u137 u138 u139 u140 u141 u142 u143 u144 u145 u146 u147 u148 u149 u150 u151 u152 u153 u154 u155 u156 u157 W4 hg4 hA4 hR4
      clear hg3 hA3 hR3 hB3
      go_wp2
      refine ph_iota _ w.heap.size (w.heap.size + 1) t hlt (chiR (rhoR (thetaR M) 24)) (fun _ => 0) _ _ _ _ _ _ _ _ _ _ _ _ _ _ _ _ _ _ _ _ _ _ _ _ _ _ _ _ _ _ _ _ _ _ _ _ _ _ _ _ _ _ _ _ _ _ _ _ _ _ _ _ _ _ _ _ _ _ _ _ _ _ _ _ _ _ _ _ _ _ _ _ _ _ _ _ _ _ _ _ _ _ _ _ _ _ _ _ _ _ _ _ _ _ _ _ _ _ _ _ _ _ _ _ _ _ _ _ _ _ _ _ _ _ _ _ _ _ _ _ _ _ _ _ _ _ _ _ _ _ _ _ _ _ _ _ _ _ _ _ _ _ _ _ _ _ _ _ _ _ _ _ _ _ _ _ _ _ _ _ _ _ _ _ _ _ _ _ _ _ _ _ _ _ _ _ _ w _ (Nat.le_refl _) nAR hg4 hA4 hR4 ?_
      intro u3 u18 u158 u159 u160 u161 u162 u163 u164 u165 u166 u167 u168 u169 u170 u171 u172 u173 u174 u175 u176 u177 u178 W5 hu3 hg5 hA5 hR5
      subst hu3
      clear hg4 hA4 hR4
      go_wp2
      go_roundw
      case rel => exact ⟨t + 1, hlt, rfl, by go_num, hg5, by rw [HT.out]; exact hA5, hR5⟩
      case measure => simp [intOf]; omega
    · have ht4 : t = 24 := by omega
      subst ht4
      obtain ⟨M, hM⟩ : ∃ M, M = permR L 24 := ⟨_, rfl⟩
      rw [← hM] at hA
      have HM : Hid (M = permR L 24) := hM
      clear hM
      have hth : wr.there (w.heap.size + 1) 0 (lanesA M).size := fun j hj => by
        rw [lanesA_size] at hj
        rw [Nat.zero_add]
        exact ⟨by rw [(hR j hj).1]; rfl, (hR j hj).2⟩
      go_wp2_with (first | (refine wpList_load_cells rfl 225 _ rfl w.heap.size rfl (lanesA M) _ (lanesA_cells hA) Tryz.uState rfl (Tryz.sState M) ?_) | (refine wpList_store_mid rfl 225 _ _ rfl (w.heap.size + 1) 0 (lanesA M) rfl rfl hth (Tryz.sState M) (lanesA_one M) ?_))
      have hld := run_loadVar_cells (P := Tryz.prog) (wr.setCells (w.heap.size + 1) 0 (lanesA M).toList) 225 (w.heap.size + 1) (lanesA M) _ (lanesA_cells (hR.set25 M)) Tryz.uState rfl (Tryz.sState M)
      refine bodyPost_ret (v := .agg (lanesA M)) ?_ rfl ⟨by rw [HM.out], grown_setNews w _ (Nat.le_succ _) _ _ _ hg⟩
      exact results_cell_cells Tryz.results182 _ _ _ _ rfl hld
end Go.Proofs.YtkijpphmiogbbaaGreatDoor
