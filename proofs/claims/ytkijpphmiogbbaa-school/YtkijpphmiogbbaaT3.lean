import Derived.Test.YtkijpphmiogbbaaS1x
import Derived.Test.YtkijpphmiogbbaaN7
namespace Go.Proofs.Ytkijpphmiogbbaa
open Go.RowKit
attribute [local go_sem ↓] Go.wp_at_zero Go.wp_at_succ

set_option maxHeartbeats 2000000 in
set_option maxRecDepth 20000 in
theorem place_any (b : Nat) (z : Nat → Int) (sc : Int) (F G : Nat → Int) (w : World) (hR : Rg32 w b z sc) (hF0 : ∀ i, i < 256 → 0 ≤ F i ∧ F i < 8380417) (hG0 : ∀ i, i < 256 → 0 ≤ G i ∧ G i < 8380417) :
    Calls Try.prog 60 #[.pointer (some ⟨b, 0, none⟩), .agg (polyA .u32 F), .agg (polyA .u32 G)] w fun e w' => e = .returned (.agg (polyA .u32 (prodG F G))) ∧ w.grownBy w' none := by
  have HF0 := hid_of32 hF0
  have HG0 := hid_of32 hG0
  clear hF0 hG0
  have hbw : b < w.heap.size := by have := cell_lt hR.q; simpa using this
  have n1 := new_alloc .u32 w F 55
  have n2 := new_alloc .u32 (w.alloc (.cells (polyA .u32 F) 55)) G 55
  have n3 := new_alloc .u32 ((w.alloc (.cells (polyA .u32 F) 55)).alloc (.cells (polyA .u32 G) 55)) (fun _ => 0) 55
  rw [← Try.zQ32] at n3
  go_enter Try.func60, Try.ntmps60
  go_wp2
  generalize ((w.alloc (.cells (polyA .u32 F) 55)).alloc (.cells (polyA .u32 G) 55)).alloc (.cells Try.zeroCells55 55) = w3 at *
  have hF : PRow .u32 w3 w.heap.size 0 F := (n1.r.new n2.g).new n3.g
  have hG : PRow .u32 w3 (w.heap.size + 1) 0 G := by have := n2.r.new n3.g; rw [n1.s] at this; exact this
  have hA : PRow .u32 w3 (w.heap.size + 1 + 1) 0 (fun _ => 0) := by have := n3.r; rw [n2.s, n1.s] at this; exact this
  have hg : w.grownBy w3 none := grownBy_trans n1.g (grownBy_trans n2.g n3.g)
  have hR3 := hR.new hg
  clear n1 n2 n3 hR
  obtain ⟨B, hB⟩ : ∃ B, B = w.heap.size := ⟨_, rfl⟩
  rw [← hB] at hA hF hG ⊢
  have hB' : w.heap.size ≤ B := by omega
  have hbB : b < B := by omega
  clear hB hbw
  go_loopw [7, 8] (fun _ i wr => ∃ k : Nat, k ≤ 256 ∧ i = .int .i64 k ∧ w.grownBy wr none ∧ Rg32 wr b z sc ∧ PRow .u32 wr (B + 1) 0 G ∧ PRow .u32 wr (B + 1 + 1) 0 (fun _ => 0) ∧ PRow .u32 wr B 0 (fun j => if j < k then prodG F G j else F j)) (fun _ i _ => 256 - (intOf i).toNat)
  case atStart => exact ⟨0, by omega, rfl, hg, hR3, hG, hA, hF.ext (fun j _ => by simp)⟩
  case round =>
    clear hF hG hA hg hR3
    obtain ⟨k, hk, rfl, hg, hR, hG, hA, hF⟩ := hrel
    by_cases hlt : k < 256
    · have b0 : (0 : Int) ≤ (k : Int) := by omega
      have b1 : (k : Int) < 256 := by omega
      obtain ⟨a, ha⟩ : ∃ a : Nat, F k = (a : Int) := ⟨(F k).toNat, (Int.toNat_of_nonneg (HF0.out k hlt).1).symm⟩
      obtain ⟨c, hc⟩ : ∃ c : Nat, G k = (c : Int) := ⟨(G k).toNat, (Int.toNat_of_nonneg (HG0.out k hlt).1).symm⟩
      have la : a < 8380417 := by have := (HF0.out k hlt).2; omega
      have lc : c < 8380417 := by have := (HG0.out k hlt).2; omega
      have c1 := (hF.at0 k hlt).1
      have f1 := (hF.at0 k hlt).2
      have c2 := (hG.at0 k hlt).1
      rw [if_neg (Nat.lt_irrefl k), ha] at c1
      rw [hc] at c2
      obtain ⟨v, hv⟩ : ∃ v : Nat, v = a * c % 8380417 := ⟨_, rfl⟩
      have HT := hid_of32 (fun W hW => times32_any b z sc a c W hW la lc)
      rw [← hv] at HT
      have HV : Hid ((v : Int) = prodG F G k) := by
        show _ = _
        unfold prodG
        rw [ha, hc, hv]; simp
      have hBn : ¬ B = B + 1 := by omega
      clear hv ha hc
      go_wp2
      go_region_with (first | (go_at_call 52; refine (HT.out _ hR.drew).mono ?_; rintro _ w' ⟨rfl, hw⟩; rw [hw]; clear hw w'))
      all_goals (
        go_wp2
        refine ⟨⟨k + 1, by omega, by go_num, grown_drew (grown_setNew hg (by simp; omega) _), (hR.far (⟨rfl, rfl, rfl, by simp, fun i _ hr => Below.heap_setCell _ _ _ _ (fun e => hr (by simp [e]))⟩ : wr.grownBy (wr.setCell ⟨B, k, none⟩ (.int .u32 (v : Int))) (some B)) (by simp; omega)).drew, (hG.set_other (by simp) _).drew, (hA.set_other (by simp; omega) _).drew, ?_⟩, by simp [intOf]; omega⟩
        rw [HV.out]
        exact ((hF.set0 hlt _).drew).ext (fun j _ => mix_step _ _ k j))
    · have hk6 : k = 256 := by omega
      subst hk6
      have hR' : PRow .u32 wr B 0 (prodG F G) := hF.ext (fun j hj => by simp [hj])
      clear hF
      go_wp2_with (first | (refine wpL_load rfl .u32 55 _ rfl B 0 rfl _ hR' Try.oQ32 Try.sQ32 ?_) | (refine wpL_store rfl .u32 55 _ _ rfl (B + 1 + 1) 0 rfl _ rfl .u32 _ hA Try.sQ32 ?_; intro w4 p4))
      refine bodyPost_ret (res1 rfl .u32 _ w4 (B + 1 + 1) _ rfl p4.r Try.oQ32 Try.sQ32) rfl ⟨rfl, grown_new hg p4.g (by omega)⟩
end Go.Proofs.Ytkijpphmiogbbaa
