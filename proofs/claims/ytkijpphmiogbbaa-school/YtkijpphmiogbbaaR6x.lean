import Derived.Test.YtkijpphmiogbbaaR5x
import Derived.Laws.Tables
namespace Go.Proofs.Ytkijpphmiogbbaa
open Go.RowKit
attribute [local go_sem ↓] Go.wp_at_zero Go.wp_at_succ

def ringA16 : Array Value := #[.int .u16 3329, .int .i64 2, .func (.func 44) #[] #[]] ++ polyA .u16 (fun _ => 0) ++ #[.int .u16 0]
def hidBd16 (parts : Array (Nat × Value)) : Sem Value := Instr.build 77 parts
theorem bd_hide16 (parts : Array (Nat × Value)) : Instr.build 77 parts = hidBd16 parts := rfl
theorem run_hidBd16 (W : World) : (hidBd16 #[(0, .int .u16 3329), (1, .int .i64 2), (2, .func (.func 44) #[] #[])]).run Try.prog W = .ok (.agg ringA16) W :=
  run_build W 77 _ ringA16 (by kernel_rfl)
attribute [local go_sem ↓] bd_hide16
attribute [local go_sem] run_hidBd16
theorem ringA16_at (i : Nat) (h : i < 256) : ringA16[3 + i]? = some (.int .u16 0) := by
  unfold ringA16
  rw [Array.getElem?_append_left (by simp [polyA_size]; omega), Array.getElem?_append_right (by simp)]
  simp only [List.size_toArray, List.length_cons, List.length_nil]
  rw [show 3 + i - (0 + 1 + 1 + 1) = i by omega]
  exact polyA_at .u16 (fun _ => 0) i h
theorem ringA16_rg (w : World) (T : TypeId) : Rg16 (w.alloc (.cells ringA16 T)) w.heap.size (zTo16 0) 0 := by
  refine ⟨?_, ?_, ?_, fun i hi => ⟨?_, World.frozen?_alloc_at _ _ _ _ rfl⟩, ⟨?_, World.frozen?_alloc_at _ _ _ _ rfl⟩⟩
  · rw [World.cell?_alloc_new]; kernel_rfl
  · rw [World.cell?_alloc_new]; kernel_rfl
  · rw [World.cell?_alloc_new]; kernel_rfl
  · rw [World.cell?_alloc_new, ringA16_at i hi]
    unfold zTo16; rw [if_neg (by omega)]
  · rw [World.cell?_alloc_new]; kernel_rfl
set_option maxHeartbeats 1000000 in
set_option maxRecDepth 20000 in
theorem newRing16_any (w : World) :
    Calls Try.prog 43 #[.int .u16 3329, .int .u16 17, .int .i64 2, .func (.func 44) #[] #[]] w fun e w' => e = .returned (.pointer (some ⟨w.heap.size, 0, none⟩)) ∧ w.grownBy w' none ∧ Rg16 w' w.heap.size zetS 3303 := by
  have hR0 := ringA16_rg w 77
  have g0 := World.grownBy_alloc w (.cells ringA16 77) none
  go_enter Try.func43, Try.ntmps43
  go_wp2_with (first | (go_at_call 63; refine (len_128 _).mono ?_; rintro e w1 ⟨rfl, g1⟩))
  obtain ⟨b, hb⟩ : ∃ b, b = w.heap.size := ⟨_, rfl⟩
  rw [← hb] at hR0 ⊢
  have hR1 := hR0.new g1
  have hg1 := grownBy_trans g0 g1
  have hbw : w.heap.size ≤ b := by omega
  have HB := hid_of hb
  clear hR0 g0 g1 hb
  go_loopw [12, 13, 27] (fun pw _ i wr => ∃ e : Nat, e ≤ 128 ∧ pw = .int .u16 ((17 ^ e % 3329 : Nat) : Int) ∧ i = .int .i64 e ∧ w.grownBy wr none ∧ Rg16 wr b (zTo16 e) 0) (fun _ _ i _ => 128 - (intOf i).toNat)
  case atStart => exact ⟨0, by omega, rfl, rfl, hg1, hR1⟩
  case round =>
    clear hR1 hg1
    obtain ⟨e, he, rfl, rfl, hg, hR⟩ := hrel
    by_cases hlt : e < 128
    · have hrv := (revN16_lt e hlt).1
      have HS := hid_of (zTo16_step e hlt)
      have HPW := hid_of (pw16_step e)
      have hpl : 17 ^ e % 3329 < 3329 := Nat.mod_lt _ (by omega)
      have HRV := hid_of (fun W => reversed_7 e W hlt)
      have eRV : rev8 e / 2 = revN16 e := rfl
      rw [eRV] at HRV
      generalize 17 ^ e % 3329 = p at *
      generalize revN16 e = rv at *
      clear eRV
      have e0 : (0 : Int) ≤ (e : Int) := by omega
      have e1 : (e : Int) < 128 := by omega
      have r0 : (0 : Int) ≤ (rv : Int) := by omega
      have r1 : (rv : Int) < 256 := by omega
      have hrv2 : rv < 256 := by omega
      go_wp2
      go_region_with (first | (go_at_call 64; refine (HRV.out _).mono ?_; rintro _ w2 ⟨rfl, g2⟩; have hR2 := hR.drew.new g2; have cc := (hR2.zetas rv hrv2).1; have ff := (hR2.zetas rv hrv2).2))
      all_goals (
        have hR3 := hR2.zet (i := rv) hrv2 (p : Int)
        have hg3 := grown_setNew (grownBy_trans (grown_drew hg) g2) (p := ⟨b, 3 + rv, none⟩) hbw (.int .u16 (p : Int))
        generalize w2.setCell ⟨b, 3 + rv, none⟩ (.int .u16 (p : Int)) = w3 at *
        clear cc ff hR2 g2
        have HT := hid_of (times16_any b _ _ p 17 w3 hR3 hpl (by omega))
        go_wp2_with (first | (go_at_call 49; refine HT.out.mono ?_; rintro _ w' ⟨rfl, hw⟩; rw [hw]; clear hw w'))
        refine ⟨⟨e + 1, by omega, by rw [← HPW.out]; simp, by go_num, hg3, hR3.ext (fun i _ => HS.out i)⟩, by simp [intOf]; omega⟩)
    · have he2 : e = 128 := by omega
      subst he2
      have hI := hid_of (inverse16_any b _ _ wr hR)
      have cs := hR.scale.1
      have fs := hR.scale.2
      go_wp2_with (first | (go_at_call 65; refine hI.out.mono ?_; rintro _ w' ⟨rfl, hw⟩; rw [hw]; clear hw w'))
      go_ret
      rw [← HB.out]
      exact ⟨rfl, grown_setNew hg hbw _, (hR.sca 3303).ext (fun i _ => zTo16_all i)⟩
set_option maxHeartbeats 400000 in
theorem ring16_any (w : World) :
    Calls Try.prog 28 #[] w fun e w' => e = .returned (.pointer (some ⟨w.heap.size, 0, none⟩)) ∧ w.grownBy w' none ∧ Rg16 w' w.heap.size zetS 3303 := by
  go_enter Try.func28, Try.ntmps28
  go_wp2_with (first | (go_at_call 43; refine (newRing16_any _).mono ?_; rintro e w1 ⟨rfl, g1, hR1⟩))
  go_ret
  exact ⟨rfl, g1, hR1⟩
end Go.Proofs.Ytkijpphmiogbbaa
