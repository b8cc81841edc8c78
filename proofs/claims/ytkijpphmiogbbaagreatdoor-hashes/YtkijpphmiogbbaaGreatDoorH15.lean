import Derived.Test.YtkijpphmiogbbaaGreatDoorH14
namespace Go.Proofs.YtkijpphmiogbbaaGreatDoor.Z
open Go.RowKit
attribute [local go_sem ↓] Go.wp_at_zero Go.wp_at_succ
variable {X : Side} {B c : Nat} {w : World}

def flat (ops : List OpV) : List Value := ops.flatMap opL
theorem flat_len (ops : List OpV) : (flat ops).length = ops.length * 8 := by
  unfold flat
  induction ops with
  | nil => rfl
  | cons o r ih => rw [List.flatMap_cons, List.length_append, ih, List.length_cons]; show 8 + _ = _; omega
theorem flat_at : ∀ (ops : List OpV) (k j : Nat) (h : k < ops.length), j < 8 → (flat ops)[k * 8 + j]? = (opL ops[k])[j]?
  | o :: r, 0, j, _, hj => by
    unfold flat
    rw [List.flatMap_cons, List.getElem?_append_left (by show 0 * 8 + j < 8; omega)]
    simp
  | o :: r, k + 1, j, h, hj => by
    have h1 : k < r.length := by simpa using h
    have e : (k + 1) * 8 + j = 8 + (k * 8 + j) := by omega
    unfold flat
    rw [List.flatMap_cons, List.getElem?_append_right (by show 8 ≤ _; omega)]
    show (List.flatMap opL r)[(k + 1) * 8 + j - 8]? = _
    rw [show (k + 1) * 8 + j - 8 = k * 8 + j by omega]
    exact flat_at r k j h1 hj
theorem own_op {base : Nat} {v : Value} {ops : List OpV} (h : w.ownsRow base 28 8 v ops.length (flat ops)) (k : Nat) (hk : k < ops.length) {g cap : Nat} (hv : v = .slice (some ⟨g, 0, none⟩) ops.length cap) (j : Nat) (hj : j < 8) (u : Value) (hu : (opL ops[k])[j]? = some u) : w.cell? ⟨g, k * 8 + j, none⟩ = some u := by
  have hc := h.cells (g := g) (by rw [hv]; rfl) (k * 8 + j) u (by rw [flat_at ops k j hk hj]; exact hu)
  have hadd : (⟨g, 0, none⟩ : Addr).add (k * 8 + j) = ⟨g, k * 8 + j, none⟩ := by unfold Addr.add; split <;> simp_all
  rwa [hadd] at hc

abbrev newW (w : World) : World := w.alloc (.cells #[.slice none 0 0, .slice none 0 0, .slice none 0 0, .slice none 0 0, .slice none 0 0, .int .i64 0] 35)
set_option maxHeartbeats 2000000 in
set_option maxRecDepth 20000 in
theorem upTo_any (v : Value) (ops : List OpV) (base : Nat) (hn : ops.length ≤ 16384) (hown : w.ownsRow base 28 8 v ops.length (flat ops))
    (hlow : ∀ W c, SW X w.heap.size c W → ∀ k, k < w.heap.size → W.heap[k]? = w.heap[k]?) (hinit : SW X w.heap.size 0 (newW w))
    (hstep : ∀ o ∈ ops, ∀ c W, c + 1 ≤ 40000 → SW X w.heap.size c W → Calls Tryz.prog 14 #[.pointer (some ⟨w.heap.size, 0, none⟩), opVal o] W fun e W' => e = .returned (.bool true) ∧ SW X w.heap.size (c + 2) W') :
    Calls Tryz.prog 13 #[v] w fun e w' => e = .returned (.int .i64 (-1)) ∧ SW X w.heap.size (2 * ops.length) w' := by
  rcases own_forms hown with ⟨hv, hn0, hx⟩ | ⟨g, cap, hv, hcell⟩
  · subst hv
    rw [hn0]
    go_enter Tryz.func13, Tryz.ntmps13
    go_wp2
    refine wp_loop_rounds 1 ?_
    rw [rounds_succ]
    go_wp2
    go_ret
    exact ⟨rfl, hinit⟩
  · have HC : Hid (∀ k W c, k < ops.length → SW X w.heap.size c W → ∀ j u, j < 8 → (opL (ops[k]?.getD ⟨0, 0, 0, 0, 0, 0, 0, ByteArray.empty⟩))[j]? = some u → W.cell? ⟨g, k * 8 + j, none⟩ = some u) := fun k W c hk hW j u hj hu => by
      rw [List.getElem?_eq_getElem hk] at hu
      have h1 := own_op hown k hk hv j hj u hu
      have hg : g < w.heap.size := cell_lt h1
      rw [World.cell?_of_block (a := ⟨g, k * 8 + j, none⟩) (hlow W c hW g hg)]; exact h1
    have HS : Hid (∀ o ∈ ops, ∀ c W, c + 1 ≤ 40000 → SW X w.heap.size c W → Calls Tryz.prog 14 #[.pointer (some ⟨w.heap.size, 0, none⟩), opVal o] W fun e W' => e = .returned (.bool true) ∧ SW X w.heap.size (c + 2) W') := hstep
    obtain ⟨n, hn9⟩ : ∃ n, n = ops.length := ⟨_, rfl⟩
    have HN : Hid (n = ops.length) := hn9
    rw [← hn9] at hv hn
    subst hv
    clear hcell hstep hown hlow hn9
    go_enter Tryz.func13, Tryz.ntmps13
    go_wp2
    go_loopw [4] (fun i wr => ∃ k : Nat, k ≤ n ∧ i = .int .i64 k ∧ SW X w.heap.size (2 * k) wr) (fun i _ => n - (intOf i).toNat)
    case atStart => exact ⟨0, by omega, rfl, hinit⟩
    case round =>
      clear hinit
      obtain ⟨k, hk, rfl, hW⟩ := hrel
      by_cases hlt : k < n
      · have k0 : (k : Int) < (n : Int) := by omega
        have n0 : (n : Int) ≤ 16384 := by omega
        have hkn : k < ops.length := by rw [← HN.out]; exact hlt
        obtain ⟨o, ho9⟩ : ∃ o, o = ops[k]?.getD ⟨0, 0, 0, 0, 0, 0, 0, ByteArray.empty⟩ := ⟨_, rfl⟩
        have hmem : o ∈ ops := by rw [ho9, List.getElem?_eq_getElem hkn]; exact List.getElem_mem hkn
        have cc := HC.out k wr _ hkn hW
        rw [← ho9] at cc
        have e0 : wr.cell? ⟨g, k * 8, none⟩ = some (.int .i64 o.kind) := cc 0 _ (by omega) rfl
        have e1 := cc 1 _ (by omega) rfl
        have e2 := cc 2 _ (by omega) rfl
        have e3 := cc 3 _ (by omega) rfl
        have e4 := cc 4 _ (by omega) rfl
        have e5 := cc 5 _ (by omega) rfl
        have e6 := cc 6 _ (by omega) rfl
        have e7 := cc 7 _ (by omega) rfl
        clear cc ho9
        go_wp2_with fail
        refine (HS.out o hmem (2 * k) wr (by omega) hW).mono ?_
        rintro e w1 ⟨rfl, h1⟩
        clear e0 e1 e2 e3 e4 e5 e6 e7
        go_wp2
        go_roundw
        case rel => exact ⟨k + 1, by omega, by go_num, h1⟩
        case measure => simp [intOf]; omega
      · have hkn : n = k := by omega
        subst hkn
        go_wp2
        go_ret
        refine ⟨rfl, ?_⟩
        rw [← HN.out]; exact hW
end Go.Proofs.YtkijpphmiogbbaaGreatDoor.Z
