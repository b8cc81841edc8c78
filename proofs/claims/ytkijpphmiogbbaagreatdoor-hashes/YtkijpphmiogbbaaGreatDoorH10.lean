import Derived.Test.YtkijpphmiogbbaaGreatDoorH09
namespace Go.Proofs.YtkijpphmiogbbaaGreatDoor.Z
open Go.RowKit
attribute [local go_sem ↓] Go.wp_at_zero Go.wp_at_succ
variable {X : Side} {B c : Nat} {vT vP : Value} {vS : SV} {ts : List ByteArray} {nP : Nat} {ps : List Value} {Φ : Nat → Prop} {w : World}

def bytesOf (xs : List Int) : ByteArray := xs.foldl (fun r k => r.push (UInt8.ofNat k.toNat)) ByteArray.empty
theorem bytesOf_size (xs : List Int) : (bytesOf xs).size = xs.length := by
  have h : ∀ (l : List Int) (r : ByteArray), (l.foldl (fun r k => r.push (UInt8.ofNat k.toNat)) r).size = r.size + l.length := by
    intro l
    induction l with
    | nil => intro r; rfl
    | cons x l ih => intro r; rw [List.foldl_cons, ih]; simp [ByteArray.size_push]; omega
  unfold bytesOf
  rw [h]
  show 0 + _ = _
  omega
theorem Tryz.uBsZ : Tryz.prog.underlying 41 = some (.slice 5) := by kernel_rfl
theorem Tryz.uByZ : Tryz.prog.underlying 5 = some (.int .u8) := by kernel_rfl
theorem Tryz.uStZ : Tryz.prog.underlying 9 = some .string := by kernel_rfl
theorem conv_ownB (W : World) (base g cap : Nat) (xs : List Int) (h : OwnB W base (.slice (some ⟨g, 0, none⟩) xs.length cap) xs) : (convert 41 9 (.slice (some ⟨g, 0, none⟩) xs.length cap)).run Tryz.prog W = .ok (.string (bytesOf xs)) W := by
  rw [run_convert_bytes_string W 41 9 5 _ xs.length cap Tryz.uBsZ Tryz.uByZ Tryz.uStZ]
  refine run_bytesToString W _ xs.length cap xs ?_
  have hl := run_loadCells_list (P := Tryz.prog) W ⟨g, 0, none⟩ (xs.map (Value.int .u8)) (fun j v hv => by
    rw [add_lit]
    rw [List.getElem?_map] at hv
    cases hx : xs[j]? with
    | none => rw [hx] at hv; cases hv
    | some y =>
      rw [hx] at hv
      cases hv
      have hj : j < xs.length := by
        rcases Nat.lt_or_ge j xs.length with h1 | h1
        · exact h1
        · rw [List.getElem?_eq_none h1] at hx; cases hx
      rw [(h.at j hj).1]
      rw [List.getElem?_eq_getElem hj] at hx
      cases hx
      rfl)
  simpa using hl
def textL (t : ByteArray) : List Int := t.data.toList.map (fun b => (b.toNat : Int))
theorem textL_len (t : ByteArray) : (textL t).length = t.size := by unfold textL; simp
set_option maxHeartbeats 2000000 in
set_option maxRecDepth 20000 in
theorem owner_4 (hX : X.Local) (hc : c ≤ 40000) (o : OpV) (ho : OpOK o) (hk : Hid (o.kind = 4)) (h : SW X B c w) :
    Calls Tryz.prog 15 #[.pointer (some ⟨B, 0, none⟩), opVal o] w fun e w' => e = .returned (.bool true) ∧ SW X B (c + 1) w' := by
  go_enter Tryz.func15, Tryz.ntmps15
  go_wp2_with fail
  obtain ⟨vT, vP, vS, ts, nP, ps, Φ, h⟩ := h
  have hO := opAt_new w o
  have h1 : SWd X B c vT vP vS ts nP ps Φ (opBox w o) := h.keep hX (World.grownBy_alloc w _ none)
  refine (text_any hc _ ho.x h1).mono ?_
  rintro e w1 ⟨t, rfl, ht, hg1⟩
  have h2 := h1.keep hX hg1
  have hO1 := hO.far hg1 (by simp)
  have blt : w.heap.size < w1.heap.size := Nat.lt_of_lt_of_le (by simp) hg1.size
  generalize w.heap.size = b at *
  have qk := hO1.kind
  clear h h1 hO hg1
  rw [hk.out] at qk
  have t0 : (t.size : Int) ≤ 20000 := by omega
  have hcv := Lib.run_convert_string_bytes (P := Tryz.prog) w1 9 41 5 t Tryz.uStZ Tryz.uBsZ Tryz.uByZ
  have hOw := OwnB_conv w1 0 5 t (by unfold maxLen; omega) (Nat.zero_le _)
  have hgc := grown_conv w1 5 t none
  have hO2 := hO1.far hgc (by simp)
  generalize Lib.bytesWorld w1 5 t = w2 at *
  generalize grownCap w1 t.size 0 5 = cap at *
  have hl := textL_len t
  change OwnB w2 0 (.slice (some ⟨w1.heap.size, 0, none⟩) t.size cap) (textL t) at hOw
  obtain ⟨xs, hxs⟩ : ∃ xs, xs = textL t := ⟨_, rfl⟩
  rw [← hxs] at hOw hl
  clear hk hO1 hxs
  by_cases hz : t.size = 0
  · rw [hz] at hcv
    have hcb := conv_ownB w2 0 w1.heap.size cap xs (by rw [hl]; exact hOw)
    rw [hl, hz] at hcb
    have hS2 := h2.keep hX hgc
    have hq := hO2.kind
    have hsz : (bytesOf xs).size ≤ 9223372036854775807 := by rw [bytesOf_size]; omega
    clear hOw hl hgc h2
    go_wp2_with fail
    refine (add_any hX hc _ hS2 hsz).mono ?_
    rintro e w3 ⟨rfl, h4⟩
    clear hcb hcv
    go_wp2
    go_ret
    exact ⟨rfl, h4⟩
  · have z0 : (0 : Int) < (t.size : Int) := by omega
    have qa := hO2.a
    have qb := hO2.b
    have qk2 := hO2.kind
    have HC : Hid (∀ k : Nat, (k : Int) < (t.size : Int) → ∃ u, w2.cell? ⟨w1.heap.size, k, none⟩ = some (.int .u8 u) ∧ w2.frozen? ⟨w1.heap.size, k, none⟩ = false) := fun k hk => by
      have h9 : OwnB w2 0 (.slice (some ⟨w1.heap.size, 0, none⟩) xs.length cap) xs := by rw [hl]; exact hOw
      exact ⟨_, h9.at k (by omega)⟩
    have HL : Hid (xs.length = t.size) := hl
    have HO : Hid (OwnB w2 0 (.slice (some ⟨w1.heap.size, 0, none⟩) t.size cap) xs) := hOw
    have bn : ¬ b = w1.heap.size := by omega
    clear hl hOw hz
    go_wp2
    go_region_with (first | (go_at_call 22; refine (pick_any _ _ _ ho.a (by omega) (by omega)).mono ?_; rintro e w' ⟨k, hk, rfl, rfl⟩; obtain ⟨u, hu1, hu2⟩ := HC.out k hk; have k0 : (0 : Int) ≤ (k : Int) := Int.natCast_nonneg k))
    all_goals
      have h9 : OwnB w2 0 (.slice (some ⟨w1.heap.size, 0, none⟩) xs.length cap) xs := by rw [HL.out]; exact HO.out
      have hP : OwnB (w2.setCell ⟨w1.heap.size, k, none⟩ (.int .u8 (IntKind.u8.wrap o.b))).drew 0 _ _ := h9.put k (by have := HL.out; omega) (IntKind.u8.wrap o.b)
      have g3 : w1.grownBy (w2.setCell ⟨w1.heap.size, k, none⟩ (.int .u8 (IntKind.u8.wrap o.b))).drew none := grown_drew (grown_setNew hgc (Nat.le_refl _) _)
      have hS3 := h2.keep hX g3
      have hcb := conv_ownB _ 0 _ cap (xs.set k (IntKind.u8.wrap o.b)) (by rw [List.length_set]; exact hP)
      rw [List.length_set, HL.out] at hcb
      have hsz : (bytesOf (xs.set k (IntKind.u8.wrap o.b))).size ≤ 9223372036854775807 := by rw [bytesOf_size, List.length_set, HL.out]; omega
      generalize (w2.setCell ⟨w1.heap.size, k, none⟩ (.int .u8 (IntKind.u8.wrap o.b))).drew = W3 at *
      generalize bytesOf (xs.set k (IntKind.u8.wrap o.b)) = tt at *
      clear hP h9 g3 h2 hgc HO HL HC hcv hu1 hu2 qa qb qk2 qk
      go_wp2_with fail
      refine (add_any hX hc _ hS3 hsz).mono ?_
      rintro e w3 ⟨rfl, h4⟩
      clear hcb
      go_wp2
      go_ret
      exact ⟨rfl, h4⟩
end Go.Proofs.YtkijpphmiogbbaaGreatDoor.Z
