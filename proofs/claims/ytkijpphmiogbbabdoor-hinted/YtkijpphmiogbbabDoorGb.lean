import Derived.Test.YtkijpphmiogbbabDoorGa
import Derived.Test.YtkijpphmiogbbabDoorDe
import Derived.Test.YtkijpphmiogbbabDoorLj
namespace Go.Proofs.YtkijpphmiogbbabDoor
open Go.RowKit
attribute [local go_sem ↓] Go.wp_at_zero Go.wp_at_succ
attribute [local go_sem] Tryd.zv24 Tryd.zv51

/-- A set of parameters in block b. -/
structure SetAt (W : World) (b : Nat) (g k o : Int) : Prop where
  g : W.cell? ⟨b, 0, none⟩ = some (.int .i64 g)
  k : W.cell? ⟨b, 1, none⟩ = some (.int .i64 k)
  o : W.cell? ⟨b, 2, none⟩ = some (.int .i64 o)
theorem SetAt.far {W W' : World} {b : Nat} {g k o : Int} {r : Option Nat} (h : SetAt W b g k o) (hg : W.grownBy W' r) (hne : some b ≠ r) : SetAt W' b g k o := ⟨hg.cell h.g hne, hg.cell h.k hne, hg.cell h.o hne⟩
theorem SetAt.new {W W' : World} {b : Nat} {g k o : Int} (h : SetAt W b g k o) (hg : W.grownBy W' none) : SetAt W' b g k o := h.far hg (by simp)
theorem SetAt.set_other {W : World} {b : Nat} {g k o : Int} (h : SetAt W b g k o) {p : Addr} (hp : p.block ≠ b) (v : Value) : SetAt (W.setCell p v) b g k o :=
  ⟨by rw [cell_other _ _ _ _ (Or.inl (Ne.symm hp))]; exact h.g, by rw [cell_other _ _ _ _ (Or.inl (Ne.symm hp))]; exact h.k, by rw [cell_other _ _ _ _ (Or.inl (Ne.symm hp))]; exact h.o⟩
theorem setAt_new (w : World) (g k o : Int) (T : TypeId) : SetAt (w.alloc (.cells #[.int .i64 g, .int .i64 k, .int .i64 o] T)) w.heap.size g k o :=
  ⟨by rw [World.cell?_alloc_new]; rfl, by rw [World.cell?_alloc_new]; rfl, by rw [World.cell?_alloc_new]; rfl⟩
theorem hk4 {W W' : World} {p q r s : Addr} {a b c d : Value} (h : W.cell? p = some a ∧ W.cell? q = some b ∧ W.cell? r = some c ∧ W.cell? s = some d) (hg : W.grownBy W' none) : W'.cell? p = some a ∧ W'.cell? q = some b ∧ W'.cell? r = some c ∧ W'.cell? s = some d :=
  ⟨hg.cell h.1 (by simp), hg.cell h.2.1 (by simp), hg.cell h.2.2.1 (by simp), hg.cell h.2.2.2 (by simp)⟩
theorem hk5 {W W' : World} {p q r s t : Addr} {a b c d e : Value} (h : W.cell? p = some a ∧ W.cell? q = some b ∧ W.cell? r = some c ∧ W.cell? s = some d ∧ W.cell? t = some e) (hg : W.grownBy W' none) : W'.cell? p = some a ∧ W'.cell? q = some b ∧ W'.cell? r = some c ∧ W'.cell? s = some d ∧ W'.cell? t = some e :=
  ⟨hg.cell h.1 (by simp), hg.cell h.2.1 (by simp), hg.cell h.2.2.1 (by simp), hg.cell h.2.2.2.1 (by simp), hg.cell h.2.2.2.2 (by simp)⟩
theorem cnt_le (f : Nat → Int) (n : Nat) : cnt f n ≤ n := by
  induction n with
  | zero => exact Nat.le_refl _
  | succ n ih => show cnt f n + _ ≤ n + 1; split <;> omega
theorem mix_none (M : Nat → Int) (k : Nat) (h : M k = 0) (j : Nat) : (if j < k then M j else 0) = if j < k + 1 then M j else 0 := by
  by_cases e : j = k
  · subst e; rw [if_neg (by omega), if_pos (by omega), h]
  · by_cases e2 : j < k
    · rw [if_pos e2, if_pos (by omega)]
    · rw [if_neg e2, if_neg (by omega)]
set_option maxHeartbeats 2000000 in
set_option maxRecDepth 20000 in
theorem sHint_any (Z R : Nat → Int) (g kk o : Int) (w : World) (hg0 : g = 95232 ∨ g = 261888) (hZ : ∀ i, i < 256 → 0 ≤ Z i ∧ Z i < 8380417) (hR : ∀ i, i < 256 → 0 ≤ R i ∧ R i < 8380417) :
    Calls Tryd.prog 15 #[.agg #[.int .i64 g, .int .i64 kk, .int .i64 o], .agg (polyA .u32 Z), .agg (polyA .u32 R)] w fun e w' => e = .returned (.tuple #[.agg (polyA .u32 (fun i => hintI g (Z i) (R i))), .int .i64 (cnt (fun i => hintI g (Z i) (R i)) 256 : Nat)]) ∧ w.grownBy w' none := by
  have HZ : Hid (∀ i, i < 256 → 0 ≤ Z i ∧ Z i < 8380417) := hZ
  have HR : Hid (∀ i, i < 256 → 0 ≤ R i ∧ R i < 8380417) := hR
  have HP : Hid (∀ a W, 0 ≤ a → a < 8380417 → Calls Tryd.prog 26 #[.agg #[.int .i64 g, .int .i64 kk, .int .i64 o], .int .i64 a] W fun e w' => e = .returned (.tuple #[.int .i64 (decH g a), .int .i64 (decL g a)]) ∧ W.grownBy w' none) := fun a W h0 h1 => part_any g kk o a W h0 (by omega) (by omega) (by omega)
  clear hZ hR hg0
  have s1 := setAt_new w g kk o 43
  have g1 := World.grownBy_alloc w (.cells #[.int .i64 g, .int .i64 kk, .int .i64 o] 43) none
  have e1 := World.size_alloc w (.cells #[.int .i64 g, .int .i64 kk, .int .i64 o] 43)
  go_enter Tryd.func15, Tryd.ntmps15
  go_wp2
  generalize w.alloc (.cells #[.int .i64 g, .int .i64 kk, .int .i64 o] 43) = w1 at *
  have n2 := new_alloc .u32 w1 Z 51
  generalize w1.alloc (.cells (polyA .u32 Z) 51) = w2 at *
  have n3 := new_alloc .u32 w2 R 51
  generalize w2.alloc (.cells (polyA .u32 R) 51) = w3 at *
  have n4 := new_alloc .u32 w3 (fun _ => 0) 51
  rw [← Tryd.zQ32] at n4
  generalize w3.alloc (.cells Tryd.zeroCells51 51) = w4 at *
  have hS := ((s1.new n2.g).new n3.g).new n4.g
  have hz := (n2.r.new n3.g).new n4.g
  have hr := n3.r.new n4.g
  have hA := n4.r
  have hg := grownBy_trans g1 (grownBy_trans n2.g (grownBy_trans n3.g n4.g))
  rw [n2.s] at hr
  rw [n3.s, n2.s] at hA
  rw [e1] at hz hr hA
  clear s1 g1 e1 n2 n3 n4
  obtain ⟨B, hB⟩ : ∃ B, B = w.heap.size := ⟨_, rfl⟩
  rw [← hB] at hS hz hr hA ⊢
  have hB' : w.heap.size ≤ B := by omega
  clear hB
  go_loopw [7, 8, 9, 10, 11, 12, 13] (fun c _ _ _ _ _ i wr => ∃ k : Nat, k ≤ 256 ∧ i = .int .i64 k ∧ c = .int .i64 (cnt (fun i => hintI g (Z i) (R i)) k : Nat) ∧ w.grownBy wr none ∧ SetAt wr B g kk o ∧ PRow .u32 wr (B + 1) 0 Z ∧ PRow .u32 wr (B + 1 + 1) 0 R ∧ PRow .u32 wr (B + 1 + 1 + 1) 0 (fun j => if j < k then hintI g (Z j) (R j) else 0)) (fun _ _ _ _ _ _ i _ => 256 - (intOf i).toNat)
  case atStart => exact ⟨0, by omega, rfl, rfl, hg, hS, hz, hr, hA.ext (fun j _ => by simp)⟩
  case round =>
    clear hS hz hr hA hg
    obtain ⟨k, hk, rfl, rfl, hg, hS, hz, hr, hA⟩ := hrel
    by_cases hlt : k < 256
    · have b0 : (0 : Int) ≤ (k : Int) := by omega
      have b1 : (k : Int) < 256 := by omega
      have z0 := (HZ.out k hlt).1
      have z1 := (HZ.out k hlt).2
      have r0 := (HR.out k hlt).1
      have r1 := (HR.out k hlt).2
      have cz := (hz.at0 k hlt).1
      have cr := (hr.at0 k hlt).1
      have c0 := hS.g
      have c1 := hS.k
      have c2 := hS.o
      have cv : IntKind.i64.wrap (R k) = R k := by rw [IntKind.wrap_i64] <;> omega
      obtain ⟨t, ht⟩ : ∃ t, t = (R k + Z k) % 8380417 := ⟨_, rfl⟩
      have t0 : 0 ≤ t := by rw [ht]; exact Int.emod_nonneg _ (by omega)
      have t1 : t < 8380417 := by rw [ht]; exact Int.emod_lt_of_pos _ (by omega)
      have cw : IntKind.u32.wrap (R k + Z k) = R k + Z k := by rw [IntKind.wrap_u32]; omega
      have ce : (R k + Z k) % 4294967296 = R k + Z k := by omega
      have ct : IntKind.i64.wrap t = t := by rw [IntKind.wrap_i64] <;> omega
      have HP1 : Hid (∀ W, Calls Tryd.prog 26 #[.agg #[.int .i64 g, .int .i64 kk, .int .i64 o], .int .i64 (R k)] W fun e w' => e = .returned (.tuple #[.int .i64 (decH g (R k)), .int .i64 (decL g (R k))]) ∧ W.grownBy w' none) := fun W => HP.out (R k) W r0 r1
      have HP2 : Hid (∀ W, Calls Tryd.prog 26 #[.agg #[.int .i64 g, .int .i64 kk, .int .i64 o], .int .i64 t] W fun e w' => e = .returned (.tuple #[.int .i64 (decH g t), .int .i64 (decL g t)]) ∧ W.grownBy w' none) := fun W => HP.out t W t0 t1
      go_wp2_with fail
      go_region_held3 (fun W => W.cell? ⟨B, 0, none⟩ = some (.int .i64 g) ∧ W.cell? ⟨B, 1, none⟩ = some (.int .i64 kk) ∧ W.cell? ⟨B, 2, none⟩ = some (.int .i64 o) ∧ W.cell? ⟨B + 1 + 1, k, none⟩ = some (.int .u32 (R k))) (first | go_keep | exact hk4 (by assumption) (by assumption)) (first | (go_at_call 26; refine (HP1.out _).mono ?_; rintro e w5 ⟨rfl, g5⟩))
      replace c0 := g5.cell (show wr.drew.cell? _ = _ from c0) (by simp)
      replace c1 := g5.cell (show wr.drew.cell? _ = _ from c1) (by simp)
      replace c2 := g5.cell (show wr.drew.cell? _ = _ from c2) (by simp)
      replace cr := g5.cell (show wr.drew.cell? _ = _ from cr) (by simp)
      replace cz := g5.cell (show wr.drew.cell? _ = _ from cz) (by simp)
      have ct2 : (R k + Z k).tmod 8380417 = t := by rw [Int.tmod_eq_emod_of_nonneg (by omega)]; exact ht.symm
      have g5r : wr.grownBy w5 none := grownBy_trans (grown_drew (World.grownBy.refl wr none)) g5
      have HK : Hid (w.grownBy w5 none ∧ SetAt w5 B g kk o ∧ PRow .u32 w5 (B + 1) 0 Z ∧ PRow .u32 w5 (B + 1 + 1) 0 R ∧ PRow .u32 w5 (B + 1 + 1 + 1) 0 (fun j => if j < k then hintI g (Z j) (R j) else 0)) := ⟨grownBy_trans hg g5r, hS.new g5r, hz.new g5r, hr.new g5r, hA.new g5r⟩
      have HT : Hid (t = (R k + Z k) % 8380417) := ht
      clear hS hz hr hA hg g5 g5r HP HP1 ht HZ HR
      go_wp2_with fail
      go_region_held3 (fun W => W.cell? ⟨B, 0, none⟩ = some (.int .i64 g) ∧ W.cell? ⟨B, 1, none⟩ = some (.int .i64 kk) ∧ W.cell? ⟨B, 2, none⟩ = some (.int .i64 o) ∧ W.cell? ⟨B + 1 + 1, k, none⟩ = some (.int .u32 (R k)) ∧ W.cell? ⟨B + 1, k, none⟩ = some (.int .u32 (Z k))) (first | go_keep | exact hk5 (by assumption) (by assumption)) (first | (go_at_call 26; refine (HP2.out _).mono ?_; rintro e w6 ⟨rfl, g6⟩))
      have g56 : w5.grownBy w6 none := grownBy_trans (grown_drew (World.grownBy.refl w5 none)) g6
      have ht := HT.out
      have hS6 := HK.out.2.1.new g56
      have hz6 := HK.out.2.2.1.new g56
      have hr6 := HK.out.2.2.2.1.new g56
      have hA6 := HK.out.2.2.2.2.new g56
      have hg6 := grownBy_trans HK.out.1 g56
      clear g56 g6 c0 c1 c2 cr cz HP2 HK HT
      have cc := (hA6.at0 k hlt).1
      have ff := (hA6.at0 k hlt).2
      by_cases he : decH g (R k) = decH g t
      · have hh : hintI g (Z k) (R k) = 0 := by unfold hintI; rw [← ht, if_pos he]
        have hcn := cnt_zero (fun i => hintI g (Z i) (R i)) k hh
        rw [he]
        clear he ht
        go_wp2
        go_roundw
        case rel =>
          exact ⟨k + 1, by omega, by go_num, by rw [hcn], hg6, hS6, hz6, hr6, hA6.ext (fun j _ => mix_none (fun j => hintI g (Z j) (R j)) k hh j)⟩
        case measure => simp [intOf]; omega
      · have hh : hintI g (Z k) (R k) = 1 := by unfold hintI; rw [← ht, if_neg he]
        have hd : (decH g (R k) == decH g t) = false := by simpa using he
        have hcn := cnt_one (fun i => hintI g (Z i) (R i)) k (by show hintI g (Z k) (R k) ≠ 0; omega)
        have hcl := cnt_mono (fun i => hintI g (Z i) (R i)) (show k ≤ 256 by omega)
        have hcm : cnt (fun i => hintI g (Z i) (R i)) k ≤ k := cnt_le _ k
        have hd3 : (decH g (R k) != decH g t) = true := by simpa using he
        clear ht he
        obtain ⟨c, hc⟩ : ∃ c, c = cnt (fun i => hintI g (Z i) (R i)) k := ⟨_, rfl⟩
        rw [← hc] at hcm hcn ⊢
        clear hcl
        go_wp2
        go_roundw
        case rel =>
          have hA7 : PRow .u32 (w6.setCell ⟨B + 1 + 1 + 1, k, none⟩ (.int .u32 1)) (B + 1 + 1 + 1) 0 (fun j => if j < k + 1 then hintI g (Z j) (R j) else 0) := (hA6.set0 hlt 1).ext (fun j _ => by have := mix_step (fun j => hintI g (Z j) (R j)) (fun _ => 0) k j; rw [hh] at this; exact this)
          exact ⟨k + 1, by omega, by go_num, by rw [hcn]; go_num, grown_setNew hg6 (by simp; omega) _, hS6.set_other (by simp <;> omega) _, hz6.set_other (by simp <;> omega) _, hr6.set_other (by simp <;> omega) _, hA7⟩
        case measure => simp [intOf]; omega
    · have hk6 : k = 256 := by omega
      subst hk6
      have hA' : PRow .u32 wr (B + 1 + 1 + 1) 0 (fun i => hintI g (Z i) (R i)) := hA.ext (fun j hj => by simp [hj])
      clear hA
      go_wp2_with (first | (refine wpL_load rfl .u32 51 _ rfl (B + 1 + 1 + 1) 0 rfl _ hA' Tryd.oQ32 Tryd.sQ32 ?_) | (refine wpL_store rfl .u32 51 _ _ rfl (B + 1 + 1 + 1) 0 rfl _ rfl .u32 _ hA' Tryd.sQ32 ?_; intro w7 p7))
      refine bodyPost_ret (res2 rfl .u32 _ w7 (B + 1 + 1 + 1) _ _ rfl rfl p7.r Tryd.oQ32 Tryd.sQ32) rfl ⟨rfl, grown_new hg p7.g (by omega)⟩
end Go.Proofs.YtkijpphmiogbbabDoor
