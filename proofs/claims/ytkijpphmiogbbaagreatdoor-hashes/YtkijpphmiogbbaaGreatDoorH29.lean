import Derived.Test.YtkijpphmiogbbaaGreatDoorH28
namespace Go.Proofs.YtkijpphmiogbbaaGreatDoor
open Go.RowKit

/-! ### The sponge by the document's definitions is the program's -/
def InR (L : Nat → Int) : Prop := ∀ j, 0 ≤ L j ∧ L j < 18446744073709551616
theorem inr_zero : InR (fun _ => 0) := fun _ => ⟨Int.le_refl 0, by show (0 : Int) < 18446744073709551616; omega⟩
theorem inr_mix {s : Spg} (h : InR s.L) (n : Nat) (c : Int) : InR (mixS s n c).L := fun j => by
  show 0 ≤ upd s.L (n / 8) (mixI (s.L (n / 8)) c n) j ∧ upd s.L (n / 8) (mixI (s.L (n / 8)) c n) j < 18446744073709551616
  unfold upd
  split
  · exact bits_range _ _ _
  · exact h j
theorem inr_perm (L : Nat → Int) : InR (permF L) := fun j => by
  show 0 ≤ upd (roundF (permTo L 23)) 0 (bits BinOp.xor IntKind.u64 (roundF (permTo L 23) 0) (rbs 23)) j ∧ upd (roundF (permTo L 23)) 0 (bits BinOp.xor IntKind.u64 (roundF (permTo L 23) 0) (rbs 23)) j < 18446744073709551616
  unfold upd
  split
  · exact bits_range _ _ _
  · unfold roundF mixRowsF chiI; exact bits_range _ _ _
theorem inr_absorb1 {s : Spg} (h : InR s.L) (c : Int) : InR (absorb1 s c).L := by
  unfold absorb1
  split
  · exact inr_perm _
  · exact inr_mix h _ _
theorem inr_absorbS (l : List UInt8) : ∀ {s : Spg}, InR s.L → InR (absorbS s l).L := by
  induction l with
  | nil => intro s h; exact h
  | cons c l ih => intro s h; exact ih (inr_absorb1 h _)

theorem mixI_zero (v : Int) (n : Nat) (h0 : 0 ≤ v) (h1 : v < 18446744073709551616) : mixI v 0 n = v := by
  unfold mixI
  rw [IntKind.wrap_u64, IntKind.wrap_u64]
  have e : ((0 : Int) % 18446744073709551616 * 2 ^ ((n : Int) % 8 * 8).toNat) % 18446744073709551616 = 0 := by simp
  rw [e]
  exact xor_zero v h0 h1
theorem mixS_zero {s : Spg} (h : InR s.L) (n : Nat) : mixS s n 0 = s := by
  have e : upd s.L (n / 8) (mixI (s.L (n / 8)) 0 n) = s.L := by
    funext j
    unfold upd
    split
    · rename_i e; subst e; exact mixI_zero _ _ (h _).1 (h _).2
    · rfl
  unfold mixS; rw [e]
/-- Zeros move the place alone, till the last byte of the rate. -/
theorem absorb_zeros (k : Nat) : ∀ {s : Spg}, InR s.L → s.place + k < s.rate → absorbS s (List.replicate k 0) = { s with place := s.place + k } := by
  induction k with
  | zero => intro s _ _; rfl
  | succ k ih =>
    intro s h hp
    have e : absorb1 s ((0 : UInt8).toNat : Int) = { s with place := s.place + 1 } := by
      unfold absorb1
      rw [if_neg (by omega)]
      have := mixS_zero h s.place
      simp only [UInt8.toNat_zero, Int.natCast_zero] at *
      rw [this]
    rw [List.replicate_succ]
    show absorbS (absorb1 s ((0 : UInt8).toNat : Int)) (List.replicate k 0) = _
    rw [e, ih (s := { s with place := s.place + 1 }) h (by show s.place + 1 + k < s.rate; omega)]
    show Spg.mk _ _ _ _ _ = Spg.mk _ _ _ _ _
    rw [show s.place + 1 + k = s.place + (k + 1) by omega]
/-- What stands behind the text. -/
def padL (en : UInt8) (rate p : Nat) : List UInt8 := if p + 1 = rate then [en ^^^ 128] else en :: (List.replicate (rate - p - 2) 0 ++ [128])
theorem mixI_two (v : Int) (n : Nat) (hn : n % 8 = 7) (en : UInt8) (he : en = 6 ∨ en = 31) : mixI (mixI v (en.toNat : Int) n) 128 n = mixI v ((en ^^^ 128).toNat : Int) n := by
  unfold mixI
  rw [xor_assoc]
  have e : ((n : Int) % 8 * 8).toNat = 56 := by omega
  rw [e]
  rcases he with rfl | rfl
  · congr 1
  · congr 1
theorem mixS_two {s : Spg} (n : Nat) (hn : n % 8 = 7) (en : UInt8) (he : en = 6 ∨ en = 31) : mixS (mixS s n (en.toNat : Int)) n 128 = mixS s n ((en ^^^ 128).toNat : Int) := by
  have e : upd (upd s.L (n / 8) (mixI (s.L (n / 8)) (en.toNat : Int) n)) (n / 8) (mixI (upd s.L (n / 8) (mixI (s.L (n / 8)) (en.toNat : Int) n) (n / 8)) 128 n) = upd s.L (n / 8) (mixI (s.L (n / 8)) ((en ^^^ 128).toNat : Int) n) := by
    funext j
    rw [upd_same, mixI_two _ n hn en he]
    unfold upd
    split <;> rfl
  show Spg.mk _ _ _ _ _ = Spg.mk _ _ _ _ _
  rw [← e]
  rfl
theorem pad_is {s : Spg} (hT : Takes s) (h : InR s.L) (h8 : s.rate % 8 = 0) (en : UInt8) (he : en = 6 ∨ en = 31) (hen : s.en = (en.toNat : Int)) :
    absorbS s (padL en s.rate s.place) = { finishS s with spent := s.spent } := by
  have hp := hT.p
  unfold padL
  by_cases e : s.place + 1 = s.rate
  · rw [if_pos e]
    show absorb1 s ((en ^^^ 128).toNat : Int) = _
    unfold absorb1 finishS
    rw [if_pos e, hen, show s.rate - 1 = s.place by omega, mixS_two s.place (by omega) en he]
    rfl
  · rw [if_neg e]
    show absorbS (absorb1 s (en.toNat : Int)) (List.replicate (s.rate - s.place - 2) 0 ++ [128]) = _
    rw [absorbS_append]
    have e1 : absorb1 s (en.toNat : Int) = { mixS s s.place (en.toNat : Int) with place := s.place + 1 } := by
      unfold absorb1; rw [if_neg e]
    rw [e1, absorb_zeros (s.rate - s.place - 2) (s := { mixS s s.place (en.toNat : Int) with place := s.place + 1 }) (inr_mix h _ _) (by show s.place + 1 + (s.rate - s.place - 2) < s.rate; omega)]
    show absorb1 { mixS s s.place (en.toNat : Int) with place := s.place + 1 + (s.rate - s.place - 2) } ((128 : UInt8).toNat : Int) = _
    rw [show s.place + 1 + (s.rate - s.place - 2) = s.rate - 1 by omega]
    have e2 : ∀ u : Spg, u.place + 1 = u.rate → absorb1 u ((128 : UInt8).toNat : Int) = turnS (mixS u u.place 128) := fun u hu => by unfold absorb1; rw [if_pos hu]; rfl
    rw [e2 _ (show s.rate - 1 + 1 = s.rate by omega)]
    unfold finishS
    rw [hen]
    rfl

def permN (L : Nat → Int) : Nat → (Nat → Int)
  | 0 => L
  | m + 1 => permF (permN L m)
theorem sq1_at (F : Spg) (h0 : F.place = 0) (hr : 0 < F.rate) : ∀ i, sq1 (sqTo F i) = { F with L := permN F.L (i / F.rate), place := i % F.rate }
  | 0 => by
    show sq1 F = _
    unfold sq1
    rw [if_neg (by omega), Nat.zero_div, Nat.zero_mod]
    show F = Spg.mk F.L F.rate F.en 0 F.spent
    rw [← h0]
  | i + 1 => by
    have ih := sq1_at F h0 hr i
    have hl := Nat.mod_lt i hr
    show sq1 { sq1 (sqTo F i) with place := (sq1 (sqTo F i)).place + 1 } = _
    rw [ih]
    unfold sq1
    by_cases e : i % F.rate + 1 = F.rate
    · rw [if_pos e]
      have e1 : (i + 1) / F.rate = i / F.rate + 1 := by
        have hi := Nat.div_add_mod i F.rate
        have : i + 1 = F.rate * (i / F.rate + 1) := by rw [Nat.mul_add, Nat.mul_one]; omega
        rw [this, Nat.mul_div_cancel_left _ hr]
      have e2 : (i + 1) % F.rate = 0 := by
        have hi := Nat.div_add_mod i F.rate
        have : i + 1 = F.rate * (i / F.rate + 1) := by rw [Nat.mul_add, Nat.mul_one]; omega
        rw [this, Nat.mul_mod_right]
      rw [e1, e2]; rfl
    · rw [if_neg e]
      have hd : i + 1 = F.rate * (i / F.rate) + (i % F.rate + 1) := by have hi := Nat.div_add_mod i F.rate; omega
      have hlt : i % F.rate + 1 < F.rate := by omega
      generalize i / F.rate = d at *
      generalize i % F.rate = m at *
      have e1 : (i + 1) / F.rate = d := by rw [hd, Nat.mul_add_div hr, Nat.div_eq_of_lt hlt, Nat.add_zero]
      have e2 : (i + 1) % F.rate = m + 1 := by rw [hd, Nat.mul_add_mod, Nat.mod_eq_of_lt hlt]
      rw [e1, e2]
/-- Byte k of what a state gives. -/
def byteAt (L : Nat → Int) (k : Nat) : Int := IntKind.u8.wrap (L (k / 8) / 2 ^ ((k : Int) % 8 * 8).toNat)
theorem outI_at (F : Spg) (h0 : F.place = 0) (hr : 0 < F.rate) (i : Nat) : outI F i = byteAt (permN F.L (i / F.rate)) (i % F.rate) := by
  unfold outI; rw [sq1_at F h0 hr i]; rfl
end Go.Proofs.YtkijpphmiogbbaaGreatDoor
