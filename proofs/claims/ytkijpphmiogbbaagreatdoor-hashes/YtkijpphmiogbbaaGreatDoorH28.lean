import Derived.Test.YtkijpphmiogbbaaGreatDoorH27
import Derived.Laws.BitsAllLaws
namespace Go.Proofs.YtkijpphmiogbbaaGreatDoor
open Go.RowKit

/-! ### The permutation by the document's definitions is the program's -/
def rotL (t : Nat) : Nat := (t + 1) * (t + 2) / 2 % 64
def pathR : Nat → Nat × Nat
  | 0 => (1, 0)
  | t + 1 => ((pathR t).2, (2 * (pathR t).1 + 3 * (pathR t).2) % 5)
/-- Where lane number t of the way comes from. -/
def src (t : Nat) : Nat := match t with | 0 => 1 | t + 1 => tgt t
theorem path_ok (t : Nat) (ht : t < 25) : pathR t = (src t % 5, src t / 5) := by
  induction t with
  | zero => rfl
  | succ t ih =>
    have h := ih (by omega)
    have hs : ∀ s : Fin 24, (src s.val / 5, (2 * (src s.val % 5) + 3 * (src s.val / 5)) % 5) = (src (s.val + 1) % 5, src (s.val + 1) / 5) := by decide
    show ((pathR t).2, (2 * (pathR t).1 + 3 * (pathR t).2) % 5) = _
    rw [h]
    exact hs ⟨t, by omega⟩
def rhoR (a : Nat → Int) : Nat → (Nat → Int)
  | 0 => upd (fun _ => 0) 0 (a 0)
  | t + 1 => upd (rhoR a t) ((pathR t).2 + 5 * ((2 * (pathR t).1 + 3 * (pathR t).2) % 5)) (rotI (a ((pathR t).1 + 5 * (pathR t).2)) (rotL t))
theorem rho_step (a : Nat → Int) (t : Nat) (ht : t < 24) : rhoR a (t + 1) = upd (rhoR a t) (tgt t) (rotI (a (src t)) (trn t)) := by
  have h1 : ∀ s : Fin 24, src s.val / 5 + 5 * ((2 * (src s.val % 5) + 3 * (src s.val / 5)) % 5) = tgt s.val := by decide
  have h2 : ∀ s : Fin 24, rotL s.val = trn s.val := by decide
  have h3 : src t % 5 + 5 * (src t / 5) = src t := by omega
  show upd (rhoR a t) ((pathR t).2 + 5 * ((2 * (pathR t).1 + 3 * (pathR t).2) % 5)) (rotI (a ((pathR t).1 + 5 * (pathR t).2)) (rotL t)) = _
  rw [path_ok t (by omega)]
  show upd (rhoR a t) (src t / 5 + 5 * ((2 * (src t % 5) + 3 * (src t / 5)) % 5)) (rotI (a (src t % 5 + 5 * (src t / 5))) (rotL t)) = _
  rw [h1 ⟨t, ht⟩, h2 ⟨t, ht⟩, h3]
def done (t j : Nat) : Bool := (List.range t).any (fun i => tgt i == j)
theorem done_succ (t j : Nat) : done (t + 1) j = (done t j || tgt t == j) := by
  unfold done; rw [List.range_succ, List.any_append]; simp
theorem turn_is (L : Nat → Int) (t : Nat) (ht : t ≤ 24) : (turnTo L t).1 = L (src t) ∧ ∀ j, (turnTo L t).2 j = if done t j = true then rhoR L t j else L j := by
  induction t with
  | zero => exact ⟨rfl, fun j => rfl⟩
  | succ t ih =>
    obtain ⟨h1, h2⟩ := ih (by omega)
    have hnew : done t (tgt t) = false := by
      have : ∀ s : Fin 24, done s.val (tgt s.val) = false := by decide
      exact this ⟨t, by omega⟩
    refine ⟨?_, fun j => ?_⟩
    · show (turnTo L t).2 (tgt t) = L (tgt t)
      rw [h2, hnew]; rfl
    · show upd (turnTo L t).2 (tgt t) (rotI (turnTo L t).1 (trn t)) j = _
      rw [h1, done_succ, rho_step L t (by omega)]
      unfold upd
      by_cases e : j = tgt t
      · subst e; simp
      · rw [if_neg e, h2]
        have e2 : (tgt t == j) = false := by simpa using fun h => e h.symm
        rw [e2, Bool.or_false, if_neg e]
theorem rho_zero (a : Nat → Int) (t : Nat) (ht : t ≤ 24) : rhoR a t 0 = a 0 := by
  induction t with
  | zero => rfl
  | succ t ih =>
    have h : ∀ s : Fin 24, tgt s.val ≠ 0 := by decide
    rw [rho_step a t (by omega), upd_ne _ _ _ _ (Ne.symm (h ⟨t, by omega⟩))]
    exact ih (by omega)
theorem rho_is (a : Nat → Int) (j : Nat) (hj : j < 25) : rhoR a 24 j = turnLanesF a j := by
  unfold turnLanesF
  rw [(turn_is a 24 (Nat.le_refl _)).2 j]
  by_cases e : j = 0
  · subst e
    rw [rho_zero a 24 (Nat.le_refl _)]
    split <;> rfl
  · have h : ∀ s : Fin 25, s.val ≠ 0 → done 24 s.val = true := by decide
    rw [h ⟨j, hj⟩ e]; rfl

theorem bits_range (op : BinOp) (x y : Int) : 0 ≤ bits op IntKind.u64 x y ∧ bits op IntKind.u64 x y < 18446744073709551616 := by
  unfold bits; simp only [IntKind.wrap_u64]; omega
theorem ofInt_bits_xor (x y : Int) : BitVec.ofInt 64 (bits BinOp.xor IntKind.u64 x y) = BitVec.ofInt 64 x ^^^ BitVec.ofInt 64 y := by
  show BitVec.ofInt 64 (IntKind.u64.wrap ((BitVec.ofInt 64 x ^^^ BitVec.ofInt 64 y).toNat : Int)) = _
  rw [IntKind.wrap_u64]
  have h := (BitVec.ofInt 64 x ^^^ BitVec.ofInt 64 y).isLt
  have e : (((BitVec.ofInt 64 x ^^^ BitVec.ofInt 64 y).toNat : Nat) : Int) % 18446744073709551616 = ((BitVec.ofInt 64 x ^^^ BitVec.ofInt 64 y).toNat : Int) := by omega
  rw [e, BitVec.ofInt_natCast, BitVec.ofNat_toNat]
  simp
theorem xor_assoc (a b c : Int) : bits BinOp.xor IntKind.u64 (bits BinOp.xor IntKind.u64 a b) c = bits BinOp.xor IntKind.u64 a (bits BinOp.xor IntKind.u64 b c) := by
  have e1 : bits BinOp.xor IntKind.u64 (bits BinOp.xor IntKind.u64 a b) c = IntKind.u64.wrap ((BitVec.ofInt 64 (bits BinOp.xor IntKind.u64 a b) ^^^ BitVec.ofInt 64 c).toNat : Int) := rfl
  have e2 : bits BinOp.xor IntKind.u64 a (bits BinOp.xor IntKind.u64 b c) = IntKind.u64.wrap ((BitVec.ofInt 64 a ^^^ BitVec.ofInt 64 (bits BinOp.xor IntKind.u64 b c)).toNat : Int) := rfl
  rw [e1, e2, ofInt_bits_xor, ofInt_bits_xor, BitVec.xor_assoc]
theorem xor_zero (a : Int) (h0 : 0 ≤ a) (h1 : a < 18446744073709551616) : bits BinOp.xor IntKind.u64 a 0 = a := by
  rw [u64_xor a 0 h0 h1 (by omega) (by omega)]
  simp; omega
def thetaR (L : Nat → Int) : Nat → Int := fun j => bits BinOp.xor IntKind.u64 (bits BinOp.xor IntKind.u64 (L j) (colSum L ((j % 5 + 4) % 5))) (rotI (colSum L ((j % 5 + 1) % 5)) 1)
theorem theta_is (L : Nat → Int) (j : Nat) : thetaR L j = mixColumnsF L j := by
  unfold thetaR mixColumnsF colMix; rw [xor_assoc]
def chiR (b : Nat → Int) : Nat → Int := fun j => chiI (b j) (b ((j % 5 + 1) % 5 + 5 * (j / 5))) (b ((j % 5 + 2) % 5 + 5 * (j / 5)))
theorem chi_is (b : Nat → Int) (j : Nat) : chiR b j = mixRowsF b j := by
  unfold chiR mixRowsF
  rw [show (j % 5 + 1) % 5 + 5 * (j / 5) = j / 5 * 5 + (j + 1) % 5 by omega, show (j % 5 + 2) % 5 + 5 * (j / 5) = j / 5 * 5 + (j + 2) % 5 by omega]
/-- The row of bits: its register, bit by bit. -/
def lfS : Nat → Nat
  | 0 => 1
  | n + 1 => if lfS n * 2 > 255 then (lfS n * 2) ^^^ 0x171 else lfS n * 2
def lfT : List Nat := [1, 2, 4, 8, 16, 32, 64, 128, 113, 226, 181, 27, 54, 108, 216, 193, 243, 151, 95, 190, 13, 26, 52, 104, 208, 209, 211, 215, 223, 207, 239, 175, 47, 94, 188, 9, 18, 36, 72, 144, 81, 162, 53, 106, 212, 217, 195, 247, 159, 79, 158, 77, 154, 69, 138, 101, 202, 229, 187, 7, 14, 28, 56, 112, 224, 177, 19, 38, 76, 152, 65, 130, 117, 234, 165, 59, 118, 236, 169, 35, 70, 140, 105, 210, 213, 219, 199, 255, 143, 111, 222, 205, 235, 167, 63, 126, 252, 137, 99, 198, 253, 139, 103, 206, 237, 171, 39, 78, 156, 73, 146, 85, 170, 37, 74, 148, 89, 178, 21, 42, 84, 168, 33, 66, 132, 121, 242, 149, 91, 182, 29, 58, 116, 232, 161, 51, 102, 204, 233, 163, 55, 110, 220, 201, 227, 183, 31, 62, 124, 248, 129, 115, 230, 189, 11, 22, 44, 88, 176, 17, 34, 68, 136, 97, 194, 245, 155, 71, 142]
theorem lf_tab (n : Nat) (h : n < 169) : lfS n = lfT[n]?.getD 0 := by
  induction n with
  | zero => rfl
  | succ n ih =>
    have hs : ∀ s : Fin 168, (if (lfT[s.val]?.getD 0) * 2 > 255 then ((lfT[s.val]?.getD 0) * 2) ^^^ 0x171 else (lfT[s.val]?.getD 0) * 2) = lfT[s.val + 1]?.getD 0 := by decide +kernel
    show (if lfS n * 2 > 255 then (lfS n * 2) ^^^ 0x171 else lfS n * 2) = _
    rw [ih (by omega)]
    exact hs ⟨n, by omega⟩
def iotaTo (a : Int) (t : Nat) : Nat → Int
  | 0 => a
  | j + 1 => if lfS (7 * t + j) % 2 = 1 then bits BinOp.xor IntKind.u64 (iotaTo a t j) (2 ^ (2 ^ j - 1)) else iotaTo a t j
def iotaC (t : Nat) : Nat → Int
  | 0 => 0
  | j + 1 => if lfS (7 * t + j) % 2 = 1 then bits BinOp.xor IntKind.u64 (iotaC t j) (2 ^ (2 ^ j - 1)) else iotaC t j
theorem iota_c (a : Int) (h0 : 0 ≤ a) (h1 : a < 18446744073709551616) (t : Nat) : ∀ j, iotaTo a t j = bits BinOp.xor IntKind.u64 a (iotaC t j)
  | 0 => (xor_zero a h0 h1).symm
  | j + 1 => by
    show (if lfS (7 * t + j) % 2 = 1 then bits BinOp.xor IntKind.u64 (iotaTo a t j) (2 ^ (2 ^ j - 1)) else iotaTo a t j) = bits BinOp.xor IntKind.u64 a (if lfS (7 * t + j) % 2 = 1 then bits BinOp.xor IntKind.u64 (iotaC t j) (2 ^ (2 ^ j - 1)) else iotaC t j)
    rw [iota_c a h0 h1 t j]
    split
    · rw [xor_assoc]
    · rfl
def iotaT (t : Nat) : Nat → Int
  | 0 => 0
  | j + 1 => if (lfT[7 * t + j]?.getD 0) % 2 = 1 then bits BinOp.xor IntKind.u64 (iotaT t j) (2 ^ (2 ^ j - 1)) else iotaT t j
theorem iota_t (t : Nat) (ht : t < 24) : ∀ j, j ≤ 7 → iotaC t j = iotaT t j
  | 0, _ => rfl
  | j + 1, h => by
    show (if lfS (7 * t + j) % 2 = 1 then bits BinOp.xor IntKind.u64 (iotaC t j) (2 ^ (2 ^ j - 1)) else iotaC t j) = (if (lfT[7 * t + j]?.getD 0) % 2 = 1 then bits BinOp.xor IntKind.u64 (iotaT t j) (2 ^ (2 ^ j - 1)) else iotaT t j)
    rw [lf_tab _ (by omega), iota_t t ht j (by omega)]
theorem iota_rb (t : Nat) (ht : t < 24) : iotaC t 7 = rbs t := by
  have h : ∀ s : Fin 24, iotaT s.val 7 = rbs s.val := by decide +kernel
  rw [iota_t t ht 7 (Nat.le_refl _)]
  exact h ⟨t, ht⟩
def roundR (a : Nat → Int) : Nat → Int := chiR (rhoR (thetaR a) 24)
def permR (a : Nat → Int) : Nat → (Nat → Int)
  | 0 => a
  | t + 1 => upd (roundR (permR a t)) 0 (iotaTo (roundR (permR a t) 0) t 7)
/-- Two states that agree on the 25 lanes. -/
def Same (a b : Nat → Int) : Prop := ∀ j, j < 25 → a j = b j
theorem colSum_same {a b : Nat → Int} (h : Same a b) (x : Nat) (hx : x < 5) : colSum a x = colSum b x := by
  unfold colSum; rw [h x (by omega), h (x + 5) (by omega), h (x + 10) (by omega), h (x + 15) (by omega), h (x + 20) (by omega)]
theorem theta_same {a b : Nat → Int} (h : Same a b) : Same (thetaR a) (mixColumnsF b) := fun j hj => by
  rw [theta_is]; unfold mixColumnsF colMix
  rw [h j hj, colSum_same h _ (by omega), colSum_same h _ (by omega)]
theorem rho_same {a b : Nat → Int} (h : Same a b) : ∀ t, t ≤ 24 → ∀ j, rhoR a t j = rhoR b t j
  | 0, _, j => by
    show upd (fun _ => 0) 0 (a 0) j = upd (fun _ => 0) 0 (b 0) j
    rw [h 0 (by omega)]
  | t + 1, ht, j => by
    rw [rho_step a t (by omega), rho_step b t (by omega)]
    have hs : src t < 25 := by
      cases t with
      | zero => decide
      | succ t => exact tgt_lt t
    unfold upd
    rw [h (src t) hs]
    split
    · rfl
    · exact rho_same h t (by omega) j
theorem rhoF_same {a b : Nat → Int} (h : Same a b) : Same (rhoR a 24) (turnLanesF b) := fun j hj => by
  rw [rho_same h 24 (Nat.le_refl _), rho_is b j hj]
theorem chi_same {a b : Nat → Int} (h : Same a b) : Same (chiR a) (mixRowsF b) := fun j hj => by
  rw [← chi_is]; unfold chiR; rw [h j hj, h _ (by omega), h _ (by omega)]
theorem round_same {a b : Nat → Int} (h : Same a b) : Same (roundR a) (roundF b) := chi_same (rhoF_same (theta_same h))
theorem roundR_range (a : Nat → Int) (j : Nat) : 0 ≤ roundR a j ∧ roundR a j < 18446744073709551616 := by
  unfold roundR chiR chiI
  exact bits_range _ _ _
theorem perm_same {a b : Nat → Int} (h : Same a b) : ∀ t, t ≤ 24 → Same (permR a t) (permTo b t)
  | 0, _ => h
  | t + 1, ht => fun j hj => by
    have ih := perm_same h t (by omega)
    have hr := round_same ih
    show upd (roundR (permR a t)) 0 (iotaTo (roundR (permR a t) 0) t 7) j = upd (roundF (permTo b t)) 0 (bits BinOp.xor IntKind.u64 (roundF (permTo b t) 0) (rbs t)) j
    rw [iota_c _ (roundR_range _ 0).1 (roundR_range _ 0).2, iota_rb t (by omega), hr 0 (by omega)]
    unfold upd
    split
    · rfl
    · exact hr j hj
end Go.Proofs.YtkijpphmiogbbaaGreatDoor
