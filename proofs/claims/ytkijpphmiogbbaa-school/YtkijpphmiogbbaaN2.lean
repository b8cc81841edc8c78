namespace Go.Proofs.Ytkijpphmiogbbaa
/-- The same modulo q. -/
def Cg (q a b : Int) : Prop := ∃ t, a = b + q * t
theorem Cg.refl (q a : Int) : Cg q a a := ⟨0, by omega⟩
theorem Cg.of_eq {q a b : Int} (h : a = b) : Cg q a b := h ▸ Cg.refl q a
theorem Cg.symm {q a b : Int} (h : Cg q a b) : Cg q b a := by obtain ⟨t, h⟩ := h; exact ⟨-t, by grind⟩
theorem Cg.trans {q a b c : Int} (h : Cg q a b) (k : Cg q b c) : Cg q a c := by obtain ⟨t, h⟩ := h; obtain ⟨s, k⟩ := k; exact ⟨t + s, by grind⟩
theorem Cg.add {q a b c d : Int} (h : Cg q a b) (k : Cg q c d) : Cg q (a + c) (b + d) := by obtain ⟨t, h⟩ := h; obtain ⟨s, k⟩ := k; exact ⟨t + s, by grind⟩
theorem Cg.sub {q a b c d : Int} (h : Cg q a b) (k : Cg q c d) : Cg q (a - c) (b - d) := by obtain ⟨t, h⟩ := h; obtain ⟨s, k⟩ := k; exact ⟨t - s, by grind⟩
theorem Cg.mul {q a b c d : Int} (h : Cg q a b) (k : Cg q c d) : Cg q (a * c) (b * d) := by
  obtain ⟨t, h⟩ := h; obtain ⟨s, k⟩ := k; exact ⟨t * d + b * s + q * t * s, by grind⟩
theorem cg_mod (q a : Int) : Cg q (a % q) a := ⟨-(a / q), by have := Int.emod_def a q; grind⟩
theorem Cg.eq {q a b : Int} (h : Cg q a b) (a0 : 0 ≤ a) (a1 : a < q) (b0 : 0 ≤ b) (b1 : b < q) : a = b := by
  obtain ⟨t, h⟩ := h
  have e : (b + q * t) % q = b % q := Int.add_mul_emod_self_left b q t
  rw [← h, Int.emod_eq_of_lt a0 a1, Int.emod_eq_of_lt b0 b1] at e
  exact e
theorem Cg.mod_eq {q a b : Int} (h : Cg q a b) : a % q = b % q := by
  obtain ⟨t, h⟩ := h
  rw [h, Int.add_mul_emod_self_left]

/-- A layer of the transform: blocks of 2 half, k of them. -/
def layF (q : Int) (z : Nat → Int) (half k : Nat) (L : Nat → Int) : Nat → Int := fun j =>
  if j % (2 * half) < half then (L j + z (k + j / (2 * half)) * L (j + half)) % q else (L (j - half) - z (k + j / (2 * half)) * L j) % q
def layI (q : Int) (z : Nat → Int) (half k : Nat) (L : Nat → Int) : Nat → Int := fun j =>
  if j % (2 * half) < half then (L j + L (j + half)) % q else z (2 * k - 1 - j / (2 * half)) * (L j - L (j - half)) % q
theorem up_mod {j h : Nat} (hj : j % (2 * h) < h) : (j + h) % (2 * h) = j % (2 * h) + h ∧ (j + h) / (2 * h) = j / (2 * h) := by
  have e := Nat.div_add_mod j (2 * h)
  have e2 : j + h = 2 * h * (j / (2 * h)) + (j % (2 * h) + h) := by omega
  constructor
  · rw [e2, Nat.mul_add_mod, Nat.mod_eq_of_lt]
    omega
  · conv => lhs; rw [e2]
    rw [Nat.mul_add_div (by omega), Nat.div_eq_of_lt (a := j % (2 * h) + h) (by omega)]; rfl
theorem down_mod {j h : Nat} (h0 : 0 < h) (hj : ¬ j % (2 * h) < h) : (j - h) % (2 * h) = j % (2 * h) - h ∧ (j - h) / (2 * h) = j / (2 * h) ∧ h ≤ j := by
  have e := Nat.div_add_mod j (2 * h)
  have hm := Nat.mod_lt j (show 0 < 2 * h by omega)
  have e2 : j - h = 2 * h * (j / (2 * h)) + (j % (2 * h) - h) := by omega
  have h3 : h ≤ j := Nat.le_trans (Nat.le_of_not_lt hj) (Nat.mod_le _ _)
  refine ⟨?_, ?_, h3⟩
  · rw [e2, Nat.mul_add_mod, Nat.mod_eq_of_lt]
    omega
  · conv => lhs; rw [e2]
    rw [Nat.mul_add_div (by omega), Nat.div_eq_of_lt (a := j % (2 * h) - h) (by omega)]; rfl
theorem up_lt {j h k : Nat} (hk : 2 * h * k = 256) (hj : j < 256) (hr : j % (2 * h) < h) : j + h < 256 := by
  have h1 : j / (2 * h) < k := by rw [Nat.div_lt_iff_lt_mul (by omega)]; rw [Nat.mul_comm]; omega
  have e := Nat.div_add_mod j (2 * h)
  have h2 : 2 * h * (j / (2 * h)) + 2 * h ≤ 256 := by
    rw [← hk, ← Nat.mul_succ]; exact Nat.mul_le_mul_left _ h1
  omega
theorem blk_lt {j h k : Nat} (hk : 2 * h * k = 256) (hj : j < 256) : j / (2 * h) < k := by
  have : 0 < 2 * h := by rcases Nat.eq_zero_or_pos (2 * h) with e | e; · rw [e] at hk; omega
                         · exact e
  rw [Nat.div_lt_iff_lt_mul this, Nat.mul_comm]; omega
/-- The zetas of a layer, from both ends, make -1. -/
def Mates (q : Int) (z : Nat → Int) (k : Nat) : Prop := ∀ b, b < k → Cg q (z (k + b) * z (2 * k - 1 - b)) (-1)
theorem layIF (q : Int) (z : Nat → Int) (h k : Nat) (L : Nat → Int) (hk : 2 * h * k = 256) (hz : Mates q z k) (j : Nat) (hj : j < 256) : Cg q (layI q z h k (layF q z h k L) j) (2 * L j) := by
  have h0 : 0 < h := by rcases Nat.eq_zero_or_pos h with e | e; · subst e; omega
                        · exact e
  have hb := blk_lt hk hj
  obtain ⟨t, ht⟩ := hz _ hb
  unfold layI
  by_cases hr : j % (2 * h) < h
  · have hu := up_mod hr
    rw [if_pos hr]
    refine (cg_mod _ _).trans ?_
    unfold layF
    rw [if_pos hr, if_neg (by omega), hu.2, Nat.add_sub_cancel]
    exact ((cg_mod _ _).add (cg_mod _ _)).trans (.of_eq (by grind))
  · have hd := down_mod h0 hr
    have hm := Nat.mod_lt j (show 0 < 2 * h by omega)
    rw [if_neg hr]
    refine (cg_mod _ _).trans ?_
    unfold layF
    rw [if_neg hr, if_pos (by omega), hd.2.1, Nat.sub_add_cancel hd.2.2]
    refine ((Cg.refl _ _).mul ((cg_mod _ _).sub (cg_mod _ _))).trans ?_
    exact ⟨-2 * t * L j, by grind⟩
theorem layFI (q : Int) (z : Nat → Int) (h k : Nat) (L : Nat → Int) (hk : 2 * h * k = 256) (hz : Mates q z k) (j : Nat) (hj : j < 256) : Cg q (layF q z h k (layI q z h k L) j) (2 * L j) := by
  have h0 : 0 < h := by rcases Nat.eq_zero_or_pos h with e | e; · subst e; omega
                        · exact e
  have hb := blk_lt hk hj
  obtain ⟨t, ht⟩ := hz _ hb
  unfold layF
  by_cases hr : j % (2 * h) < h
  · have hu := up_mod hr
    rw [if_pos hr]
    refine (cg_mod _ _).trans ?_
    unfold layI
    rw [if_pos hr, if_neg (by omega), hu.2, Nat.add_sub_cancel]
    refine ((cg_mod _ _).add ((Cg.refl _ _).mul (cg_mod _ _))).trans ?_
    exact ⟨t * (L (j + h) - L j), by grind⟩
  · have hd := down_mod h0 hr
    have hm := Nat.mod_lt j (show 0 < 2 * h by omega)
    rw [if_neg hr]
    refine (cg_mod _ _).trans ?_
    unfold layI
    rw [if_neg hr, if_pos (by omega), Nat.sub_add_cancel hd.2.2]
    refine ((cg_mod _ _).sub ((Cg.refl _ _).mul (cg_mod _ _))).trans ?_
    exact ⟨-t * (L j - L (j - h)), by grind⟩
theorem layF_lin (q c : Int) (z : Nat → Int) (h k : Nat) (L M : Nat → Int) (hk : 2 * h * k = 256) (e : ∀ j, j < 256 → Cg q (M j) (c * L j)) (j : Nat) (hj : j < 256) : Cg q (layF q z h k M j) (c * layF q z h k L j) := by
  unfold layF
  by_cases hr : j % (2 * h) < h
  · rw [if_pos hr, if_pos hr]
    refine ((cg_mod _ _).trans ?_).trans ((Cg.refl _ _).mul (cg_mod _ _)).symm
    exact ((e j hj).add ((Cg.refl _ _).mul (e _ (up_lt hk hj hr)))).trans (.of_eq (by grind))
  · rw [if_neg hr, if_neg hr]
    refine ((cg_mod _ _).trans ?_).trans ((Cg.refl _ _).mul (cg_mod _ _)).symm
    exact ((e _ (by omega)).sub ((Cg.refl _ _).mul (e j hj))).trans (.of_eq (by grind))
theorem layI_lin (q c : Int) (z : Nat → Int) (h k : Nat) (L M : Nat → Int) (hk : 2 * h * k = 256) (e : ∀ j, j < 256 → Cg q (M j) (c * L j)) (j : Nat) (hj : j < 256) : Cg q (layI q z h k M j) (c * layI q z h k L j) := by
  unfold layI
  by_cases hr : j % (2 * h) < h
  · rw [if_pos hr, if_pos hr]
    refine ((cg_mod _ _).trans ?_).trans ((Cg.refl _ _).mul (cg_mod _ _)).symm
    exact ((e j hj).add (e _ (up_lt hk hj hr))).trans (.of_eq (by grind))
  · rw [if_neg hr, if_neg hr]
    refine ((cg_mod _ _).trans ?_).trans ((Cg.refl _ _).mul (cg_mod _ _)).symm
    exact ((Cg.refl _ _).mul ((e j hj).sub (e _ (by omega)))).trans (.of_eq (by grind))

/-- The first n layers of the transform; the same taken back. -/
def fwdN (q : Int) (z : Nat → Int) : Nat → (Nat → Int) → Nat → Int
  | 0, L => L
  | l + 1, L => layF q z (128 / 2 ^ l) (2 ^ l) (fwdN q z l L)
def invN (q : Int) (z : Nat → Int) : Nat → (Nat → Int) → Nat → Int
  | 0, L => L
  | l + 1, L => invN q z l (layI q z (128 / 2 ^ l) (2 ^ l) L)
theorem halves (l : Nat) (h : l < 8) : 2 * (128 / 2 ^ l) * 2 ^ l = 256 := by
  have : ∀ l : Fin 8, 2 * (128 / 2 ^ l.val) * 2 ^ l.val = 256 := by decide
  exact this ⟨l, h⟩
theorem invN_lin (q c : Int) (z : Nat → Int) : ∀ (l : Nat) (L M : Nat → Int), l ≤ 8 → (∀ j, j < 256 → Cg q (M j) (c * L j)) → ∀ j, j < 256 → Cg q (invN q z l M j) (c * invN q z l L j)
  | 0, _, _, _, e => e
  | l + 1, L, M, hl, e => invN_lin q c z l _ _ (by omega) (layI_lin q c z _ _ L M (halves l hl) e)
theorem fwdN_lin (q c : Int) (z : Nat → Int) : ∀ (l : Nat) (L M : Nat → Int), l ≤ 8 → (∀ j, j < 256 → Cg q (M j) (c * L j)) → ∀ j, j < 256 → Cg q (fwdN q z l M j) (c * fwdN q z l L j)
  | 0, _, _, _, e => e
  | l + 1, L, M, hl, e => layF_lin q c z _ _ _ _ (halves l hl) (fwdN_lin q c z l L M (by omega) e)
theorem inv_fwd (q : Int) (z : Nat → Int) : ∀ (n : Nat) (L : Nat → Int), n ≤ 8 → (∀ l, l < n → Mates q z (2 ^ l)) → ∀ j, j < 256 → Cg q (invN q z n (fwdN q z n L) j) (2 ^ n * L j)
  | 0, L, _, _, j, _ => .of_eq (by simp [invN, fwdN])
  | l + 1, L, hl, hm, j, hj => by
    refine (invN_lin q 2 z l _ _ (by omega) (layIF q z _ _ (fwdN q z l L) (halves l hl) (hm l (by omega))) j hj).trans ?_
    refine ((Cg.refl _ _).mul (inv_fwd q z l L (by omega) (fun i hi => hm i (by omega)) j hj)).trans (.of_eq ?_)
    rw [Int.pow_succ]; grind
theorem fwd_inv (q : Int) (z : Nat → Int) : ∀ (n : Nat) (L : Nat → Int), n ≤ 8 → (∀ l, l < n → Mates q z (2 ^ l)) → ∀ j, j < 256 → Cg q (fwdN q z n (invN q z n L) j) (2 ^ n * L j)
  | 0, L, _, _, j, _ => .of_eq (by simp [invN, fwdN])
  | l + 1, L, hl, hm, j, hj => by
    refine (layF_lin q (2 ^ l) z _ _ _ _ (halves l hl) (fwd_inv q z l (layI q z (128 / 2 ^ l) (2 ^ l) L) (by omega) (fun i hi => hm i (by omega))) j hj).trans ?_
    refine ((Cg.refl _ _).mul (layFI q z _ _ L (halves l hl) (hm l (by omega)) j hj)).trans (.of_eq ?_)
    rw [Int.pow_succ]; grind

def sm : Nat → (Nat → Int) → Int
  | 0, _ => 0
  | n + 1, f => sm n f + f n
theorem sm_ext : ∀ (n : Nat) (f g : Nat → Int), (∀ t, t < n → f t = g t) → sm n f = sm n g
  | 0, _, _, _ => rfl
  | n + 1, f, g, h => by rw [sm, sm, sm_ext n f g (fun t ht => h t (by omega)), h n (by omega)]
theorem sm_cg (q : Int) : ∀ (n : Nat) (f g : Nat → Int), (∀ t, t < n → Cg q (f t) (g t)) → Cg q (sm n f) (sm n g)
  | 0, _, _, _ => .refl _ _
  | n + 1, f, g, h => (sm_cg q n f g (fun t ht => h t (by omega))).add (h n (by omega))
theorem sm_two : ∀ (n : Nat) (f : Nat → Int), sm (2 * n) f = sm n (fun t => f (2 * t)) + sm n (fun t => f (2 * t + 1))
  | 0, _ => rfl
  | n + 1, f => by
    rw [show 2 * (n + 1) = 2 * n + 1 + 1 by omega, sm, sm, sm, sm, sm_two n f]; omega
theorem sm_mul (c : Int) : ∀ (n : Nat) (f : Nat → Int), c * sm n f = sm n (fun t => c * f t)
  | 0, _ => by simp [sm]
  | n + 1, f => by rw [sm, sm, ← sm_mul c n f, Int.mul_add]
theorem Cg.pow {q a b : Int} (h : Cg q a b) : ∀ t : Nat, Cg q (a ^ t) (b ^ t)
  | 0 => .of_eq (by simp)
  | t + 1 => by rw [Int.pow_succ, Int.pow_succ]; exact (h.pow t).mul h
theorem pow_two (w : Int) (t : Nat) : w ^ (2 * t) = (w * w) ^ t := by
  rw [Int.pow_mul]; congr 1; rw [Int.pow_succ, Int.pow_succ]; simp
theorem split_sum (q w y : Int) (L : Nat → Int) (r h n : Nat) (hw : Cg q (w * w) y) :
    Cg q (sm (2 * n) (fun s => L (r + h * s) * w ^ s)) (sm n (fun t => L (r + 2 * h * t) * y ^ t) + w * sm n (fun t => L (r + h + 2 * h * t) * y ^ t)) := by
  rw [sm_two, sm_mul]
  refine (sm_cg q n _ _ fun t _ => ?_).add (sm_cg q n _ _ fun t _ => ?_)
  · rw [pow_two, show h * (2 * t) = 2 * h * t by grind]
    exact (Cg.refl _ _).mul (hw.pow t)
  · rw [Int.pow_succ, pow_two, show r + h * (2 * t + 1) = r + h + 2 * h * t by grind]
    refine ((Cg.refl _ _).mul ((hw.pow t).mul (Cg.refl _ _))).trans (.of_eq (by grind))
/-- y l b: the root of block b behind l layers. -/
structure Roots (q : Int) (z : Nat → Int) (y : Nat → Nat → Int) (n : Nat) : Prop where
  sq : ∀ l b, l < n → b < 2 ^ l → Cg q (z (2 ^ l + b) * z (2 ^ l + b)) (y l b)
  even : ∀ l b, l < n → b < 2 ^ l → y (l + 1) (2 * b) = z (2 ^ l + b)
  odd : ∀ l b, l < n → b < 2 ^ l → y (l + 1) (2 * b + 1) = - z (2 ^ l + b)
theorem fwd_eval (q : Int) (z : Nat → Int) (y : Nat → Nat → Int) (n : Nat) (hn : n ≤ 8) (R : Roots q z y n) (L : Nat → Int) : ∀ l, l ≤ n → ∀ b r, b < 2 ^ l → r < 256 / 2 ^ l →
    Cg q (fwdN q z l L (256 / 2 ^ l * b + r)) (sm (2 ^ l) (fun t => L (r + 256 / 2 ^ l * t) * y l b ^ t))
  | 0, _, b, r, hb, hr => by
    obtain rfl : b = 0 := by simpa using hb
    exact .of_eq (by simp [fwdN, sm])
  | l + 1, hl, b, r, hb, hr => by
    have ih := fwd_eval q z y n hn R L l (by omega)
    have hh : 256 / 2 ^ (l + 1) = 128 / 2 ^ l ∧ 256 / 2 ^ l = 2 * (128 / 2 ^ l) ∧ 0 < 128 / 2 ^ l := by
      have : ∀ l : Fin 8, 256 / 2 ^ (l.val + 1) = 128 / 2 ^ l.val ∧ 256 / 2 ^ l.val = 2 * (128 / 2 ^ l.val) ∧ 0 < 128 / 2 ^ l.val := by decide
      exact this ⟨l, by omega⟩
    have hlay : fwdN q z (l + 1) L = layF q z (128 / 2 ^ l) (2 ^ l) (fwdN q z l L) := rfl
    rw [hh.1] at hr ⊢
    rw [hh.2.1] at ih
    generalize 128 / 2 ^ l = h at *
    obtain ⟨_, _, h0⟩ := hh
    rw [Nat.pow_succ] at hb
    have hb2 : b / 2 < 2 ^ l := by omega
    have hsq := R.sq l (b / 2) (by omega) hb2
    have i1 := ih (b / 2) r hb2 (by omega)
    have i2 := ih (b / 2) (r + h) hb2 (by omega)
    rw [show (2 : Nat) ^ (l + 1) = 2 * 2 ^ l by rw [Nat.pow_succ]; omega]
    rw [hlay]
    unfold layF
    rcases Nat.mod_two_eq_zero_or_one b with hm | hm
    · have e1 : b = 2 * (b / 2) := by omega
      have e2 : h * b + r = 2 * h * (b / 2) + r := by conv => lhs; rw [e1]
                                                      grind
      have ey : y (l + 1) b = z (2 ^ l + b / 2) := by conv => lhs; rw [e1]
                                                      exact R.even l (b / 2) (by omega) hb2
      rw [ey, e2, Nat.mul_add_mod, Nat.mod_eq_of_lt (show r < 2 * h by omega), if_pos hr, Nat.mul_add_div (by omega), Nat.div_eq_of_lt (show r < 2 * h by omega), Nat.add_zero, Nat.add_assoc]
      refine ((cg_mod _ _).trans ?_).trans (split_sum q _ _ L r h _ hsq).symm
      exact i1.add ((Cg.refl _ _).mul i2)
    · have e1 : b = 2 * (b / 2) + 1 := by omega
      have e2 : h * b + r = 2 * h * (b / 2) + (r + h) := by conv => lhs; rw [e1]
                                                            grind
      have ey : y (l + 1) b = - z (2 ^ l + b / 2) := by conv => lhs; rw [e1]
                                                        exact R.odd l (b / 2) (by omega) hb2
      rw [ey, e2, Nat.mul_add_mod, Nat.mod_eq_of_lt (show r + h < 2 * h by omega), if_neg (by omega), Nat.mul_add_div (by omega), Nat.div_eq_of_lt (show r + h < 2 * h by omega), Nat.add_zero, show 2 * h * (b / 2) + (r + h) - h = 2 * h * (b / 2) + r by omega]
      refine ((cg_mod _ _).trans ?_).trans (split_sum q _ _ L r h _ (Cg.trans (.of_eq (by grind)) hsq)).symm
      exact (i1.sub ((Cg.refl _ _).mul i2)).trans (.of_eq (by grind))

/-- A product in pairs: a + b X, modulo X^2 - s. The powers of X are (A u, B u). -/
structure Pairs (q s : Int) (A B : Nat → Int) : Prop where
  zero : A 0 = 1 ∧ B 0 = 0
  mulA : ∀ u v, Cg q (A (u + v)) (A u * A v + s * (B u * B v))
  mulB : ∀ u v, Cg q (B (u + v)) (A u * B v + B u * A v)
  top : Cg q (A 256) (-1) ∧ Cg q (B 256) 0
/-- School's product: the first i coefficients of f done, of the next one j places. -/
def scCell (q : Int) (f g w : Nat → Int) (i j : Nat) : Nat → Int := fun u =>
  if u = (i + j) % 256 then (if i + j < 256 then (w u + f i * g j % q) % q else (w u + q - f i * g j % q) % q) else w u
def scRow (q : Int) (f g w : Nat → Int) (i : Nat) : Nat → Nat → Int
  | 0 => w
  | j + 1 => scCell q f g (scRow q f g w i j) i j
def scTo (q : Int) (f g : Nat → Int) : Nat → Nat → Int
  | 0 => fun _ => 0
  | i + 1 => scRow q f g (scTo q f g i) i 256
theorem sm_upd (c : Nat → Int) (w w' : Nat → Int) (p : Nat) : ∀ n, p < n → (∀ u, u ≠ p → w' u = w u) → sm n (fun u => w' u * c u) = sm n (fun u => w u * c u) + (w' p - w p) * c p
  | 0, h, _ => by omega
  | n + 1, h, e => by
    rw [sm, sm]
    by_cases hp : p = n
    · subst hp
      have : sm p (fun u => w' u * c u) = sm p (fun u => w u * c u) := sm_ext p _ _ (fun t ht => by rw [e t (by omega)])
      rw [this]; grind
    · rw [sm_upd c w w' p n (by omega) e, e n (by omega)]; grind
/-- The value of a polynomial, by components. -/
def ev (c : Nat → Int) (n : Nat) (f : Nat → Int) : Int := sm n (fun u => f u * c u)
theorem ev_zero (c f : Nat → Int) : ev c 0 f = 0 := rfl
theorem ev_nil (c : Nat → Int) : ∀ n, ev c n (fun _ => 0) = 0
  | 0 => rfl
  | n + 1 => by
    have h := ev_nil c n
    unfold ev at h ⊢
    rw [sm, h]; simp
theorem cell_ev (q s : Int) (A B : Nat → Int) (P : Pairs q s A B) (f g w : Nat → Int) (i j : Nat) (hi : i < 256) (hj : j < 256) :
    Cg q (ev A 256 (scCell q f g w i j)) (ev A 256 w + f i * g j * A (i + j)) ∧ Cg q (ev B 256 (scCell q f g w i j)) (ev B 256 w + f i * g j * B (i + j)) := by
  have hp : (i + j) % 256 < 256 := Nat.mod_lt _ (by omega)
  have e : ∀ c : Nat → Int, ev c 256 (scCell q f g w i j) = ev c 256 w + (scCell q f g w i j ((i + j) % 256) - w ((i + j) % 256)) * c ((i + j) % 256) := fun c =>
    sm_upd c w _ _ 256 hp (fun u hu => if_neg hu)
  rw [e A, e B]
  have hc : Cg q (scCell q f g w i j ((i + j) % 256) - w ((i + j) % 256)) (if i + j < 256 then f i * g j else - (f i * g j)) := by
    unfold scCell
    rw [if_pos rfl]
    by_cases h : i + j < 256
    · rw [if_pos h, if_pos h]
      exact (((cg_mod _ _).trans ((Cg.refl _ _).add (cg_mod _ _))).sub (Cg.refl _ _)).trans (.of_eq (by omega))
    · rw [if_neg h, if_neg h]
      refine (((cg_mod _ _).trans ((Cg.refl _ _).sub (cg_mod _ _))).sub (Cg.refl _ _)).trans ⟨1, by omega⟩
  by_cases h : i + j < 256
  · rw [if_pos h] at hc
    rw [Nat.mod_eq_of_lt h] at hc ⊢
    exact ⟨(Cg.refl _ _).add (hc.mul (Cg.refl _ _)), (Cg.refl _ _).add (hc.mul (Cg.refl _ _))⟩
  · rw [if_neg h] at hc
    have em : (i + j) % 256 = i + j - 256 := by omega
    rw [em] at hc ⊢
    have ha := P.mulA (i + j - 256) 256
    have hb := P.mulB (i + j - 256) 256
    rw [show i + j - 256 + 256 = i + j by omega] at ha hb
    have ha2 : Cg q (A (i + j)) (- A (i + j - 256)) := ha.trans ((((Cg.refl _ _).mul P.top.1).add ((Cg.refl _ _).mul ((Cg.refl _ _).mul P.top.2))).trans (.of_eq (by grind)))
    have hb2 : Cg q (B (i + j)) (- B (i + j - 256)) := hb.trans ((((Cg.refl _ _).mul P.top.2).add ((Cg.refl _ _).mul P.top.1)).trans (.of_eq (by grind)))
    exact ⟨(Cg.refl _ _).add ((hc.mul (Cg.refl _ _)).trans ((Cg.of_eq (by grind)).trans ((Cg.refl _ (f i * g j)).mul ha2.symm))), (Cg.refl _ _).add ((hc.mul (Cg.refl _ _)).trans ((Cg.of_eq (by grind)).trans ((Cg.refl _ (f i * g j)).mul hb2.symm)))⟩
theorem row_ev (q s : Int) (A B : Nat → Int) (P : Pairs q s A B) (f g w : Nat → Int) (i : Nat) (hi : i < 256) : ∀ j, j ≤ 256 →
    Cg q (ev A 256 (scRow q f g w i j)) (ev A 256 w + f i * (A i * ev A j g + s * (B i * ev B j g))) ∧ Cg q (ev B 256 (scRow q f g w i j)) (ev B 256 w + f i * (A i * ev B j g + B i * ev A j g))
  | 0, _ => ⟨.of_eq (by rw [scRow, ev_zero, ev_zero]; omega), .of_eq (by rw [scRow, ev_zero, ev_zero]; omega)⟩
  | j + 1, hj => by
    have ih := row_ev q s A B P f g w i hi j (by omega)
    have c := cell_ev q s A B P f g (scRow q f g w i j) i j hi (by omega)
    have ea : ev A (j + 1) g = ev A j g + g j * A j := rfl
    have eb : ev B (j + 1) g = ev B j g + g j * B j := rfl
    rw [ea, eb]
    exact ⟨c.1.trans ((ih.1.add ((Cg.refl _ _).mul (P.mulA i j))).trans (.of_eq (by grind))), c.2.trans ((ih.2.add ((Cg.refl _ _).mul (P.mulB i j))).trans (.of_eq (by grind)))⟩
theorem to_ev (q s : Int) (A B : Nat → Int) (P : Pairs q s A B) (f g : Nat → Int) : ∀ i, i ≤ 256 →
    Cg q (ev A 256 (scTo q f g i)) (ev A i f * ev A 256 g + s * (ev B i f * ev B 256 g)) ∧ Cg q (ev B 256 (scTo q f g i)) (ev A i f * ev B 256 g + ev B i f * ev A 256 g)
  | 0, _ => by
    exact ⟨.of_eq (by rw [scTo, ev_nil, ev_zero, ev_zero]; omega), .of_eq (by rw [scTo, ev_nil, ev_zero, ev_zero]; omega)⟩
  | i + 1, hi => by
    have ih := to_ev q s A B P f g i (by omega)
    have r := row_ev q s A B P f g (scTo q f g i) i (by omega) 256 (Nat.le_refl _)
    have ea : ev A (i + 1) f = ev A i f + f i * A i := rfl
    have eb : ev B (i + 1) f = ev B i f + f i * B i := rfl
    rw [ea, eb]
    exact ⟨r.1.trans ((ih.1.add (Cg.refl _ _)).trans (.of_eq (by grind))), r.2.trans ((ih.2.add (Cg.refl _ _)).trans (.of_eq (by grind)))⟩

theorem pairs_one (q y : Int) (h : Cg q (y ^ 256) (-1)) : Pairs q 0 (fun u => y ^ u) (fun _ => 0) :=
  ⟨⟨Int.pow_zero _, rfl⟩, fun u v => .of_eq (by rw [Int.pow_add]; omega), fun u v => .of_eq (by omega), ⟨h, .refl _ _⟩⟩
def evA (y : Int) (u : Nat) : Int := if u % 2 = 0 then y ^ (u / 2) else 0
def evB (y : Int) (u : Nat) : Int := if u % 2 = 1 then y ^ (u / 2) else 0
theorem pairs_two (q y : Int) (h : Cg q (y ^ 128) (-1)) : Pairs q y (evA y) (evB y) := by
  refine ⟨⟨by simp [evA], rfl⟩, fun u v => .of_eq ?_, fun u v => .of_eq ?_, ⟨h, .refl _ _⟩⟩
  · unfold evA evB
    rcases Nat.mod_two_eq_zero_or_one u with hu | hu <;> rcases Nat.mod_two_eq_zero_or_one v with hv | hv
    · rw [if_pos hu, if_pos hv, if_pos (by omega), if_neg (by omega), show (u + v) / 2 = u / 2 + v / 2 by omega, Int.pow_add]; simp
    · rw [if_pos hu, if_neg (by omega), if_neg (by omega), if_neg (by omega)]; simp
    · rw [if_neg (by omega), if_neg (by omega), if_pos hv, if_pos hu, if_neg (by omega)]; simp
    · rw [if_pos (by omega), if_neg (by omega), if_neg (by omega), if_pos hu, if_pos hv, show (u + v) / 2 = u / 2 + v / 2 + 1 by omega, Int.pow_succ, Int.pow_add]; grind
  · unfold evA evB
    rcases Nat.mod_two_eq_zero_or_one u with hu | hu <;> rcases Nat.mod_two_eq_zero_or_one v with hv | hv
    · rw [if_neg (by omega), if_pos hu, if_neg (by omega), if_neg (by omega)]; simp
    · rw [if_pos (by omega), if_pos hu, if_pos hv, if_neg (by omega), show (u + v) / 2 = u / 2 + v / 2 by omega, Int.pow_add]; simp
    · rw [if_pos (by omega), if_neg (by omega), if_neg (by omega), if_pos hu, if_pos hv, show (u + v) / 2 = u / 2 + v / 2 by omega, Int.pow_add]; simp
    · rw [if_neg (by omega), if_neg (by omega), if_pos hv, if_pos hu, if_neg (by omega)]; simp
theorem ev_even (y : Int) (L : Nat → Int) : ev (evA y) 256 L = sm 128 (fun t => L (0 + 2 * t) * y ^ t) := by
  unfold ev
  rw [show 256 = 2 * 128 from rfl, sm_two]
  have e0 : sm 128 (fun t => L (2 * t + 1) * evA y (2 * t + 1)) = sm 128 (fun t => (0 : Int) * t) := sm_ext _ _ _ (fun t _ => by unfold evA; rw [if_neg (by omega)]; simp)
  have e1 : sm 128 (fun t => L (2 * t) * evA y (2 * t)) = sm 128 (fun t => L (0 + 2 * t) * y ^ t) := sm_ext _ _ _ (fun t _ => by unfold evA; rw [if_pos (by omega), Nat.zero_add, Nat.mul_div_cancel_left _ (by omega)])
  rw [e0, e1, ← sm_mul]; omega
theorem ev_odd (y : Int) (L : Nat → Int) : ev (evB y) 256 L = sm 128 (fun t => L (1 + 2 * t) * y ^ t) := by
  unfold ev
  rw [show 256 = 2 * 128 from rfl, sm_two]
  have e0 : sm 128 (fun t => L (2 * t) * evB y (2 * t)) = sm 128 (fun t => (0 : Int) * t) := sm_ext _ _ _ (fun t _ => by unfold evB; rw [if_neg (by omega)]; simp)
  have e1 : sm 128 (fun t => L (2 * t + 1) * evB y (2 * t + 1)) = sm 128 (fun t => L (1 + 2 * t) * y ^ t) := sm_ext _ _ _ (fun t _ => by unfold evB; rw [if_pos (by omega), show (2 * t + 1) / 2 = t by omega, Nat.add_comm])
  rw [e0, e1, ← sm_mul]; omega
/-- What a product of transforms is, place by place, and pair by pair. -/
theorem great_conv (q : Int) (z : Nat → Int) (y : Nat → Nat → Int) (R : Roots q z y 8) (ht : ∀ b, b < 256 → Cg q (y 8 b ^ 256) (-1)) (f g : Nat → Int) (b : Nat) (hb : b < 256) :
    Cg q (fwdN q z 8 f b * fwdN q z 8 g b) (fwdN q z 8 (scTo q f g 256) b) := by
  have e : ∀ L, Cg q (fwdN q z 8 L b) (ev (fun u => y 8 b ^ u) 256 L) := fun L => by
    have h := fwd_eval q z y 8 (by omega) R L 8 (by omega) b 0 hb (by decide)
    simpa [ev] using h
  have t := to_ev q 0 _ _ (pairs_one q (y 8 b) (ht b hb)) f g 256 (by omega)
  exact (((e f).mul (e g)).trans (Cg.of_eq (by omega))).trans (t.1.symm.trans (e _).symm)
theorem small_conv (q : Int) (z : Nat → Int) (y : Nat → Nat → Int) (R : Roots q z y 7) (ht : ∀ b, b < 128 → Cg q (y 7 b ^ 128) (-1)) (f g : Nat → Int) (b : Nat) (hb : b < 128) :
    Cg q (fwdN q z 7 f (2 * b) * fwdN q z 7 g (2 * b) + y 7 b * (fwdN q z 7 f (2 * b + 1) * fwdN q z 7 g (2 * b + 1))) (fwdN q z 7 (scTo q f g 256) (2 * b)) ∧
    Cg q (fwdN q z 7 f (2 * b) * fwdN q z 7 g (2 * b + 1) + fwdN q z 7 f (2 * b + 1) * fwdN q z 7 g (2 * b)) (fwdN q z 7 (scTo q f g 256) (2 * b + 1)) := by
  have e0 : ∀ L, Cg q (fwdN q z 7 L (2 * b)) (ev (evA (y 7 b)) 256 L) := fun L => by
    rw [ev_even]; exact fwd_eval q z y 7 (by omega) R L 7 (by omega) b 0 hb (by decide)
  have e1 : ∀ L, Cg q (fwdN q z 7 L (2 * b + 1)) (ev (evB (y 7 b)) 256 L) := fun L => by
    rw [ev_odd]; exact fwd_eval q z y 7 (by omega) R L 7 (by omega) b 1 hb (by decide)
  have t := to_ev q _ _ _ (pairs_two q (y 7 b) (ht b hb)) f g 256 (by omega)
  exact ⟨((((e0 f).mul (e0 g)).add ((Cg.refl _ _).mul ((e1 f).mul (e1 g))))).trans (t.1.symm.trans (e0 _).symm), (((e0 f).mul (e1 g)).add ((e1 f).mul (e0 g))).trans (t.2.symm.trans (e1 _).symm)⟩

def rev8 (i : Nat) : Nat := i % 2 * 128 + i / 2 % 2 * 64 + i / 4 % 2 * 32 + i / 8 % 2 * 16 + i / 16 % 2 * 8 + i / 32 % 2 * 4 + i / 64 % 2 * 2 + i / 128 % 2
def zetS (i : Nat) : Int := if i < 128 then ((17 ^ (rev8 i / 2) % 3329 : Nat) : Int) else 0
def zetG (i : Nat) : Int := if i < 256 then ((1753 ^ rev8 i % 8380417 : Nat) : Int) else 0
def rootOf (z : Nat → Int) : Nat → Nat → Int
  | 0, _ => -1
  | l + 1, b => if b % 2 = 0 then z (2 ^ l + b / 2) else - z (2 ^ l + b / 2)
theorem rootOf_succ (z : Nat → Int) (l b : Nat) : rootOf z (l + 1) b = if b % 2 = 0 then z (2 ^ l + b / 2) else - z (2 ^ l + b / 2) := rfl
theorem cg_of (q a b : Int) (h : (a - b) % q = 0) : Cg q a b := by
  obtain ⟨t, ht⟩ := Int.dvd_of_emod_eq_zero h
  exact ⟨t, by omega⟩
theorem roots_of (q : Int) (z : Nat → Int) (n : Nat) (h : ∀ l b, l < n → b < 2 ^ l → Cg q (z (2 ^ l + b) * z (2 ^ l + b)) (rootOf z l b)) : Roots q z (rootOf z) n :=
  ⟨h, fun l b _ _ => by rw [rootOf_succ, if_pos (by omega), Nat.mul_div_cancel_left _ (by omega)], fun l b _ _ => by rw [rootOf_succ, if_neg (by omega), show (2 * b + 1) / 2 = b by omega]⟩
theorem roots_top (q : Int) (z : Nat → Int) (n : Nat) (R : Roots q z (rootOf z) n) : ∀ l, l ≤ n → ∀ b, b < 2 ^ l → Cg q (rootOf z l b ^ 2 ^ l) (-1)
  | 0, _, b, _ => .of_eq (by simp [rootOf])
  | l + 1, hl, b, hb => by
    rw [Nat.pow_succ] at hb
    have hb2 : b / 2 < 2 ^ l := by omega
    have hs := R.sq l (b / 2) (by omega) hb2
    have e : rootOf z (l + 1) b * rootOf z (l + 1) b = z (2 ^ l + b / 2) * z (2 ^ l + b / 2) := by
      rw [rootOf_succ]
      split
      · rfl
      · grind
    rw [show (2 : Nat) ^ (l + 1) = 2 * 2 ^ l by rw [Nat.pow_succ]; omega, pow_two, e]
    exact (hs.pow _).trans (roots_top q z n R l (by omega) _ hb2)
theorem pow_le_8 (l n : Nat) (h : l < n) (hn : n ≤ 8) : 2 ^ l ≤ 128 := by
  have : 2 ^ l ≤ 2 ^ 7 := Nat.pow_le_pow_right (by omega) (by omega)
  omega
set_option maxRecDepth 100000 in
theorem rootsS : Roots 3329 zetS (rootOf zetS) 7 := by
  refine roots_of _ _ _ fun l b hl hb => cg_of _ _ _ ?_
  have h : ∀ l : Fin 7, ∀ b : Fin 128, b.val < 2 ^ l.val → (zetS (2 ^ l.val + b.val) * zetS (2 ^ l.val + b.val) - rootOf zetS l.val b.val) % 3329 = 0 := by decide +kernel
  exact h ⟨l, hl⟩ ⟨b, by have := pow_le_8 l 7 hl (by omega); omega⟩ hb
set_option maxRecDepth 100000 in
theorem rootsG : Roots 8380417 zetG (rootOf zetG) 8 := by
  refine roots_of _ _ _ fun l b hl hb => cg_of _ _ _ ?_
  have h : ∀ l : Fin 8, ∀ b : Fin 128, b.val < 2 ^ l.val → (zetG (2 ^ l.val + b.val) * zetG (2 ^ l.val + b.val) - rootOf zetG l.val b.val) % 8380417 = 0 := by decide +kernel
  exact h ⟨l, hl⟩ ⟨b, by have := pow_le_8 l 8 hl (by omega); omega⟩ hb
set_option maxRecDepth 100000 in
theorem matesS (l : Nat) (hl : l < 7) : Mates 3329 zetS (2 ^ l) := fun b hb => cg_of _ _ _ (by
  have h : ∀ l : Fin 7, ∀ b : Fin 128, b.val < 2 ^ l.val → (zetS (2 ^ l.val + b.val) * zetS (2 * 2 ^ l.val - 1 - b.val) - -1) % 3329 = 0 := by decide +kernel
  exact h ⟨l, hl⟩ ⟨b, by have := pow_le_8 l 7 hl (by omega); omega⟩ hb)
set_option maxRecDepth 100000 in
theorem matesG (l : Nat) (hl : l < 8) : Mates 8380417 zetG (2 ^ l) := fun b hb => cg_of _ _ _ (by
  have h : ∀ l : Fin 8, ∀ b : Fin 128, b.val < 2 ^ l.val → (zetG (2 ^ l.val + b.val) * zetG (2 * 2 ^ l.val - 1 - b.val) - -1) % 8380417 = 0 := by decide +kernel
  exact h ⟨l, hl⟩ ⟨b, by have := pow_le_8 l 8 hl (by omega); omega⟩ hb)
end Go.Proofs.Ytkijpphmiogbbaa
