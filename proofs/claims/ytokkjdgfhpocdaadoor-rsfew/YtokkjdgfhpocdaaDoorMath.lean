/- Plain arithmetic of the field of 256 elements on natural numbers: no Go in sight. -/
namespace Go.Proofs.YtokkjdgfhpocdaaDoor.Gm

def dbl (a : Nat) : Nat := 2 * a ^^^ (a / 128) * 285
def mulGo : Nat → Nat → Nat → Nat → Nat
  | 0, p, _, _ => p
  | n + 1, p, a, b => mulGo n (p ^^^ (b % 2) * a) (dbl a) (b / 2)
def mul (a b : Nat) : Nat := mulGo 8 0 a b

theorem dbl_lt : ∀ a, a < 256 → dbl a < 256 := by decide +kernel
theorem bit_mul (x y k : Nat) (hx : x < 2) (hy : y < 2) : (x ^^^ y) * k = x * k ^^^ y * k := by
  have h1 : x = 0 ∨ x = 1 := by omega
  have h2 : y = 0 ∨ y = 1 := by omega
  rcases h1 with rfl | rfl <;> rcases h2 with rfl | rfl <;> simp
theorem xor_lt (a b : Nat) (ha : a < 256) (hb : b < 256) : a ^^^ b < 256 := Nat.xor_lt_two_pow (n := 8) ha hb
theorem xor_div (a b k : Nat) : (a ^^^ b) / 2 ^ k = a / 2 ^ k ^^^ b / 2 ^ k := by
  rw [← Nat.shiftRight_eq_div_pow, ← Nat.shiftRight_eq_div_pow, ← Nat.shiftRight_eq_div_pow, Nat.shiftRight_xor_distrib]
theorem xor_two (a b : Nat) : 2 * (a ^^^ b) = 2 * a ^^^ 2 * b := by
  have h : ∀ x : Nat, 2 * x = x <<< 1 := fun x => by rw [Nat.shiftLeft_eq]; omega
  rw [h, h, h, Nat.shiftLeft_xor_distrib]
theorem xor_mod2 (a b : Nat) : (a ^^^ b) % 2 = a % 2 ^^^ b % 2 := by
  have := Nat.xor_mod_two_pow (a := a) (b := b) (n := 1)
  simpa using this
theorem xor4 (x y z t : Nat) : (x ^^^ y) ^^^ (z ^^^ t) = (x ^^^ z) ^^^ (y ^^^ t) := by
  rw [Nat.xor_assoc, Nat.xor_assoc, ← Nat.xor_assoc y, Nat.xor_comm y z, Nat.xor_assoc z]
theorem dbl_xor (a b : Nat) (ha : a < 256) (hb : b < 256) : dbl (a ^^^ b) = dbl a ^^^ dbl b := by
  unfold dbl
  have h7 := xor_div a b 7
  simp only [show (2:Nat) ^ 7 = 128 from rfl] at h7
  have hb7 := bit_mul (a / 128) (b / 128) 285 (by omega) (by omega)
  rw [h7, xor_two, hb7]
  exact xor4 _ _ _ _
theorem dbl_zero : dbl 0 = 0 := rfl
theorem mulGo_lin_b (n : Nat) : ∀ p q a b c, mulGo n (p ^^^ q) a (b ^^^ c) = mulGo n p a b ^^^ mulGo n q a c := by
  induction n with
  | zero => intros; rfl
  | succ n ih =>
    intro p q a b c
    have h1 := xor_div b c 1
    simp only [show (2:Nat) ^ 1 = 2 from rfl] at h1
    simp only [mulGo]
    rw [h1, xor_mod2, bit_mul _ _ _ (by omega) (by omega), xor4, ih]
theorem mulGo_lin_a (n : Nat) : ∀ p q a b c, a < 256 → b < 256 → mulGo n (p ^^^ q) (a ^^^ b) c = mulGo n p a c ^^^ mulGo n q b c := by
  induction n with
  | zero => intros; rfl
  | succ n ih =>
    intro p q a b c ha hb
    simp only [mulGo]
    have hm : (c % 2) * (a ^^^ b) = (c % 2) * a ^^^ (c % 2) * b := by
      have h1 : c % 2 = 0 ∨ c % 2 = 1 := by omega
      rcases h1 with h | h <;> simp [h]
    rw [hm, xor4, dbl_xor a b ha hb, ih _ _ _ _ _ (dbl_lt a ha) (dbl_lt b hb)]
theorem mul_add (a b c : Nat) : mul a (b ^^^ c) = mul a b ^^^ mul a c := by
  have := mulGo_lin_b 8 0 0 a b c; simpa [mul] using this
theorem add_mul (a b c : Nat) (ha : a < 256) (hb : b < 256) : mul (a ^^^ b) c = mul a c ^^^ mul b c := by
  have := mulGo_lin_a 8 0 0 a b c ha hb; simpa [mul] using this
theorem mulGo_lt (n : Nat) : ∀ p a b, p < 256 → a < 256 → mulGo n p a b < 256 := by
  induction n with
  | zero => intro p a b hp _; exact hp
  | succ n ih =>
    intro p a b hp ha
    have h1 : (b % 2) * a < 256 := by
      have h1 : b % 2 = 0 ∨ b % 2 = 1 := by omega
      rcases h1 with h | h <;> simp [h] <;> omega
    exact ih _ _ _ (xor_lt _ _ hp h1) (dbl_lt a ha)
theorem mul_lt (a b : Nat) (ha : a < 256) : mul a b < 256 := mulGo_lt 8 0 a b (by omega) ha

/- What is linear is told by what it does to 1, 2, 4 .. 128. -/
theorem lin_ext (f g : Nat → Nat) (hf : ∀ a b, a < 256 → b < 256 → f (a ^^^ b) = f a ^^^ f b) (hg : ∀ a b, a < 256 → b < 256 → g (a ^^^ b) = g a ^^^ g b)
    (h : ∀ i, i < 8 → f (2 ^ i) = g (2 ^ i)) : ∀ a, a < 256 → f a = g a := by
  have f0 : f 0 = 0 := by have := hf 0 0 (by omega) (by omega); simpa using this
  have g0 : g 0 = 0 := by have := hg 0 0 (by omega) (by omega); simpa using this
  have key : ∀ n, n ≤ 8 → ∀ a, a < 2 ^ n → f a = g a := by
    intro n
    induction n with
    | zero => intro _ a ha; have : a = 0 := by simpa using ha
              subst this; rw [f0, g0]
    | succ n ih =>
      intro hn a ha
      by_cases hlt : a < 2 ^ n
      · exact ih (by omega) a hlt
      · have hp : 2 ^ (n + 1) = 2 ^ n + 2 ^ n := by rw [Nat.pow_succ]; omega
        have hle : 2 ^ n ≤ 128 := Nat.pow_le_pow_right (by omega) (by omega : n ≤ 7)
        have hsub : a - 2 ^ n < 2 ^ n := by omega
        have e : a = 2 ^ n ^^^ (a - 2 ^ n) := by
          have h2 : 2 ^ n + (a - 2 ^ n) = 2 ^ n ||| (a - 2 ^ n) := by
            have := Nat.two_pow_add_eq_or_of_lt hsub 1; simpa using this
          have h3 : 2 ^ n ^^^ (a - 2 ^ n) = 2 ^ n ||| (a - 2 ^ n) := by
            apply Nat.eq_of_testBit_eq
            intro i
            rw [Nat.testBit_xor, Nat.testBit_or, Nat.testBit_two_pow]
            by_cases hi : n = i
            · subst hi; rw [Nat.testBit_lt_two_pow hsub]; simp
            · simp [hi]
          omega
        rw [e, hf _ _ (by omega) (by omega), hg _ _ (by omega) (by omega), h n (by omega), ih (by omega) _ hsub]
  intro a ha
  exact key 8 (by omega) a ha

theorem mul_comm_basis : ∀ i, i < 8 → ∀ j, j < 8 → mul (2 ^ i) (2 ^ j) = mul (2 ^ j) (2 ^ i) := by decide +kernel
theorem pow_lt8 (i : Nat) (h : i < 8) : 2 ^ i < 256 := by
  have : 2 ^ i ≤ 2 ^ 7 := Nat.pow_le_pow_right (by omega) (by omega)
  omega
theorem mul_comm (a b : Nat) (ha : a < 256) (hb : b < 256) : mul a b = mul b a := by
  refine lin_ext (fun a => mul a b) (fun a => mul b a) (fun x y hx hy => add_mul x y b hx hy) (fun x y _ _ => mul_add b x y) (fun i hi => ?_) a ha
  refine lin_ext (fun b => mul (2 ^ i) b) (fun b => mul b (2 ^ i)) (fun x y _ _ => mul_add _ x y) (fun x y hx hy => add_mul x y _ hx hy) (fun j hj => ?_) b hb
  exact mul_comm_basis i hi j hj
theorem mul_assoc_basis : ∀ i, i < 8 → ∀ j, j < 8 → ∀ k, k < 8 → mul (mul (2 ^ i) (2 ^ j)) (2 ^ k) = mul (2 ^ i) (mul (2 ^ j) (2 ^ k)) := by decide +kernel
theorem mul_assoc (a b c : Nat) (ha : a < 256) (hb : b < 256) (hc : c < 256) : mul (mul a b) c = mul a (mul b c) := by
  refine lin_ext (fun a => mul (mul a b) c) (fun a => mul a (mul b c)) (fun x y hx hy => ?_) (fun x y hx hy => add_mul x y _ hx hy) (fun i hi => ?_) a ha
  · rw [add_mul x y b hx hy, add_mul _ _ c (mul_lt x b hx) (mul_lt y b hy)]
  refine lin_ext (fun b => mul (mul (2 ^ i) b) c) (fun b => mul (2 ^ i) (mul b c)) (fun x y hx hy => ?_) (fun x y hx hy => ?_) (fun j hj => ?_) b hb
  · rw [mul_add, add_mul _ _ c (mul_lt _ x (pow_lt8 i hi)) (mul_lt _ y (pow_lt8 i hi))]
  · rw [add_mul x y c hx hy, mul_add]
  refine lin_ext (fun c => mul (mul (2 ^ i) (2 ^ j)) c) (fun c => mul (2 ^ i) (mul (2 ^ j) c)) (fun x y _ _ => mul_add _ x y) (fun x y _ _ => ?_) (fun k hk => ?_) c hc
  · rw [mul_add, mul_add]
  exact mul_assoc_basis i hi j hj k hk
theorem mul_zero (a : Nat) : mul a 0 = 0 := by
  have := mul_add a 0 0; simpa using this
theorem zero_mul (a : Nat) : mul 0 a = 0 := by
  have := add_mul 0 0 a (by omega) (by omega); simpa using this
theorem mul_one : ∀ a, a < 256 → mul a 1 = a := by decide +kernel
theorem one_mul (a : Nat) (ha : a < 256) : mul 1 a = a := by rw [mul_comm 1 a (by omega) ha, mul_one a ha]

/- Powers. -/
def raiseGo : Nat → Nat → Nat → Nat → Nat
  | 0, p, _, _ => p
  | n + 1, p, a, e => raiseGo n (if e % 2 = 1 then mul p a else p) (mul a a) (e / 2)
def raise (a e : Nat) : Nat := raiseGo 8 1 a e
def mpow (a : Nat) : Nat → Nat
  | 0 => 1
  | n + 1 => mul (mpow a n) a
theorem mpow_lt (a n : Nat) (_ha : a < 256) : mpow a n < 256 := by
  induction n with
  | zero => simp [mpow]
  | succ n ih => exact mul_lt _ _ ih
theorem mpow_add (a m n : Nat) (ha : a < 256) : mpow a (m + n) = mul (mpow a m) (mpow a n) := by
  induction n with
  | zero => simp [mpow, mul_one _ (mpow_lt a m ha)]
  | succ n ih =>
    rw [← Nat.add_assoc]; simp only [mpow]
    rw [ih, mul_assoc _ _ _ (mpow_lt a m ha) (mpow_lt a n ha) ha]
theorem mpow_sq (a n : Nat) (ha : a < 256) : mpow (mul a a) n = mpow a (2 * n) := by
  induction n with
  | zero => rfl
  | succ n ih =>
    have e : 2 * (n + 1) = 2 * n + 1 + 1 := by omega
    rw [e]; simp only [mpow]; rw [ih, mul_assoc _ _ _ (mpow_lt a _ ha) ha ha]
theorem raiseGo_eq (k : Nat) : ∀ p a e, p < 256 → a < 256 → e < 2 ^ k → raiseGo k p a e = mul p (mpow a e) := by
  induction k with
  | zero => intro p a e hp ha he; have : e = 0 := by simpa using he
            subst this; simp [raiseGo, mpow, mul_one _ hp]
  | succ k ih =>
    intro p a e hp ha he
    have he2 : e / 2 < 2 ^ k := by rw [Nat.pow_succ] at he; omega
    have hcase : e % 2 = 0 ∨ e % 2 = 1 := by omega
    simp only [raiseGo]
    rcases hcase with h | h
    · rw [if_neg (by omega), ih p _ _ hp (mul_lt _ _ ha) he2, mpow_sq a _ ha]
      have : 2 * (e / 2) = e := by omega
      rw [this]
    · rw [if_pos h, ih _ _ _ (mul_lt _ _ hp) (mul_lt _ _ ha) he2, mpow_sq a _ ha]
      have e2 : e = 1 + 2 * (e / 2) := by omega
      have e3 : mpow a e = mul a (mpow a (2 * (e / 2))) := by
        rw [e2, mpow_add a 1 _ ha]
        have : 1 + 2 * (e / 2) = e := by omega
        rw [this]; simp [mpow, one_mul a ha]
      rw [e3, mul_assoc _ _ _ hp ha (mpow_lt _ _ ha)]
theorem raise_eq (a e : Nat) (ha : a < 256) (he : e < 256) : raise a e = mpow a e := by
  unfold raise; rw [raiseGo_eq 8 1 a e (by omega) ha he, one_mul _ (mpow_lt _ _ ha)]
theorem raise255 : ∀ a, a < 256 → a ≠ 0 → raise a 255 = 1 := by decide +kernel
theorem mpow255 (a : Nat) (ha : a < 256) (h : a ≠ 0) : mpow a 255 = 1 := by rw [← raise_eq a 255 ha (by omega)]; exact raise255 a ha h
theorem mpow_255k (a k : Nat) (ha : a < 256) (h : a ≠ 0) : mpow a (255 * k) = 1 := by
  induction k with
  | zero => rfl
  | succ k ih => rw [Nat.mul_succ, mpow_add a _ _ ha, ih, mpow255 a ha h]; rfl
theorem mpow_mod (a n : Nat) (ha : a < 256) (h : a ≠ 0) : mpow a (n % 255) = mpow a n := by
  have e : n = 255 * (n / 255) + n % 255 := by omega
  have : mpow a n = mpow a (255 * (n / 255) + n % 255) := by rw [← e]
  rw [this, mpow_add a _ _ ha, mpow_255k a _ ha h, one_mul _ (mpow_lt _ _ ha)]

/- The power by an integer, as both texts tell it. -/
def powZ (a : Nat) (n : Int) : Nat := if n = 0 then 1 else if a = 0 then 0 else mpow a (n % 255).toNat
def inv (a : Nat) : Nat := raise a 254
theorem inv_mul : ∀ a, a < 256 → a ≠ 0 → mul a (inv a) = 1 := by decide +kernel
theorem inv_lt (a : Nat) (ha : a < 256) : inv a < 256 := by unfold inv; rw [raise_eq a 254 ha (by omega)]; exact mpow_lt _ _ ha
theorem powZ_lt (a : Nat) (n : Int) (ha : a < 256) : powZ a n < 256 := by
  unfold powZ; split
  · omega
  · split
    · omega
    · exact mpow_lt _ _ ha
theorem powZ_pos (a : Nat) (n : Int) (_ha : a < 256) (h : a ≠ 0) : powZ a n = mpow a (n % 255).toNat := by
  unfold powZ; split
  · rename_i h0; subst h0; rfl
  · rfl
theorem powZ_add (a : Nat) (n m : Int) (ha : a < 256) (h : a ≠ 0) : mul (powZ a n) (powZ a m) = powZ a (n + m) := by
  rw [powZ_pos a n ha h, powZ_pos a m ha h, powZ_pos a _ ha h, ← mpow_add a _ _ ha]
  have e : ((n + m) % 255).toNat = ((n % 255).toNat + (m % 255).toNat) % 255 := by omega
  rw [e, mpow_mod a _ ha h]
theorem powZ_neg (a : Nat) (n : Int) (ha : a < 256) (h : a ≠ 0) : mul (powZ a n) (powZ a (-n)) = 1 := by
  rw [powZ_add a n (-n) ha h]; simp [powZ, Int.add_right_neg]
theorem powZ_one (a : Nat) (ha : a < 256) : powZ a 1 = a := by
  unfold powZ; simp only [show ¬ ((1:Int) = 0) by omega, if_false]
  split
  · omega
  · simp [mpow, one_mul a ha]
theorem powZ_m1 (a : Nat) (ha : a < 256) (h : a ≠ 0) : powZ a (-1) = inv a := by
  rw [powZ_pos a _ ha h]; unfold inv; rw [raise_eq a 254 ha (by omega)]; rfl
theorem inv_uniq (a x : Nat) (ha : a < 256) (hx : x < 256) (h : mul a x = 1) : a ≠ 0 ∧ x = inv a := by
  have h0 : a ≠ 0 := by intro e; subst e; rw [zero_mul] at h; omega
  refine ⟨h0, ?_⟩
  have h1 := inv_mul a ha h0
  have h2 : mul (inv a) (mul a x) = mul (mul (inv a) a) x := (mul_assoc _ _ _ (inv_lt a ha) ha hx).symm
  rw [h, mul_comm (inv a) a (inv_lt a ha) ha, h1, one_mul x hx, mul_one _ (inv_lt a ha)] at h2
  exact h2.symm
theorem inv_ne (a : Nat) (ha : a < 256) (h : a ≠ 0) : inv a ≠ 0 := by
  intro e; have := inv_mul a ha h; rw [e, mul_zero] at this; omega

/- Logarithms. -/
def dblN : Nat → Nat
  | 0 => 1
  | n + 1 => dbl (dblN n)
theorem mul_two : ∀ a, a < 256 → mul a 2 = dbl a := by decide +kernel
theorem dblN_eq (n : Nat) : dblN n = mpow 2 n := by
  induction n with
  | zero => rfl
  | succ n ih => simp only [dblN, mpow]; rw [ih, mul_two _ (mpow_lt 2 n (by omega))]
theorem dblN_lt (n : Nat) : dblN n < 256 := by rw [dblN_eq]; exact mpow_lt 2 n (by omega)
/- the least number below 255 whose power of 2 is a; 255 where there is none -/
def logGo (a : Nat) : Nat → Nat → Nat → Nat
  | 0, k, _ => k
  | f + 1, k, x => if x = a then k else logGo a f (k + 1) (dbl x)
def log (a : Nat) : Nat := logGo a 255 0 1
theorem log_zero : log 0 = 255 := by decide +kernel
theorem log_ok : ∀ a, a < 256 → a ≠ 0 → log a < 255 ∧ dblN (log a) = a := by decide +kernel
theorem log_first : ∀ n, n < 255 → log (dblN n) = n := by decide +kernel
end Go.Proofs.YtokkjdgfhpocdaaDoor.Gm
