/- Plain arithmetic: the product of two polynomials, less what can be divided by 285, is the product by doubling. -/
import Derived.Test.YtokkjdgfhpocdaaDoorMath
namespace Go.Proofs.YtokkjdgfhpocdaaDoor.Gm
def rowGo (a b i : Nat) : Nat → Nat → Nat → Nat
  | 0, _, p => p
  | f + 1, j, p => rowGo a b i f (j + 1) (p ^^^ (a / 2 ^ i % 2) * (b / 2 ^ j % 2) * 2 ^ (i + j))
def outGo (a b : Nat) : Nat → Nat → Nat → Nat
  | 0, _, p => p
  | f + 1, i, p => outGo a b f (i + 1) (rowGo a b i 8 0 p)
def redGo : Nat → Nat → Nat
  | 0, p => p
  | f + 1, p => redGo f (p ^^^ (p / 2 ^ (f + 8) % 2) * (285 * 2 ^ f))
def refMul (a b : Nat) : Nat := redGo 7 (outGo a b 8 0 0) % 256
theorem bit_xor (a b i : Nat) : (a ^^^ b) / 2 ^ i % 2 = a / 2 ^ i % 2 ^^^ b / 2 ^ i % 2 := by rw [xor_div, xor_mod2]
theorem bit_lt (a i : Nat) : a / 2 ^ i % 2 < 2 := Nat.mod_lt _ (by omega)
theorem rowGo_b (a i f : Nat) : ∀ b c j p q, rowGo a (b ^^^ c) i f j (p ^^^ q) = rowGo a b i f j p ^^^ rowGo a c i f j q := by
  induction f with
  | zero => intros; rfl
  | succ f ih =>
    intro b c j p q
    have e : a / 2 ^ i % 2 * ((b ^^^ c) / 2 ^ j % 2) * 2 ^ (i + j) = a / 2 ^ i % 2 * (b / 2 ^ j % 2) * 2 ^ (i + j) ^^^ a / 2 ^ i % 2 * (c / 2 ^ j % 2) * 2 ^ (i + j) := by
      have h1 : a / 2 ^ i % 2 = 0 ∨ a / 2 ^ i % 2 = 1 := by have := bit_lt a i; omega
      rw [bit_xor]
      rcases h1 with h | h
      · simp [h]
      · simp only [h, Nat.one_mul]; exact bit_mul _ _ _ (bit_lt b j) (bit_lt c j)
    simp only [rowGo]; rw [e, xor4, ih]
theorem rowGo_a (c i f : Nat) : ∀ a b j p q, rowGo (a ^^^ b) c i f j (p ^^^ q) = rowGo a c i f j p ^^^ rowGo b c i f j q := by
  induction f with
  | zero => intros; rfl
  | succ f ih =>
    intro a b j p q
    have e : (a ^^^ b) / 2 ^ i % 2 * (c / 2 ^ j % 2) * 2 ^ (i + j) = a / 2 ^ i % 2 * (c / 2 ^ j % 2) * 2 ^ (i + j) ^^^ b / 2 ^ i % 2 * (c / 2 ^ j % 2) * 2 ^ (i + j) := by
      have h1 : c / 2 ^ j % 2 = 0 ∨ c / 2 ^ j % 2 = 1 := by have := bit_lt c j; omega
      rw [bit_xor]
      rcases h1 with h | h
      · simp [h]
      · simp only [h, Nat.mul_one]; exact bit_mul _ _ _ (bit_lt a i) (bit_lt b i)
    simp only [rowGo]; rw [e, xor4, ih]
theorem outGo_b (a f : Nat) : ∀ b c i p q, outGo a (b ^^^ c) f i (p ^^^ q) = outGo a b f i p ^^^ outGo a c f i q := by
  induction f with
  | zero => intros; rfl
  | succ f ih => intro b c i p q; simp only [outGo]; rw [rowGo_b, ih]
theorem outGo_a (c f : Nat) : ∀ a b i p q, outGo (a ^^^ b) c f i (p ^^^ q) = outGo a c f i p ^^^ outGo b c f i q := by
  induction f with
  | zero => intros; rfl
  | succ f ih => intro a b i p q; simp only [outGo]; rw [rowGo_a, ih]
theorem redGo_lin (f : Nat) : ∀ p q, redGo f (p ^^^ q) = redGo f p ^^^ redGo f q := by
  induction f with
  | zero => intros; rfl
  | succ f ih =>
    intro p q
    have e : (p ^^^ q) / 2 ^ (f + 8) % 2 * (285 * 2 ^ f) = p / 2 ^ (f + 8) % 2 * (285 * 2 ^ f) ^^^ q / 2 ^ (f + 8) % 2 * (285 * 2 ^ f) := by
      rw [bit_xor]; exact bit_mul _ _ _ (bit_lt p _) (bit_lt q _)
    simp only [redGo]; rw [e, xor4, ih]
theorem mod256_xor (x y : Nat) : (x ^^^ y) % 256 = x % 256 ^^^ y % 256 := by
  have := Nat.xor_mod_two_pow (a := x) (b := y) (n := 8); simpa using this
theorem refMul_b (a b c : Nat) : refMul a (b ^^^ c) = refMul a b ^^^ refMul a c := by
  unfold refMul
  have h := outGo_b a 8 b c 0 0 0
  rw [show (0 : Nat) ^^^ 0 = 0 from rfl] at h
  rw [h, redGo_lin, mod256_xor]
theorem refMul_a (a b c : Nat) : refMul (a ^^^ b) c = refMul a c ^^^ refMul b c := by
  unfold refMul
  have h := outGo_a c 8 a b 0 0 0
  rw [show (0 : Nat) ^^^ 0 = 0 from rfl] at h
  rw [h, redGo_lin, mod256_xor]
theorem refMul_basis : ∀ i, i < 8 → ∀ j, j < 8 → refMul (2 ^ i) (2 ^ j) = mul (2 ^ i) (2 ^ j) := by decide +kernel
theorem refMul_eq (a b : Nat) (ha : a < 256) (hb : b < 256) : refMul a b = mul a b := by
  refine lin_ext (fun a => refMul a b) (fun a => mul a b) (fun x y _ _ => refMul_a x y b) (fun x y hx hy => add_mul x y b hx hy) (fun i hi => ?_) a ha
  refine lin_ext (fun b => refMul (2 ^ i) b) (fun b => mul (2 ^ i) b) (fun x y _ _ => refMul_b _ x y) (fun x y _ _ => mul_add _ x y) (fun j hj => ?_) b hb
  exact refMul_basis i hi j hj
theorem pow_lt15 (i j : Nat) (h : i < 8) (h2 : j < 8) : 2 ^ (i + j) < 32768 := by
  have : 2 ^ (i + j) ≤ 2 ^ 14 := Nat.pow_le_pow_right (by omega) (by omega)
  omega
theorem red_lt (f : Nat) (h : f < 7) : 285 * 2 ^ f < 32768 := by
  have : 2 ^ f ≤ 2 ^ 6 := Nat.pow_le_pow_right (by omega) (by omega)
  omega
theorem xor_lt15 (a b : Nat) (ha : a < 32768) (hb : b < 32768) : a ^^^ b < 32768 := Nat.xor_lt_two_pow (n := 15) ha hb
end Go.Proofs.YtokkjdgfhpocdaaDoor.Gm
