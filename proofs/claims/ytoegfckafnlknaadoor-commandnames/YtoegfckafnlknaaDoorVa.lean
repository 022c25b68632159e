/- Numbers as groups of seven bits, on plain numbers: enc n, the bytes of n; nat l, what stands at the beginning of l. -/
import Derived.Test.YtoegfckafnlknaaDoorProg
namespace Go.Proofs.YtoegfckafnlknaaDoor
set_option maxRecDepth 20000
set_option linter.unusedVariables false
set_option linter.unusedSimpArgs false
def enc (n : Nat) : List Nat := if n < 128 then [n] else (n % 128 + 128) :: enc (n / 128)
termination_by n
decreasing_by omega
theorem enc_lt {n : Nat} (h : n < 128) : enc n = [n] := by rw [enc, if_pos h]
theorem enc_ge {n : Nat} (h : 128 ≤ n) : enc n = (n % 128 + 128) :: enc (n / 128) := by rw [enc, if_neg (by omega)]
theorem enc_ind {p : Nat → Prop} (h0 : ∀ n, n < 128 → p n) (h1 : ∀ n, 128 ≤ n → p (n / 128) → p n) (n : Nat) : p n := by
  induction n using Nat.strongRecOn with
  | ind n ih =>
    by_cases h : n < 128
    · exact h0 n h
    · exact h1 n (by omega) (ih _ (by omega))
theorem enc_bytes (n : Nat) : ∀ x ∈ enc n, x < 256 := by
  refine enc_ind (p := fun n => ∀ x ∈ enc n, x < 256) (fun n h => ?_) (fun n h ih => ?_) n
  · rw [enc_lt h]
    simp
    omega
  · rw [enc_ge h]
    intro x hx
    rcases List.mem_cons.1 hx with rfl | hx
    · omega
    · exact ih x hx
theorem enc_pos (n : Nat) : 1 ≤ (enc n).length := by
  by_cases h : n < 128
  · rw [enc_lt h]; simp
  · rw [enc_ge (by omega)]; simp
theorem enc_len : ∀ (k n : Nat), n < 128 ^ (k + 1) → (enc n).length ≤ k + 1
  | 0, n, h => by rw [enc_lt (by simpa using h)]; simp
  | k + 1, n, h => by
    by_cases h1 : n < 128
    · rw [enc_lt h1]; simp
    · rw [enc_ge (by omega)]
      have := enc_len k (n / 128) (by rw [Nat.pow_succ] at h; exact Nat.div_lt_of_lt_mul (by rw [Nat.mul_comm]; exact h))
      simp only [List.length_cons]
      omega
theorem enc_nine {n : Nat} (h : n < 9223372036854775808) : (enc n).length ≤ 9 := enc_len 8 n (by simpa using h)
theorem enc_mono : ∀ (a b : Nat), a ≤ b → (enc a).length ≤ (enc b).length := by
  intro a b
  refine enc_ind (p := fun b => ∀ a, a ≤ b → (enc a).length ≤ (enc b).length) (fun b h a hab => ?_) (fun b h ih a hab => ?_) b a
  · rw [enc_lt h, enc_lt (by omega)]; simp
  · by_cases h1 : a < 128
    · rw [enc_lt h1]
      exact enc_pos b
    · rw [enc_ge (by omega), enc_ge h]
      have := ih (a / 128) (Nat.div_le_div_right hab)
      simp only [List.length_cons]
      omega
/-- No number's bytes begin another one's. -/
theorem enc_free (a : Nat) : ∀ (b : Nat) (t u : List Nat), enc a ++ t = enc b ++ u → a = b := by
  refine enc_ind (p := fun a => ∀ (b : Nat) (t u : List Nat), enc a ++ t = enc b ++ u → a = b) (fun a h b t u e => ?_) (fun a h ih b t u e => ?_) a
  · rw [enc_lt h] at e
    by_cases h1 : b < 128
    · rw [enc_lt h1] at e
      simp at e
      exact e.1
    · rw [enc_ge (by omega)] at e
      simp at e
      omega
  · rw [enc_ge h] at e
    by_cases h1 : b < 128
    · rw [enc_lt h1] at e
      simp at e
      omega
    · rw [enc_ge (n := b) (by omega)] at e
      simp only [List.cons_append, List.cons.injEq] at e
      have := ih _ _ _ e.2
      omega
theorem enc_take {a b m : Nat} (hm : m = min (enc a).length (enc b).length) (e : (enc a).take m = (enc b).take m) : a = b := by
  rcases Nat.le_total (enc a).length (enc b).length with h | h
  · rw [Nat.min_eq_left h] at hm
    subst hm
    rw [List.take_of_length_le (Nat.le_refl _)] at e
    refine enc_free a b ((enc b).drop (enc a).length) [] ?_
    rw [List.append_nil]
    conv => lhs; lhs; rw [e]
    exact List.take_append_drop ..
  · rw [Nat.min_eq_right h] at hm
    subst hm
    rw [List.take_of_length_le (Nat.le_refl (enc b).length)] at e
    refine enc_free a b [] ((enc a).drop (enc b).length) ?_
    rw [List.append_nil]
    conv => rhs; lhs; rw [← e]
    exact (List.take_append_drop ..).symm
/-- All bytes but the last say that there are more. -/
theorem enc_more (n : Nat) : ∀ k, k < (enc n).length → ∀ x ∈ (enc n).take k, 128 ≤ x := by
  refine enc_ind (p := fun n => ∀ k, k < (enc n).length → ∀ x ∈ (enc n).take k, 128 ≤ x) (fun n h k hk x hx => ?_) (fun n h ih k hk x hx => ?_) n
  · rw [enc_lt h] at hk hx
    simp at hk
    subst hk
    simp at hx
  · rw [enc_ge h] at hk hx
    cases k with
    | zero => simp at hx
    | succ k =>
      simp only [List.take_succ_cons, List.mem_cons] at hx
      rcases hx with rfl | hx
      · omega
      · exact ih k (by simpa using hk) x hx
/-- The walk of the reader's loop: at place i, with acc so far, f places still allowed. -/
def nat : Nat → List Nat → Nat → Nat → Nat × Nat × Bool
  | 0, _, _, _ => (0, 0, false)
  | f + 1, l, i, acc => if i < l.length then
      (if l.getD i 0 < 128 then (acc + l.getD i 0 % 128 * 128 ^ i, i + 1, decide (i = 0) || decide (0 < l.getD i 0)) else nat f l (i + 1) (acc + l.getD i 0 % 128 * 128 ^ i))
    else (0, 0, false)
theorem nat_none : ∀ (f : Nat) (l : List Nat) (i acc : Nat), (∀ x ∈ l, 128 ≤ x) → nat f l i acc = (0, 0, false)
  | 0, l, i, acc, h => rfl
  | f + 1, l, i, acc, h => by
    rw [nat]
    split
    · rename_i hi
      have := h _ (List.getElem_mem hi)
      rw [List.getD_eq_getElem?_getD, List.getElem?_eq_getElem hi, Option.getD_some, if_neg (by omega)]
      exact nat_none f l _ _ h
    · rfl
theorem nat_all : ∀ (f m : Nat) (p t : List Nat) (acc : Nat), (enc m).length ≤ f → (p = [] ∨ 0 < m) → nat f (p ++ (enc m ++ t)) p.length acc = (acc + m * 128 ^ p.length, p.length + (enc m).length, true)
  | 0, m, p, t, acc, h, hp => by have := enc_pos m; omega
  | f + 1, m, p, t, acc, h, hp => by
    have hl : p.length < (p ++ (enc m ++ t)).length := by
      have := enc_pos m
      simp only [List.length_append]
      omega
    rw [nat, if_pos hl]
    by_cases h1 : m < 128
    · have g : (p ++ (enc m ++ t)).getD p.length 0 = m := by rw [enc_lt h1]; simp
      rw [g, if_pos h1, Nat.mod_eq_of_lt h1, enc_lt h1]
      rcases hp with rfl | hp
      · simp
      · simp [hp]
    · have g : (p ++ (enc m ++ t)).getD p.length 0 = m % 128 + 128 := by rw [enc_ge (by omega)]; simp
      rw [g, if_neg (by omega), enc_ge (by omega)]
      have ih := nat_all f (m / 128) (p ++ [m % 128 + 128]) t (acc + m % 128 * 128 ^ p.length) (by rw [enc_ge (by omega)] at h; simpa using h) (.inr (by omega))
      simp only [List.append_assoc, List.singleton_append, List.length_append, List.length_singleton, List.cons_append, List.nil_append] at ih ⊢
      rw [show (m % 128 + 128) % 128 = m % 128 by omega, ih]
      have e : m * 128 ^ p.length = m % 128 * 128 ^ p.length + m / 128 * 128 ^ (p.length + 1) := by
        rw [Nat.pow_succ, ← Nat.mul_assoc, Nat.mul_right_comm, ← Nat.add_mul]
        congr 1
        omega
      rw [e]
      simp only [List.length_cons, Prod.mk.injEq, and_true]
      omega
/-- What is written is read. -/
theorem nat_enc {n : Nat} (h : n < 9223372036854775808) (t : List Nat) : nat 9 (enc n ++ t) 0 0 = (n, (enc n).length, true) := by
  have := nat_all 9 n [] t 0 (enc_nine h) (.inl rfl)
  simpa using this
/-- What is cut is not. -/
theorem nat_cut (n k : Nat) (hk : k < (enc n).length) : nat 9 ((enc n).take k) 0 0 = (0, 0, false) := nat_none 9 _ 0 0 (enc_more n k hk)
/-- The greatest number that so many bytes can give. -/
theorem nat_bound : ∀ (f : Nat) (l : List Nat) (i acc : Nat), acc < 128 ^ i → (nat f l i acc).2.2 = true → (nat f l i acc).1 < 128 ^ (i + f) ∧ i < (nat f l i acc).2.1 ∧ (nat f l i acc).2.1 ≤ l.length ∧ (nat f l i acc).2.1 ≤ i + f
  | 0, l, i, acc, h, e => by simp [nat] at e
  | f + 1, l, i, acc, h, e => by
    rw [nat] at e ⊢
    have hacc : acc + l.getD i 0 % 128 * 128 ^ i < 128 ^ (i + 1) := by
      rw [Nat.pow_succ]
      have : l.getD i 0 % 128 * 128 ^ i ≤ 127 * 128 ^ i := Nat.mul_le_mul_right _ (by omega)
      omega
    by_cases hi : i < l.length
    · rw [if_pos hi] at e ⊢
      by_cases hb : l.getD i 0 < 128
      · rw [if_pos hb] at e ⊢
        refine ⟨Nat.lt_of_lt_of_le hacc (Nat.pow_le_pow_right (by omega) (by omega)), ?_, ?_, ?_⟩ <;> simp <;> omega
      · rw [if_neg hb] at e ⊢
        have := nat_bound f l (i + 1) _ hacc e
        rw [show i + 1 + f = i + (f + 1) by omega] at this
        exact ⟨this.1, by omega, this.2.2.1, this.2.2.2⟩
    · rw [if_neg hi] at e
      simp at e
end Go.Proofs.YtoegfckafnlknaaDoor
