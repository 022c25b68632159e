/- A number's bytes read as the document tells: plain facts. -/
import Derived.Test.YtnhnpkedkdefnaaDoorWa
namespace Go.Proofs.YtnhnpkedkdefnaaDoor
set_option linter.unusedVariables false
set_option linter.unusedSimpArgs false
def valL : List Nat → Nat
  | [] => 0
  | x :: l => x % 128 + 128 * valL l
theorem valL_snoc (l : List Nat) (x : Nat) : valL (l ++ [x]) = valL l + x % 128 * 128 ^ l.length := by
  induction l with
  | nil => simp [valL]
  | cons y l ih =>
    simp only [List.cons_append, valL, ih, List.length_cons, Nat.pow_succ]
    rw [Nat.mul_add, ← Nat.add_assoc, Nat.mul_comm (128 ^ l.length) 128, Nat.mul_left_comm]
theorem valL_lt (l : List Nat) : valL l < 128 ^ l.length := by
  induction l with
  | nil => simp [valL]
  | cons y l ih =>
    simp only [valL, List.length_cons, Nat.pow_succ]
    have := Nat.mod_lt y (show 0 < 128 by omega)
    omega
/- where the bytes ahead all have more behind them -/
theorem nat_go {l : List Nat} : ∀ k, k ≤ 9 → k ≤ l.length → (∀ i, i < k → 128 ≤ l.getD i 0) → nat 9 l 0 0 = nat (9 - k) l k (valL (l.take k))
  | 0, _, _, _ => by simp [valL]
  | k + 1, h9, hl, hm => by
    rw [nat_go k (by omega) (by omega) (fun i hi => hm i (by omega)), nat_more (by omega) (by omega) (by have := hm k (by omega); omega), take_succ_getD (by omega), valL_snoc, List.length_take, Nat.min_eq_left (by omega)]
theorem nat_fin {l : List Nat} {k : Nat} (h9 : k < 9) (hl : k < l.length) (hm : ∀ i, i < k → 128 ≤ l.getD i 0) (hx : l.getD k 0 < 128) : nat 9 l 0 0 = (valL (l.take (k + 1)), k + 1, decide (k = 0) || decide (0 < l.getD k 0)) := by
  rw [nat_go k (by omega) (by omega) hm, nat_end h9 hl hx, take_succ_getD hl, valL_snoc, List.length_take, Nat.min_eq_left (by omega)]
theorem nat_stop {l : List Nat} {k : Nat} (h9 : k ≤ 9) (hl : k ≤ l.length) (hm : ∀ i, i < k → 128 ≤ l.getD i 0) (h : ¬ (k < l.length ∧ k < 9)) : nat 9 l 0 0 = (0, 0, false) := by
  rw [nat_go k h9 hl hm, nat_off h]
theorem valL_pos : ∀ (A : List Nat) (x : Nat), 0 < x → x < 128 → 0 < valL (A ++ [x])
  | [], x, h, h2 => by simp [valL]; omega
  | y :: A, x, h, h2 => by have := valL_pos A x h h2; simp only [List.cons_append, valL]; omega
theorem enc_val : ∀ (A : List Nat) (x : Nat), (∀ y ∈ A, 128 ≤ y ∧ y < 256) → x < 128 → (A = [] ∨ 0 < x) → enc (valL (A ++ [x])) = A ++ [x]
  | [], x, _, hx, _ => by simp only [List.nil_append, valL]; rw [show x % 128 + 128 * 0 = x by omega, enc_lt hx]
  | y :: A, x, hA, hx, h => by
    have h0 : 0 < x := h.resolve_left (by simp)
    have h1 := valL_pos A x h0 hx
    have h2 := hA y (by simp)
    simp only [List.cons_append, valL]
    rw [enc_ge (by omega), show (y % 128 + 128 * valL (A ++ [x])) / 128 = valL (A ++ [x]) by omega, enc_val A x (fun z hz => hA z (by simp [hz])) hx (.inr h0), show (y % 128 + 128 * valL (A ++ [x])) % 128 + 128 = y by omega]
theorem enc_val_ne {A : List Nat} {x : Nat} (hA : A ≠ []) (hx : x = 0) : enc (valL (A ++ [x])) ≠ A ++ [x] := by
  subst hx
  intro e
  have h1 : valL (A ++ [0]) < 128 ^ A.length := by rw [valL_snoc]; simpa using valL_lt A
  have h2 : A.length = (A.length - 1) + 1 := by have := List.length_pos_iff.2 hA; omega
  rw [h2] at h1
  have h3 := enc_len _ _ h1
  have h4 := congrArg List.length e
  simp at h4
  omega
theorem enc_read {l : List Nat} {k : Nat} (hb : ∀ x ∈ l, x < 256) (hl : k < l.length) (hm : ∀ i, i < k → 128 ≤ l.getD i 0) (hx : l.getD k 0 < 128) : decide (enc (valL (l.take (k + 1))) = l.take (k + 1)) = (decide (k = 0) || decide (0 < l.getD k 0)) := by
  have e := take_succ_getD hl
  have hA : ∀ y ∈ l.take k, 128 ≤ y ∧ y < 256 := by
    intro y hy
    refine ⟨?_, hb y (List.mem_of_mem_take hy)⟩
    obtain ⟨i, hi, rfl⟩ := List.mem_iff_getElem.1 hy
    have h1 : i < k := by simp at hi; omega
    have h2 := hm i h1
    rw [List.getElem_take]
    simpa [List.getD, show i < l.length by omega] using h2
  rw [e]
  by_cases h : k = 0 ∨ 0 < l.getD k 0
  · rw [enc_val (l.take k) _ hA hx (h.imp (fun h0 => by subst h0; rfl) id)]
    rw [decide_eq_true rfl]
    rcases h with h | h
    · rw [decide_eq_true h]; rfl
    · rw [decide_eq_true h, Bool.or_true]
  · have h0 : k ≠ 0 := fun h1 => h (.inl h1)
    have h1 : l.getD k 0 = 0 := by have : ¬ 0 < l.getD k 0 := fun h2 => h (.inr h2); omega
    have h2 := enc_val_ne (A := l.take k) (x := l.getD k 0) (by intro e2; have h3 := congrArg List.length e2; rw [List.length_take, List.length_nil] at h3; omega) h1
    rw [decide_eq_false h2, decide_eq_false h0, h1]
    rfl
end Go.Proofs.YtnhnpkedkdefnaaDoor
