/- Lists of elements, place by place: what sums, multiples and sums of products come to; and the calls of package gf said of slices. -/
import Derived.Test.YtokkjdgfhpocdaaDoorWi
namespace Go.Proofs.YtokkjdgfhpocdaaDoor
open Go.ChangeShapes Go.WideShapes Go.ChangeAt Go.RowKit
set_option linter.unusedVariables false
set_option linter.unusedSimpArgs false
theorem getD_out {l : List Nat} {i : Nat} (h : l.length ≤ i) : l.getD i 0 = 0 := by simp [List.getD, h]
theorem list_ext_getD {a b : List Nat} (h : a.length = b.length) (h2 : ∀ i, i < a.length → a.getD i 0 = b.getD i 0) : a = b := by
  apply List.ext_getElem h
  intro i h3 h4
  have := h2 i h3
  simpa [List.getD, h3, h4] using this
theorem mixN_getD (c : Nat) (L l : List Nat) (k : Nat) (hk : k ≤ L.length) (i : Nat) : (mixN c L l k).getD i 0 = if i < k then L.getD i 0 ^^^ Gm.mul c (l.getD i 0) else L.getD i 0 := by
  induction k with
  | zero => simp [mixN]
  | succ k ih =>
    have ih := ih (by omega)
    simp only [mixN]
    by_cases h : i = k
    · subst h
      have hl : i < (mixN c L l i).length := by rw [mixN_length]; omega
      rw [if_pos (by omega)]
      have e : ((mixN c L l i).set i ((mixN c L l i).getD i 0 ^^^ Gm.mul c (l.getD i 0))).getD i 0 = (mixN c L l i).getD i 0 ^^^ Gm.mul c (l.getD i 0) := by
        simp [List.getD, hl]
      rw [e]
      have e2 : (mixN c L l i).getD i 0 = L.getD i 0 := by rw [ih, if_neg (by omega)]
      rw [e2]
    · have e : ∀ v, ((mixN c L l k).set k v).getD i 0 = (mixN c L l k).getD i 0 := by
        intro v; simp only [List.getD]; rw [List.getElem?_set_ne (by omega)]
      rw [e, ih]
      by_cases h2 : i < k
      · rw [if_pos h2, if_pos (by omega)]
      · rw [if_neg h2, if_neg (by omega)]
theorem ext_getD (l : List Nat) (n i : Nat) : (ext l n).getD i 0 = l.getD i 0 := by
  simp only [ext, List.getD]
  by_cases h : i < l.length
  · rw [List.getElem?_append_left h]
  · rw [List.getElem?_append_right (by omega), List.getElem?_replicate]
    split
    · simp [Nat.le_of_not_lt h]
    · simp [Nat.le_of_not_lt h]
theorem addSc_length (a : List Nat) (c : Nat) (b : List Nat) : (addSc a c b).length = max a.length b.length := by
  unfold addSc; rw [mixN_length, ext_length _ _ (by omega)]
theorem addSc_getD (a : List Nat) (c : Nat) (b : List Nat) (i : Nat) : (addSc a c b).getD i 0 = a.getD i 0 ^^^ Gm.mul c (b.getD i 0) := by
  unfold addSc
  rw [mixN_getD _ _ _ _ (by rw [ext_length _ _ (by omega)]; omega), ext_getD]
  split
  · rfl
  · rename_i h
    rw [getD_out (l := b) (by omega), Gm.mul_zero, Nat.xor_zero]
theorem addSc_lt {a : List Nat} {c : Nat} {b : List Nat} (hc : c < 256) (ha : ∀ x ∈ a, x < 256) : ∀ x ∈ addSc a c b, x < 256 := mixN_lt hc (ext_lt ha _) _
def scaled (c : Nat) (l : List Nat) : List Nat := mixN c (List.replicate l.length 0) l l.length
theorem scaled_length (c : Nat) (l : List Nat) : (scaled c l).length = l.length := by unfold scaled; rw [mixN_length]; simp
theorem replicate_lt (n : Nat) : ∀ x ∈ List.replicate n 0, x < 256 := fun x hx => by have := List.eq_of_mem_replicate hx; omega
theorem scaled_lt {c : Nat} {l : List Nat} (hc : c < 256) : ∀ x ∈ scaled c l, x < 256 := mixN_lt hc (replicate_lt _) _
theorem scaled_getD (c : Nat) (l : List Nat) (i : Nat) : (scaled c l).getD i 0 = Gm.mul c (l.getD i 0) := by
  unfold scaled
  rw [mixN_getD _ _ _ _ (by simp)]
  have e : (List.replicate l.length 0).getD i 0 = 0 := by simp only [List.getD]; rw [List.getElem?_replicate]; split <;> rfl
  rw [e]
  split
  · simp
  · rename_i h
    rw [getD_out (l := l) (by omega), Gm.mul_zero]
/- what is added twice leads back -/
theorem addSc_twice (a b : List Nat) (c : Nat) (h : a.length = b.length) : addSc (addSc a c b) c b = a := by
  apply list_ext_getD
  · rw [addSc_length, addSc_length]; omega
  · intro i _
    rw [addSc_getD, addSc_getD, Nat.xor_assoc, Nat.xor_self, Nat.xor_zero]
theorem dotN_lin (a d b : List Nat) (c : Nat) (hc : c < 256) (ha : ∀ x ∈ a, x < 256) (hd : ∀ x ∈ d, x < 256) (hb : ∀ x ∈ b, x < 256) (k : Nat) : dotN (addSc a c d) b k = dotN a b k ^^^ Gm.mul c (dotN d b k) := by
  induction k with
  | zero => simp [dotN, Gm.mul_zero]
  | succ k ih =>
    have h1 := getD_lt ha k
    have h2 := getD_lt hd k
    have h3 := getD_lt hb k
    simp only [dotN]
    rw [ih, addSc_getD, Gm.add_mul _ _ _ h1 (Gm.mul_lt _ _ hc), Gm.mul_assoc _ _ _ hc h2 h3, Gm.mul_add]
    exact Gm.xor4 _ _ _ _
theorem dot_lin (a d b : List Nat) (c : Nat) (hc : c < 256) (ha : ∀ x ∈ a, x < 256) (hd : ∀ x ∈ d, x < 256) (hb : ∀ x ∈ b, x < 256) (h1 : a.length = b.length) (h2 : d.length = b.length) : dot (addSc a c d) b = dot a b ^^^ Gm.mul c (dot d b) := by
  unfold dot
  rw [addSc_length, h1, h2, Nat.max_self, dotN_lin a d b c hc ha hd hb]
theorem dot_comm (a b : List Nat) (ha : ∀ x ∈ a, x < 256) (hb : ∀ x ∈ b, x < 256) : dot a b = dot b a := by
  have h : ∀ k, dotN a b k = dotN b a k := by
    intro k
    induction k with
    | zero => rfl
    | succ k ih => simp only [dotN]; rw [ih, Gm.mul_comm _ _ (getD_lt ha k) (getD_lt hb k)]
  unfold dot
  rw [h, Nat.min_comm]
theorem dot_lt {a b : List Nat} (ha : ∀ x ∈ a, x < 256) : dot a b < 256 := dotN_lt ha _
/- 1 times a byte -/
theorem one_mul_getD {l : List Nat} (h : ∀ x ∈ l, x < 256) (i : Nat) : Gm.mul 1 (l.getD i 0) = l.getD i 0 := Gm.one_mul _ (getD_lt h i)
theorem scaled_sum (c : Nat) (a b : List Nat) (hc : c < 256) (hb : ∀ x ∈ b, x < 256) : scaled c (addSc a 1 b) = addSc (scaled c a) 1 (scaled c b) := by
  apply list_ext_getD
  · rw [scaled_length, addSc_length, addSc_length, scaled_length, scaled_length]
  · intro i _
    rw [scaled_getD, addSc_getD, addSc_getD, one_mul_getD hb, one_mul_getD (scaled_lt hc), scaled_getD, scaled_getD, Gm.mul_add]
theorem scaled_scaled (d c : Nat) (a : List Nat) (hd : d < 256) (hc : c < 256) (ha : ∀ x ∈ a, x < 256) : scaled d (scaled c a) = scaled (Gm.mul d c) a := by
  apply list_ext_getD
  · rw [scaled_length, scaled_length, scaled_length]
  · intro i _
    rw [scaled_getD, scaled_getD, scaled_getD, Gm.mul_assoc _ _ _ hd hc (getD_lt ha i)]
theorem sum_assoc (a b d : List Nat) (hb : ∀ x ∈ b, x < 256) (hd : ∀ x ∈ d, x < 256) : addSc (addSc a 1 b) 1 d = addSc a 1 (addSc b 1 d) := by
  apply list_ext_getD
  · rw [addSc_length, addSc_length, addSc_length, addSc_length]; omega
  · intro i _
    rw [addSc_getD, addSc_getD, addSc_getD, one_mul_getD hb, one_mul_getD (addSc_lt (by omega) hb), addSc_getD, Nat.xor_assoc]
end Go.Proofs.YtokkjdgfhpocdaaDoor
