/- Of the rows of k shards with numbers of their own none is a combination of the others: plain arithmetic, no Go in sight. -/
import Derived.Test.YtokkjdgfhpocdaaDoorMa
import Derived.Test.YtokkjdgfhpocdaaDoorEa
namespace Go.Proofs.YtokkjdgfhpocdaaDoor
open Gm
set_option linter.unusedVariables false
set_option linter.unusedSimpArgs false
theorem sumOver_filter (f : Nat → Nat) (p : Nat → Bool) (l : List Nat) (h : ∀ x ∈ l, p x = false → f x = 0) : sumOver f l = sumOver f (l.filter p) := by
  induction l with
  | nil => rfl
  | cons x r ih =>
    have ih := ih fun y hy => h y (List.mem_cons_of_mem _ hy)
    cases hp : p x with
    | true => simp only [sumOver]; rw [List.filter_cons_of_pos hp]; simp only [sumOver]; rw [ih]
    | false =>
      simp only [sumOver]
      rw [List.filter_cons_of_neg (by simp [hp]), h x (List.mem_cons_self ..) hp, ih, Nat.zero_xor]
theorem len_filter_not (p : Nat → Bool) (l : List Nat) : (l.filter p).length + (l.filter fun x => !p x).length = l.length := by
  induction l with
  | nil => rfl
  | cons x r ih => cases hp : p x <;> simp [hp] <;> omega
theorem nodup_range_filter (n : Nat) (p : Nat → Bool) : ((List.range n).filter p).Nodup := List.nodup_range.filter _
theorem len_nums (nums : List Nat) (M : Nat) (nd : nums.Nodup) (h : ∀ x ∈ nums, x < M) : ((List.range M).filter fun x => nums.contains x).length = nums.length := by
  apply List.Perm.length_eq
  rw [List.perm_ext_iff_of_nodup (nodup_range_filter _ _) nd]
  intro a
  simp
  exact h a
theorem filter_range_split (k M : Nat) (hk : k ≤ M) (p : Nat → Bool) : ((List.range M).filter p).length = ((List.range k).filter p).length + ((List.range M).filter fun x => p x && decide (k ≤ x)).length := by
  have h1 := len_filter_not (fun x => decide (k ≤ x)) ((List.range M).filter p)
  have e1 : ((List.range M).filter p).filter (fun x => decide (k ≤ x)) = (List.range M).filter fun x => p x && decide (k ≤ x) := by
    rw [List.filter_filter]
    apply List.filter_congr
    intro x _
    exact Bool.and_comm _ _
  have e2 : (((List.range M).filter p).filter fun x => !decide (k ≤ x)).length = ((List.range k).filter p).length := by
    apply List.Perm.length_eq
    rw [List.perm_ext_iff_of_nodup ((nodup_range_filter _ _).filter _) (nodup_range_filter _ _)]
    intro a
    simp only [List.mem_filter, List.mem_range, Bool.not_eq_true', decide_eq_false_iff_not, Nat.not_le]
    constructor
    · rintro ⟨⟨_, h2⟩, h3⟩; exact ⟨h3, h2⟩
    · rintro ⟨h3, h2⟩; exact ⟨⟨by omega, h2⟩, h3⟩
  rw [e1] at h1
  omega
theorem indep (k M : Nat) (nums : List Nat) (c : Nat → Nat) (hk : k ≤ M) (hM : M ≤ 16) (nd : nums.Nodup) (hl : nums.length = k) (hn : ∀ x ∈ nums, x < M) (cb : ∀ x, c x < 256) (cs : ∀ x, x ∉ nums → c x = 0)
    (h0 : ∀ j, j < k → sumOver (fun x => mul (c x) (fac k x j)) (List.range M) = 0) : ∀ x ∈ nums, k ≤ x → c x = 0 := by
  have lx := filter_range_split k M hk (fun x => nums.contains x)
  rw [len_nums nums M nd hn, hl] at lx
  have ly := len_filter_not (fun x => nums.contains x) (List.range k)
  simp only [List.length_range] at ly
  intro x hx hkx
  refine cauchy _ ((List.range k).filter fun j => !nums.contains j) ((List.range M).filter fun x => nums.contains x && decide (k ≤ x)) c rfl (by omega) (nodup_range_filter _ _) (nodup_range_filter _ _) (fun x hx => ?_) (fun y hy => ?_) (fun x hx y hy => ?_) (fun x _ => cb x) (fun y hy => ?_) x (by simp; exact ⟨hn x hx, hx, hkx⟩)
  · simp at hx; omega
  · simp at hy; omega
  · simp at hx hy; omega
  · simp at hy
    have h1 := h0 y hy.1
    rw [sumOver_filter _ (fun x => nums.contains x && decide (k ≤ x))] at h1
    · rw [← h1]
      apply sumOver_congr
      intro x hx
      simp at hx
      have e : fac k x y = inv (x ^^^ y) := by
        unfold fac
        rw [if_neg (by omega), if_neg (by omega)]
      rw [e]
    · intro x hx hp
      by_cases hm : x ∈ nums
      · have hxk : x < k := by
          simp at hp
          exact hp hm
        have e : fac k x y = 0 := by
          unfold fac
          rw [if_neg (fun e : x = y => hy.2 (e ▸ hm)), if_pos hxk]
        rw [e, mul_zero]
      · rw [cs x hm, zero_mul]
end Go.Proofs.YtokkjdgfhpocdaaDoor
