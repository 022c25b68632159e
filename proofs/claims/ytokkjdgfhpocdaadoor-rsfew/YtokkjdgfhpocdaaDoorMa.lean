/- The rows of any k shards are independent: plain arithmetic of the field, no Go in sight. -/
import Derived.Test.YtokkjdgfhpocdaaDoorMath
namespace Go.Proofs.YtokkjdgfhpocdaaDoor.Gm
/- the sum over a list -/
def sumOver (f : Nat → Nat) : List Nat → Nat
  | [] => 0
  | x :: r => f x ^^^ sumOver f r
theorem sumOver_lt {f : Nat → Nat} {l : List Nat} (h : ∀ x ∈ l, f x < 256) : sumOver f l < 256 := by
  induction l with
  | nil => simp [sumOver]
  | cons x r ih => exact xor_lt _ _ (h x (List.mem_cons_self ..)) (ih fun y hy => h y (List.mem_cons_of_mem _ hy))
theorem sumOver_congr {f g : Nat → Nat} {l : List Nat} (h : ∀ x ∈ l, f x = g x) : sumOver f l = sumOver g l := by
  induction l with
  | nil => rfl
  | cons x r ih =>
    simp only [sumOver]
    rw [h x (List.mem_cons_self ..), ih fun y hy => h y (List.mem_cons_of_mem _ hy)]
theorem sumOver_add (f g : Nat → Nat) (l : List Nat) : sumOver (fun x => f x ^^^ g x) l = sumOver f l ^^^ sumOver g l := by
  induction l with
  | nil => simp [sumOver]
  | cons x r ih => simp only [sumOver]; rw [ih]; exact xor4 _ _ _ _
theorem sumOver_mul (c : Nat) (f : Nat → Nat) (l : List Nat) : sumOver (fun x => mul c (f x)) l = mul c (sumOver f l) := by
  induction l with
  | nil => simp [sumOver, mul_zero]
  | cons x r ih => simp only [sumOver]; rw [ih, mul_add]
theorem xor_zero_eq {a b : Nat} (h : a ^^^ b = 0) : a = b := by
  have h2 : (a ^^^ b) ^^^ b = 0 ^^^ b := by rw [h]
  rw [Nat.xor_assoc, Nat.xor_self, Nat.xor_zero, Nat.zero_xor] at h2
  exact h2
theorem xor_ne {a b : Nat} (h : a ≠ b) : a ^^^ b ≠ 0 := fun e => h (xor_zero_eq e)
theorem mul_eq_zero {a b : Nat} (ha : a < 256) (hb : b < 256) (h : mul a b = 0) : a = 0 ∨ b = 0 := by
  by_cases h0 : a = 0
  · exact .inl h0
  · right
    have h1 := inv_mul a ha h0
    have h2 : mul (inv a) (mul a b) = 0 := by rw [h, mul_zero]
    rw [← mul_assoc _ _ _ (inv_lt a ha) ha hb, mul_comm _ _ (inv_lt a ha) ha, h1, one_mul b hb] at h2
    exact h2
/- 1/u + 1/v = (u + v) / (u v) -/
theorem inv_add {u v : Nat} (hu : u < 256) (hv : v < 256) (u0 : u ≠ 0) (v0 : v ≠ 0) : inv u ^^^ inv v = mul (u ^^^ v) (mul (inv u) (inv v)) := by
  have iu := inv_lt u hu
  have iv := inv_lt v hv
  rw [add_mul _ _ _ hu hv, ← mul_assoc _ _ _ hu iu iv, inv_mul u hu u0, one_mul _ iv, mul_comm (inv u) (inv v) iu iv, ← mul_assoc _ _ _ hv iv iu, inv_mul v hv v0, one_mul _ iu, Nat.xor_comm]
/- Cauchy: as many equations as unknowns, and all unknowns are 0 -/
theorem cauchy (t : Nat) : ∀ (ys xs : List Nat) (c : Nat → Nat), xs.length = t → ys.length = t → xs.Nodup → ys.Nodup → (∀ x ∈ xs, x < 256) → (∀ y ∈ ys, y < 256) → (∀ x ∈ xs, ∀ y ∈ ys, x ≠ y) → (∀ x ∈ xs, c x < 256) →
    (∀ y ∈ ys, sumOver (fun x => mul (c x) (inv (x ^^^ y))) xs = 0) → ∀ x ∈ xs, c x = 0 := by
  induction t with
  | zero =>
    intro ys xs c hx _ _ _ _ _ _ _ _ x hm
    have : xs = [] := List.eq_nil_of_length_eq_zero hx
    rw [this] at hm; cases hm
  | succ t ih =>
    intro ys xs c hx hy ndx ndy bx by_ hne bc heq
    obtain ⟨y0, ys, rfl⟩ : ∃ y0 r, ys = y0 :: r := by cases ys with | nil => simp at hy | cons a r => exact ⟨a, r, rfl⟩
    obtain ⟨x0, xs, rfl⟩ : ∃ x0 r, xs = x0 :: r := by cases xs with | nil => simp at hx | cons a r => exact ⟨a, r, rfl⟩
    have y0b := by_ y0 (List.mem_cons_self ..)
    have x0b := bx x0 (List.mem_cons_self ..)
    have ndx' := List.nodup_cons.1 ndx
    have ndy' := List.nodup_cons.1 ndy
    /- d x = c x / (x + y0) -/
    have db : ∀ x ∈ x0 :: xs, mul (c x) (inv (x ^^^ y0)) < 256 := fun x hm => mul_lt _ _ (bc x hm)
    have ib : ∀ x ∈ x0 :: xs, ∀ y ∈ y0 :: ys, inv (x ^^^ y) < 256 := fun x hm y hm2 => inv_lt _ (xor_lt _ _ (bx x hm) (by_ y hm2))
    have h0 := heq y0 (List.mem_cons_self ..)
    /- row y less row y0, over y0 + y -/
    have h1 : ∀ y ∈ ys, sumOver (fun x => mul (mul (c x) (inv (x ^^^ y0))) (inv (x ^^^ y))) (x0 :: xs) = 0 := by
      intro y hm
      have hm2 : y ∈ y0 :: ys := List.mem_cons_of_mem _ hm
      have yb := by_ y hm2
      have hyy : y ^^^ y0 ≠ 0 := xor_ne (fun e => ndy'.1 (e ▸ hm))
      have h2 := heq y hm2
      have h3 : sumOver (fun x => mul (c x) (inv (x ^^^ y)) ^^^ mul (c x) (inv (x ^^^ y0))) (x0 :: xs) = 0 := by
        rw [sumOver_add, h2, h0]; rfl
      have h4 : sumOver (fun x => mul (y ^^^ y0) (mul (mul (c x) (inv (x ^^^ y0))) (inv (x ^^^ y)))) (x0 :: xs) = 0 := by
        rw [← h3]
        apply sumOver_congr
        intro x hxm
        have xb := bx x hxm
        have i1 := ib x hxm y hm2
        have i0 := ib x hxm y0 (List.mem_cons_self ..)
        have cb := bc x hxm
        rw [← mul_add, inv_add (xor_lt _ _ xb yb) (xor_lt _ _ xb y0b) (xor_ne (hne x hxm y hm2)) (xor_ne (hne x hxm y0 (List.mem_cons_self ..)))]
        have e1 : (x ^^^ y) ^^^ (x ^^^ y0) = y ^^^ y0 := by rw [xor4, Nat.xor_self, Nat.zero_xor]
        have yyb : y ^^^ y0 < 256 := xor_lt _ _ yb y0b
        rw [e1, mul_assoc _ _ _ cb i0 i1, ← mul_assoc _ _ _ yyb cb (mul_lt _ _ i0), mul_comm (y ^^^ y0) (c x) yyb cb, mul_assoc _ _ _ cb yyb (mul_lt _ _ i0), mul_comm (inv (x ^^^ y0)) _ i0 i1]
      rw [sumOver_mul] at h4
      exact (mul_eq_zero (xor_lt _ _ yb y0b) (sumOver_lt fun x hxm => mul_lt _ _ (db x hxm)) h4).resolve_left hyy
    /- the unknown of x0 is the sum of the others -/
    have hd0 : mul (c x0) (inv (x0 ^^^ y0)) = sumOver (fun x => mul (c x) (inv (x ^^^ y0))) xs := by
      simp only [sumOver] at h0
      exact xor_zero_eq h0
    have h5 : ∀ y ∈ ys, sumOver (fun x => mul (mul (mul (c x) (inv (x ^^^ y0))) (x ^^^ x0)) (inv (x ^^^ y))) xs = 0 := by
      intro y hm
      have hm2 : y ∈ y0 :: ys := List.mem_cons_of_mem _ hm
      have yb := by_ y hm2
      have h2 := h1 y hm
      simp only [sumOver] at h2
      have k0 := ib x0 (List.mem_cons_self ..) y hm2
      have sb : sumOver (fun x => mul (c x) (inv (x ^^^ y0))) xs < 256 := sumOver_lt fun x hxm => db x (List.mem_cons_of_mem _ hxm)
      rw [hd0, mul_comm _ _ sb k0, ← sumOver_mul, ← sumOver_add] at h2
      have h6 : sumOver (fun x => mul (inv (x0 ^^^ y)) (mul (mul (mul (c x) (inv (x ^^^ y0))) (x ^^^ x0)) (inv (x ^^^ y)))) xs = 0 := by
        rw [← h2]
        apply sumOver_congr
        intro x hxm
        have hxm2 : x ∈ x0 :: xs := List.mem_cons_of_mem _ hxm
        have xb := bx x hxm2
        have d := db x hxm2
        have i1 := ib x hxm2 y hm2
        rw [mul_comm (inv (x0 ^^^ y)) (mul (c x) (inv (x ^^^ y0))) k0 d, ← mul_add, inv_add (xor_lt _ _ x0b yb) (xor_lt _ _ xb yb) (xor_ne (hne x0 (List.mem_cons_self ..) y hm2)) (xor_ne (hne x hxm2 y hm2))]
        have e1 : (x0 ^^^ y) ^^^ (x ^^^ y) = x ^^^ x0 := by rw [xor4, Nat.xor_self, Nat.xor_zero, Nat.xor_comm]
        have xxb : x ^^^ x0 < 256 := xor_lt _ _ xb x0b
        rw [e1, ← mul_assoc _ _ _ d xxb (mul_lt _ _ k0), ← mul_assoc _ _ _ (mul_lt _ _ d) k0 i1, mul_comm _ (inv (x0 ^^^ y)) (mul_lt _ _ d) k0, mul_assoc _ _ _ k0 (mul_lt _ _ d) i1]
      rw [sumOver_mul] at h6
      exact (mul_eq_zero k0 (sumOver_lt fun x hxm => mul_lt _ _ (mul_lt _ _ (db x (List.mem_cons_of_mem _ hxm)))) h6).resolve_left (inv_ne _ (xor_lt _ _ x0b yb) (xor_ne (hne x0 (List.mem_cons_self ..) y hm2)))
    have h7 := ih ys xs (fun x => mul (mul (c x) (inv (x ^^^ y0))) (x ^^^ x0)) (by simpa using hx) (by simpa using hy) ndx'.2 ndy'.2 (fun x hm => bx x (List.mem_cons_of_mem _ hm)) (fun y hm => by_ y (List.mem_cons_of_mem _ hm)) (fun x hm y hm2 => hne x (List.mem_cons_of_mem _ hm) y (List.mem_cons_of_mem _ hm2)) (fun x hm => mul_lt _ _ (db x (List.mem_cons_of_mem _ hm))) h5
    /- so all d are 0, and all c -/
    have hdz : ∀ x ∈ xs, mul (c x) (inv (x ^^^ y0)) = 0 := fun x hm => by
      have hm2 : x ∈ x0 :: xs := List.mem_cons_of_mem _ hm
      exact (mul_eq_zero (db x hm2) (xor_lt _ _ (bx x hm2) x0b) (h7 x hm)).resolve_right (xor_ne (fun e => ndx'.1 (e ▸ hm)))
    have hdz0 : mul (c x0) (inv (x0 ^^^ y0)) = 0 := by
      rw [hd0, sumOver_congr (g := fun _ => mul 0 0) (fun x hm => by rw [hdz x hm]; rfl), sumOver_mul]
      exact zero_mul _
    intro x hm
    have hi : inv (x ^^^ y0) ≠ 0 := inv_ne _ (xor_lt _ _ (bx x hm) y0b) (xor_ne (hne x hm y0 (List.mem_cons_self ..)))
    have hz : mul (c x) (inv (x ^^^ y0)) = 0 := by
      rcases List.mem_cons.1 hm with rfl | hm'
      · exact hdz0
      · exact hdz x hm'
    exact (mul_eq_zero (bc x hm) (ib x hm y0 (List.mem_cons_self ..)) hz).resolve_right hi
end Go.Proofs.YtokkjdgfhpocdaaDoor.Gm
