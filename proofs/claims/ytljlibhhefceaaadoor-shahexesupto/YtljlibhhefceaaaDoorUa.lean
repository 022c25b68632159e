/- What digitOf of package sha and the document's digit do, for all bytes. -/
import Derived.Test.YtljlibhhefceaaaDoorBa
namespace Go.Proofs.YtljlibhhefceaaaDoor
open Go.ChangeShapes Go.WideShapes Go.ChangeAt Go.RowKit
set_option linter.unusedVariables false
set_option linter.unusedSimpArgs false
/- the digit that a byte is -/
def dig (c : Nat) : Option Nat := if 48 ≤ c ∧ c ≤ 57 then some (c - 48) else if 97 ≤ c ∧ c ≤ 102 then some (c - 87) else none
theorem dig_lt {c x : Nat} (h : dig c = some x) : x < 16 := by
  unfold dig at h
  split at h
  · simp at h; omega
  · split at h
    · simp at h; omega
    · cases h
theorem digitOf_t (c x : Nat) (hc : c < 256) (h : dig c = some x) (w : World) : Calls Tryd.prog 28 #[.int .u8 (c : Int)] w fun e w' => e = .returned (.tuple #[.int .u8 (x : Int), .bool true]) ∧ w' = w := by
  unfold dig at h
  by_cases h1 : 48 ≤ c ∧ c ≤ 57
  · rw [if_pos h1] at h
    simp only [Option.some.injEq] at h
    obtain ⟨d, rfl⟩ : ∃ d, c = d + 48 := ⟨c - 48, by omega⟩
    have e : x = d := by omega
    subst e
    have i1 : (48 : Int) ≤ ((x + 48 : Nat) : Int) := by omega
    have i2 : ((x + 48 : Nat) : Int) ≤ 57 := by omega
    have q : IntKind.u8.wrap (((x + 48 : Nat) : Int) - 48) = (x : Int) := by rw [IntKind.wrap_u8]; omega
    obtain ⟨y, hy⟩ : ∃ y : Int, ((x + 48 : Nat) : Int) = y := ⟨_, rfl⟩
    rw [hy] at i1 i2 q ⊢
    clear h h1 hc hy
    go_enter Tryd.func28, Tryd.ntmps28
    go_wp2
    go_ret2
    exact ⟨rfl, rfl⟩
  · rw [if_neg h1] at h
    by_cases h2 : 97 ≤ c ∧ c ≤ 102
    · rw [if_pos h2] at h
      simp only [Option.some.injEq] at h
      obtain ⟨y, hy⟩ : ∃ y : Int, (c : Int) = y := ⟨_, rfl⟩
      obtain ⟨t, ht⟩ : ∃ t : Int, y - 97 = t := ⟨_, rfl⟩
      have i0 : (48 : Int) ≤ y := by omega
      have i1 : ¬ (y ≤ 57) := by omega
      have i2 : (97 : Int) ≤ y := by omega
      have i3 : y ≤ 102 := by omega
      have q1 : IntKind.u8.wrap (y - 97) = t := by rw [IntKind.wrap_u8]; omega
      have q2 : IntKind.u8.wrap (t + 10) = (x : Int) := by rw [IntKind.wrap_u8]; omega
      rw [hy]
      clear h h1 h2 hc hy ht
      go_enter Tryd.func28, Tryd.ntmps28
      go_wp2
      go_ret2
      exact ⟨rfl, rfl⟩
    · rw [if_neg h2] at h
      cases h
theorem digitOf_f (c : Nat) (hc : c < 256) (h : dig c = none) (w : World) : Calls Tryd.prog 28 #[.int .u8 (c : Int)] w fun e w' => e = .returned (.tuple #[.int .u8 (0 : Int), .bool false]) ∧ w' = w := by
  have h1 : ¬ (48 ≤ c ∧ c ≤ 57) := by
    intro h1
    unfold dig at h
    rw [if_pos h1] at h
    cases h
  have h2 : ¬ (97 ≤ c ∧ c ≤ 102) := by
    intro h2
    unfold dig at h
    rw [if_neg h1, if_pos h2] at h
    cases h
  obtain ⟨y, hy⟩ : ∃ y : Int, (c : Int) = y := ⟨_, rfl⟩
  rw [hy]
  have ww : y < 48 ∨ (48 ≤ y ∧ 57 < y ∧ y < 97) ∨ (102 < y) := by omega
  clear h h1 h2 hc hy
  rcases ww with h | ⟨h1, h2, h3⟩ | h
  · have i1 : ¬ ((48 : Int) ≤ y) := by omega
    have i2 : ¬ ((97 : Int) ≤ y) := by omega
    go_enter Tryd.func28, Tryd.ntmps28
    go_wp2
    go_ret2
    exact ⟨rfl, rfl⟩
  · have i1 : ¬ (y ≤ 57) := by omega
    have i2 : ¬ ((97 : Int) ≤ y) := by omega
    go_enter Tryd.func28, Tryd.ntmps28
    go_wp2
    go_ret2
    exact ⟨rfl, rfl⟩
  · have i0 : (48 : Int) ≤ y := by omega
    have i1 : ¬ (y ≤ 57) := by omega
    have i2 : (97 : Int) ≤ y := by omega
    have i3 : ¬ (y ≤ 102) := by omega
    go_enter Tryd.func28, Tryd.ntmps28
    go_wp2
    go_ret2
    exact ⟨rfl, rfl⟩
/- the document's digit: the number, or -1 -/
def digZ (c : Nat) : Int := match dig c with
  | some x => (x : Int)
  | none => -1
theorem digit_n (c : Nat) (hc : c < 256) (w : World) : Calls Tryd.prog 29 #[.int .u8 (c : Int)] w fun e w' => e = .returned (.int .i64 (digZ c)) ∧ w' = w := by
  obtain ⟨y, hy⟩ : ∃ y : Int, (c : Int) = y := ⟨_, rfl⟩
  have ww : (y < 48 ∧ digZ c = -1) ∨ (48 ≤ y ∧ y ≤ 57 ∧ digZ c = y - 48) ∨ (57 < y ∧ y < 97 ∧ digZ c = -1) ∨ (97 ≤ y ∧ y ≤ 102 ∧ digZ c = y - 97 + 10) ∨ (102 < y ∧ digZ c = -1) := by
    by_cases h1 : 48 ≤ c ∧ c ≤ 57
    · have : digZ c = ((c - 48 : Nat) : Int) := by simp [digZ, dig, h1]
      omega
    · by_cases h2 : 97 ≤ c ∧ c ≤ 102
      · have : digZ c = ((c - 87 : Nat) : Int) := by simp [digZ, dig, h1, h2]
        omega
      · have : digZ c = -1 := by simp [digZ, dig, h1, h2]
        omega
  have hb : 0 ≤ y ∧ y < 256 := by omega
  rw [hy]
  obtain ⟨z, hz⟩ : ∃ z, digZ c = z := ⟨_, rfl⟩
  rw [hz] at ww ⊢
  clear hy hc hz
  rcases ww with ⟨h1, h2⟩ | ⟨h1, h2, h3⟩ | ⟨h1, h2, h3⟩ | ⟨h1, h2, h3⟩ | ⟨h1, h2⟩
  · have i1 : ¬ ((48 : Int) ≤ y) := by omega
    have i2 : ¬ ((97 : Int) ≤ y) := by omega
    subst h2
    go_enter Tryd.func29, Tryd.ntmps29
    go_wp2
    go_ret
    exact ⟨rfl, rfl⟩
  · have q1 : IntKind.u8.wrap (y - 48) = z := by rw [IntKind.wrap_u8]; omega
    have q2 : IntKind.i64.wrap z = z := by rw [IntKind.wrap_i64]; omega
    clear h3
    go_enter Tryd.func29, Tryd.ntmps29
    go_wp2
    go_ret
    exact ⟨rfl, rfl⟩
  · have i0 : (48 : Int) ≤ y := by omega
    have i1 : ¬ (y ≤ 57) := by omega
    have i2 : ¬ ((97 : Int) ≤ y) := by omega
    subst h3
    go_enter Tryd.func29, Tryd.ntmps29
    go_wp2
    go_ret
    exact ⟨rfl, rfl⟩
  · obtain ⟨t, ht⟩ : ∃ t : Int, y - 97 = t := ⟨_, rfl⟩
    have i0 : (48 : Int) ≤ y := by omega
    have i1 : ¬ (y ≤ 57) := by omega
    have q1 : IntKind.u8.wrap (y - 97) = t := by rw [IntKind.wrap_u8]; omega
    have q2 : IntKind.i64.wrap t = t := by rw [IntKind.wrap_i64]; omega
    have q3 : IntKind.i64.wrap (t + 10) = z := by rw [IntKind.wrap_i64]; omega
    clear h3 ht
    go_enter Tryd.func29, Tryd.ntmps29
    go_wp2
    go_ret
    exact ⟨rfl, rfl⟩
  · have i0 : (48 : Int) ≤ y := by omega
    have i1 : ¬ (y ≤ 57) := by omega
    have i2 : (97 : Int) ≤ y := by omega
    have i3 : ¬ (y ≤ 102) := by omega
    subst h2
    go_enter Tryd.func29, Tryd.ntmps29
    go_wp2
    go_ret
    exact ⟨rfl, rfl⟩
end Go.Proofs.YtljlibhhefceaaaDoor
