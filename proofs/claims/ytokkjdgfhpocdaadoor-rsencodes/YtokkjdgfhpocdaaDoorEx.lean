/- What the document's own Factor and at do, for all numbers. -/
import Derived.Test.YtokkjdgfhpocdaaDoorEn
import Derived.Test.YtokkjdgfhpocdaaDoorWd
namespace Go.Proofs.YtokkjdgfhpocdaaDoor
open Go.ChangeShapes Go.WideShapes Go.ChangeAt Go.RowKit
set_option linter.unusedVariables false
set_option linter.unusedSimpArgs false
theorem reffactor_any (k number j : Nat) (hk : k ≤ 16) (hn : number < 16) (hj : j < k) (w : World) :
    Calls Tryd.prog 30 #[.int .i64 (k : Int), .int .i64 (number : Int), .int .i64 (j : Int)] w fun e w' => e = .returned (.int .u8 (fac k number j : Nat)) ∧ w' = w := by
  by_cases h2 : number < k
  · have i2 : (number : Int) < (k : Int) := by omega
    by_cases h1 : number = j
    · have e : fac k number j = 1 := by simp [fac, h1]
      rw [e]; clear e
      subst h1
      go_enter Tryd.func30, Tryd.ntmps30
      go_wp2
      go_ret
      exact ⟨rfl, rfl⟩
    · have g1 : ((number : Int) == (j : Int)) = false := by simp; omega
      have e : fac k number j = 0 := by simp [fac, h1, h2]
      rw [e]; clear e
      go_enter Tryd.func30, Tryd.ntmps30
      go_wp2
      go_ret
      exact ⟨rfl, rfl⟩
  · have h1 : number ≠ j := by omega
    have e : fac k number j = Gm.inv (number ^^^ j) := by simp [fac, h1, h2]
    rw [e]; clear e
    have hx : number ^^^ j < 16 := Nat.xor_lt_two_pow (n := 4) hn (by omega)
    have hx0 : number ^^^ j ≠ 0 := by
      intro h0
      apply h1
      have h5 : (number ^^^ j) ^^^ j = 0 ^^^ j := by rw [h0]
      rw [Nat.xor_assoc, Nat.xor_self, Nat.xor_zero, Nat.zero_xor] at h5
      exact h5
    have xb := i64_xor_nat number j (by omega) (by omega)
    obtain ⟨x, Hx⟩ : ∃ x, Hid (number ^^^ j = x) := ⟨_, rfl⟩
    rw [Hx.out] at hx hx0 xb ⊢
    have x1 : (x : Int) < 16 := by omega
    clear h1
    go_enter Tryd.func30, Tryd.ntmps30
    go_wp2_with (go_at_call 39; refine (refinv_some x (by omega) hx0 _).mono ?_; rintro e w0 ⟨rfl, h0⟩; rw [h0]; clear h0)
    go_ret
    exact ⟨rfl, rfl⟩
theorem at_any (n c size j b : Nat) (a : Option Addr) (data : List Nat) (w : World) (hs : size ≤ 1100) (hj : j ≤ 16) (hb : b ≤ 1100) (hn : n ≤ 1024) (S : Hid (Sln w a n data)) :
    Calls Tryd.prog 31 #[.slice a n c, .int .i64 (size : Int), .int .i64 (j : Int), .int .i64 (b : Int)] w fun e w' => e = .returned (.int .u8 (data.getD (j * size + b) 0 : Nat)) ∧ w' = w := by
  obtain ⟨p, hp⟩ : ∃ p, p = j * size := ⟨_, rfl⟩
  have hp1 : (j : Int) * (size : Int) = (p : Int) := by rw [hp]; simp
  have hp2 : p ≤ 17600 := by rw [hp]; exact Nat.le_trans (Nat.mul_le_mul hj hs) (by omega)
  rw [← hp]
  by_cases hlt : p + b < n
  · obtain ⟨bd, od, rfl, cd⟩ := row_at S.out hlt
    obtain ⟨y, Hy⟩ : ∃ y, Hid (data.getD (p + b) 0 = y) := ⟨_, rfl⟩
    rw [Hy.out] at cd ⊢
    obtain ⟨z, Hz⟩ : ∃ z, Hid (p + b = z) := ⟨_, rfl⟩
    have hz : (p : Int) + (b : Int) = (z : Int) := by have := Hz.out; omega
    rw [Hz.out] at cd hlt
    have i1 : (z : Int) < (n : Int) := by omega
    clear hp
    go_enter Tryd.func31, Tryd.ntmps31
    go_wp2
    go_ret
    exact ⟨rfl, rfl⟩
  · rw [getD_out (by rw [← S.out.len]; omega)]
    have i1 : (n : Int) ≤ (p : Int) + (b : Int) := by omega
    clear hp
    go_enter Tryd.func31, Tryd.ntmps31
    go_wp2
    go_ret
    exact ⟨rfl, rfl⟩
end Go.Proofs.YtokkjdgfhpocdaaDoor
