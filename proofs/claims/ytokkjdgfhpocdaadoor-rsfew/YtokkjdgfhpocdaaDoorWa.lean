/- What double and Mul of package gf do to a machine, for all bytes: they return the double and the product of the field, and change nothing. -/
import Derived.Test.YtokkjdgfhpocdaaDoorRows
import Derived.Test.YtokkjdgfhpocdaaDoorMath
import Derived.WalkKit
import Derived.ProofKit
import Derived.OpenShut
import Derived.Outline
import Derived.Handy
import Derived.Laws.BitsAllLaws
namespace Go.Proofs.YtokkjdgfhpocdaaDoor
open Go.ChangeShapes Go.WideShapes Go.ChangeAt Go.RowKit
theorem ret_int {k : IntKind} {a b : Int} (h : a = b) : Ending.returned (.int k a) = .returned (.int k b) := by rw [h]
theorem dbl_hi : ∀ a : Nat, a < 256 → (bits BinOp.and IntKind.u8 (a : Int) 128 != 0) = true → bits BinOp.xor IntKind.u8 ((a : Int) * 2 % 256) 29 = (Gm.dbl a : Nat) := by decide +kernel
theorem dbl_lo : ∀ a : Nat, a < 256 → (bits BinOp.and IntKind.u8 (a : Int) 128 != 0) = false → (a : Int) * 2 % 256 = (Gm.dbl a : Nat) := by decide +kernel
theorem and1_t : ∀ a : Nat, a < 256 → (bits BinOp.and IntKind.u8 (a : Int) 1 != 0) = true → a % 2 = 1 := by decide +kernel
theorem and1_f : ∀ a : Nat, a < 256 → (bits BinOp.and IntKind.u8 (a : Int) 1 != 0) = false → a % 2 = 0 := by decide +kernel
theorem double_any (a : Nat) (ha : a < 256) (w : World) :
    Calls Tryd.prog 50 #[.int .u8 (a : Int)] w fun e w' => e = .returned (.int .u8 (Gm.dbl a : Nat)) ∧ w' = w := by
  go_enter Tryd.func50, Tryd.ntmps50
  go_wp2
  · go_ret
    exact ⟨ret_int (dbl_hi a ha (by assumption)), rfl⟩
  · go_ret
    exact ⟨ret_int (dbl_lo a ha (by assumption)), rfl⟩
theorem mul_step1 {k p x y r : Nat} (hk : k < 8) (h : y % 2 = 1) (H : Gm.mulGo (8 - k) p x y = r) : Gm.mulGo (8 - (k + 1)) (p ^^^ x) (Gm.dbl x) (y / 2) = r := by
  have e : 8 - k = 8 - (k + 1) + 1 := by omega
  rw [e] at H; simpa [Gm.mulGo, h] using H
theorem mul_step0 {k p x y r : Nat} (hk : k < 8) (h : y % 2 = 0) (H : Gm.mulGo (8 - k) p x y = r) : Gm.mulGo (8 - (k + 1)) p (Gm.dbl x) (y / 2) = r := by
  have e : 8 - k = 8 - (k + 1) + 1 := by omega
  rw [e] at H; simpa [Gm.mulGo, h] using H
theorem mul_any (a b : Nat) (ha : a < 256) (hb : b < 256) (w : World) :
    Calls Tryd.prog 48 #[.int .u8 (a : Int), .int .u8 (b : Int)] w fun e w' => e = .returned (.int .u8 (Gm.mul a b : Nat)) ∧ w' = w := by
  go_enter Tryd.func48, Tryd.ntmps48
  go_wp2
  go_loop [0, 1, 5, 6] (fun ta tb tp ti => ∃ k x y p : Nat, k ≤ 8 ∧ x < 256 ∧ y < 256 ∧ p < 256 ∧ Gm.mulGo (8 - k) p x y = Gm.mul a b ∧ ta = .int .u8 x ∧ tb = .int .u8 y ∧ tp = .int .u8 p ∧ ti = .int .i64 k) (fun _ _ _ ti => 8 - (intOf ti).toNat)
  case atStart => exact ⟨0, a, b, 0, by omega, ha, hb, by omega, rfl, rfl, rfl, rfl, rfl⟩
  case round =>
    obtain ⟨k, x, y, p, hk, hx, hy, hp, hM, rfl, rfl, rfl, rfl⟩ := hrel
    have HM : Hid (Gm.mulGo (8 - k) p x y = Gm.mul a b) := hM
    clear hM
    by_cases hlt : k < 8
    · go_wp2_with (go_at_call 50; refine (double_any _ (by omega) _).mono ?_; rintro e w' ⟨rfl, rfl⟩)
      all_goals go_round
      case rel =>
        have hx1 := and1_t y hy (by assumption)
        exact ⟨k + 1, Gm.dbl x, y / 2, p ^^^ x, by omega, Gm.dbl_lt x hx, by omega, Gm.xor_lt p x hp hx, mul_step1 hlt hx1 HM.out, rfl, rfl, by rw [u8_xor_nat p x hp hx], by go_num⟩
      case measure => simp [intOf]; omega
      case rel =>
        have hx1 := and1_f y hy (by assumption)
        exact ⟨k + 1, Gm.dbl x, y / 2, p, by omega, Gm.dbl_lt x hx, by omega, hp, mul_step0 hlt hx1 HM.out, rfl, rfl, rfl, by go_num⟩
      case measure => simp [intOf]; omega
    · go_wp2
      go_ret
      have e8 : k = 8 := by omega
      subst e8
      exact ⟨ret_int (by have := HM.out; simp [Gm.mulGo] at this; rw [this]), rfl⟩
