/- What Pow, Inv, Div, Add and Log of package gf do, for all bytes and integers: they return what the plain arithmetic tells, and change nothing. -/
import Derived.Test.YtokkjdgfhpocdaaDoorWa
namespace Go.Proofs.YtokkjdgfhpocdaaDoor
open Go.ChangeShapes Go.WideShapes Go.ChangeAt Go.RowKit
theorem and1i_t : ∀ a : Nat, a < 256 → (bits BinOp.and IntKind.i64 (a : Int) 1 != 0) = true → a % 2 = 1 := by decide +kernel
theorem and1i_f : ∀ a : Nat, a < 256 → (bits BinOp.and IntKind.i64 (a : Int) 1 != 0) = false → a % 2 = 0 := by decide +kernel
theorem raise_step1 {k p x e r : Nat} (hk : k < 8) (h : e % 2 = 1) (H : Gm.raiseGo (8 - k) p x e = r) : Gm.raiseGo (8 - (k + 1)) (Gm.mul p x) (Gm.mul x x) (e / 2) = r := by
  have e : 8 - k = 8 - (k + 1) + 1 := by omega
  rw [e] at H; simpa [Gm.raiseGo, h] using H
theorem raise_step0 {k p x e r : Nat} (hk : k < 8) (h : e % 2 = 0) (H : Gm.raiseGo (8 - k) p x e = r) : Gm.raiseGo (8 - (k + 1)) p (Gm.mul x x) (e / 2) = r := by
  have e : 8 - k = 8 - (k + 1) + 1 := by omega
  rw [e] at H; simpa [Gm.raiseGo, h] using H
theorem raise_any (a n : Nat) (ha : a < 256) (hn : n < 256) (w : World) :
    Calls Tryd.prog 51 #[.int .u8 (a : Int), .int .i64 (n : Int)] w fun e w' => e = .returned (.int .u8 (Gm.raise a n : Nat)) ∧ w' = w := by
  go_enter Tryd.func51, Tryd.ntmps51
  go_wp2
  go_loop [0, 1, 5, 6] (fun ta tb tp ti => ∃ k x y p : Nat, k ≤ 8 ∧ x < 256 ∧ y < 256 ∧ p < 256 ∧ Gm.raiseGo (8 - k) p x y = Gm.raise a n ∧ ta = .int .u8 x ∧ tb = .int .i64 y ∧ tp = .int .u8 p ∧ ti = .int .i64 k) (fun _ _ _ ti => 8 - (intOf ti).toNat)
  case atStart => exact ⟨0, a, n, 1, by omega, ha, hn, by omega, rfl, rfl, rfl, rfl, rfl⟩
  case round =>
    obtain ⟨k, x, y, p, hk, hx, hy, hp, hM, rfl, rfl, rfl, rfl⟩ := hrel
    have HM : Hid (Gm.raiseGo (8 - k) p x y = Gm.raise a n) := hM
    clear hM
    have hpx := Gm.mul_lt p x hp
    have hxx := Gm.mul_lt x x hx
    by_cases hlt : k < 8
    · go_wp2_with (go_at_call 48; refine (mul_any _ _ (by omega) (by omega) _).mono ?_; rintro e w' ⟨rfl, rfl⟩)
      all_goals go_round
      case rel =>
        have hx1 := and1i_t y hy (by assumption)
        exact ⟨k + 1, Gm.mul x x, y / 2, Gm.mul p x, by omega, hxx, by omega, hpx, raise_step1 hlt hx1 HM.out, rfl, rfl, rfl, by go_num⟩
      case measure => simp [intOf]; omega
      case rel =>
        have hx1 := and1i_f y hy (by assumption)
        exact ⟨k + 1, Gm.mul x x, y / 2, p, by omega, hxx, by omega, hp, raise_step0 hlt hx1 HM.out, rfl, rfl, rfl, by go_num⟩
      case measure => simp [intOf]; omega
    · go_wp2
      go_ret
      have e8 : k = 8 := by omega
      subst e8
      exact ⟨ret_int (by have := HM.out; simp [Gm.raiseGo] at this; rw [this]), rfl⟩

theorem tmod255 (n : Int) : -254 ≤ n.tmod 255 ∧ n.tmod 255 ≤ 254 ∧ n % 255 = if n.tmod 255 < 0 then n.tmod 255 + 255 else n.tmod 255 := by
  have h : n.tmod 255 = _ := Int.tmod_eq_emod
  split at h
  · have := Int.emod_lt_of_pos n (show (0 : Int) < 255 by omega)
    have := Int.emod_nonneg n (show (255 : Int) ≠ 0 by omega)
    refine ⟨by omega, by omega, ?_⟩
    rw [if_neg (by omega)]; omega
  · rename_i hc
    have := Int.emod_lt_of_pos n (show (0 : Int) < 255 by omega)
    have := Int.emod_nonneg n (show (255 : Int) ≠ 0 by omega)
    have hne : n % 255 ≠ 0 := by intro e; exact hc (Or.inr (Int.dvd_of_emod_eq_zero e))
    simp at h
    refine ⟨by omega, by omega, ?_⟩
    rw [if_pos (by omega)]; omega
theorem raise_int (a : Nat) (z : Int) (ha : a < 256) (h0 : 0 ≤ z) (h1 : z < 256) (w : World) :
    Calls Tryd.prog 51 #[.int .u8 (a : Int), .int .i64 z] w fun e w' => e = .returned (.int .u8 (Gm.raise a z.toNat : Nat)) ∧ w' = w := by
  have := raise_any a z.toNat ha (by omega) w
  rwa [Int.toNat_of_nonneg h0] at this
theorem pow_any (a : Nat) (n : Int) (ha : a < 256) (hn : (Lit.int .i64 n).wf = true) (w : World) :
    Calls Tryd.prog 49 #[.int .u8 (a : Int), .int .i64 n] w fun e w' => e = .returned (.int .u8 (Gm.powZ a n : Nat)) ∧ w' = w := by
  have hb := bounds_i64 hn
  by_cases h0 : n = 0
  · subst h0
    go_enter Tryd.func49, Tryd.ntmps49
    go_wp2
    go_ret
    exact ⟨rfl, rfl⟩
  · by_cases ha0 : a = 0
    · subst ha0
      go_enter Tryd.func49, Tryd.ntmps49
      go_wp2
      go_ret
      exact ⟨ret_int (by simp [Gm.powZ, h0]), rfl⟩
    · have ht := tmod255 n
      have ht1 := ht.1
      have ht2 := ht.2.1
      have HT : Hid (n % 255 = if n.tmod 255 < 0 then n.tmod 255 + 255 else n.tmod 255) := ht.2.2
      clear ht
      go_enter Tryd.func49, Tryd.ntmps49
      go_wp2_with (go_at_call 51; refine (raise_int a _ ha (by omega) (by omega) _).mono ?_; rintro e w' ⟨rfl, rfl⟩)
      all_goals go_ret
      · have h1 : n.tmod 255 < 0 := by assumption
        refine ⟨ret_int ?_, rfl⟩
        have e := HT.out; rw [if_pos h1] at e
        rw [Gm.powZ_pos a n ha ha0, e, Gm.raise_eq a _ ha (by omega)]
      · have h1 : 0 ≤ n.tmod 255 := by assumption
        refine ⟨ret_int ?_, rfl⟩
        have e := HT.out; rw [if_neg (by omega)] at e
        rw [Gm.powZ_pos a n ha ha0, e, Gm.raise_eq a _ ha (by omega)]
theorem inv_none (w : World) : Calls Tryd.prog 43 #[.int .u8 (0 : Int)] w fun e w' => e = .returned (.tuple #[.int .u8 (0 : Int), .bool false]) ∧ w' = w := by
  go_enter Tryd.func43, Tryd.ntmps43
  go_wp2
  go_ret2
  exact ⟨rfl, rfl⟩
theorem inv_some (a : Nat) (ha : a < 256) (h0 : a ≠ 0) (w : World) : Calls Tryd.prog 43 #[.int .u8 (a : Int)] w fun e w' => e = .returned (.tuple #[.int .u8 (Gm.inv a : Nat), .bool true]) ∧ w' = w := by
  have h1 : ((a : Int) == 0) = false := by simp; omega
  go_enter Tryd.func43, Tryd.ntmps43
  go_wp2_with (go_at_call 49; refine (pow_any a (-1) ha (by decide) _).mono ?_; rintro e w' ⟨rfl, rfl⟩)
  go_ret2
  exact ⟨by rw [Gm.powZ_m1 a ha h0]; rfl, rfl⟩
/- what Log answers: log a and true, or 0 and false -/
end Go.Proofs.YtokkjdgfhpocdaaDoor
