/- What Pow, Inv, Div, Add and Log of package gf do, for all bytes and integers: they return what the plain arithmetic tells, and change nothing. -/
import Derived.Test.YtgfleebnddjhgaaWa
namespace Go.Proofs.Ytgfleebnddjhgaa
open Go.ChangeShapes Go.WideShapes Go.ChangeAt Go.RowKit
theorem and1i_t : ∀ a : Nat, a < 256 → (bits BinOp.and IntKind.i64 (a : Int) 1 != 0) = true → a % 2 = 1 := by decide +kernel
theorem and1i_f : ∀ a : Nat, a < 256 → (bits BinOp.and IntKind.i64 (a : Int) 1 != 0) = false → a % 2 = 0 := by decide +kernel
theorem raise_step1 {k p x e r : Nat} (hk : k < 8) (h : e % 2 = 1) (H : Gm.raiseGo (8 - k) p x e = r) : Gm.raiseGo (8 - (k + 1)) (Gm.mul p x) (Gm.mul x x) (e / 2) = r := by
  have e : 8 - k = 8 - (k + 1) + 1 := by omega
  rw [e] at H; simpa [Gm.raiseGo, h] using H
theorem raise_step0 {k p x e r : Nat} (hk : k < 8) (h : e % 2 = 0) (H : Gm.raiseGo (8 - k) p x e = r) : Gm.raiseGo (8 - (k + 1)) p (Gm.mul x x) (e / 2) = r := by
  have e : 8 - k = 8 - (k + 1) + 1 := by omega
  rw [e] at H; simpa [Gm.raiseGo, h] using H
theorem raise_any (a n : Nat) (ha : a < 256) (hn : n < 256) (w : World) :
    Calls Try.prog 31 #[.int .u8 (a : Int), .int .i64 (n : Int)] w fun e w' => e = .returned (.int .u8 (Gm.raise a n : Nat)) ∧ w' = w := by
  go_enter Try.func31, Try.ntmps31
  go_wp2
  go_loop [0, 1, 5, 6] (fun ta tb tp ti => ∃ k x y p : Nat, k ≤ 8 ∧ x < 256 ∧ y < 256 ∧ p < 256 ∧ Gm.raiseGo (8 - k) p x y = Gm.raise a n ∧ ta = .int .u8 x ∧ tb = .int .i64 y ∧ tp = .int .u8 p ∧ ti = .int .i64 k) (fun _ _ _ ti => 8 - (intOf ti).toNat)
  case atStart => exact ⟨0, a, n, 1, by omega, ha, hn, by omega, rfl, rfl, rfl, rfl, rfl⟩
  case round =>
    obtain ⟨k, x, y, p, hk, hx, hy, hp, hM, rfl, rfl, rfl, rfl⟩ := hrel
    have HM : Hid (Gm.raiseGo (8 - k) p x y = Gm.raise a n) := hM
    clear hM
    have hpx := Gm.mul_lt p x hp
    have hxx := Gm.mul_lt x x hx
    by_cases hlt : k < 8
    · go_wp2_with (go_at_call 17; refine (mul_any _ _ (by omega) (by omega) _).mono ?_; rintro e w' ⟨rfl, rfl⟩)
      all_goals go_round
      case rel =>
        have hx1 := and1i_t y hy (by assumption)
        exact ⟨k + 1, Gm.mul x x, y / 2, Gm.mul p x, by omega, hxx, by omega, hpx, raise_step1 hlt hx1 HM.out, rfl, rfl, rfl, by go_num⟩
      case measure => simp [intOf]; omega
      case rel =>
        have hx1 := and1i_f y hy (by assumption)
        exact ⟨k + 1, Gm.mul x x, y / 2, p, by omega, hxx, by omega, hp, raise_step0 hlt hx1 HM.out, rfl, rfl, rfl, by go_num⟩
      case measure => simp [intOf]; omega
    · go_wp2
      go_ret
      have e8 : k = 8 := by omega
      subst e8
      exact ⟨ret_int (by have := HM.out; simp [Gm.raiseGo] at this; rw [this]), rfl⟩

theorem tmod255 (n : Int) : -254 ≤ n.tmod 255 ∧ n.tmod 255 ≤ 254 ∧ n % 255 = if n.tmod 255 < 0 then n.tmod 255 + 255 else n.tmod 255 := by
  have h : n.tmod 255 = _ := Int.tmod_eq_emod
  split at h
  · have := Int.emod_lt_of_pos n (show (0 : Int) < 255 by omega)
    have := Int.emod_nonneg n (show (255 : Int) ≠ 0 by omega)
    refine ⟨by omega, by omega, ?_⟩
    rw [if_neg (by omega)]; omega
  · rename_i hc
    have := Int.emod_lt_of_pos n (show (0 : Int) < 255 by omega)
    have := Int.emod_nonneg n (show (255 : Int) ≠ 0 by omega)
    have hne : n % 255 ≠ 0 := by intro e; exact hc (Or.inr (Int.dvd_of_emod_eq_zero e))
    simp at h
    refine ⟨by omega, by omega, ?_⟩
    rw [if_pos (by omega)]; omega
theorem raise_int (a : Nat) (z : Int) (ha : a < 256) (h0 : 0 ≤ z) (h1 : z < 256) (w : World) :
    Calls Try.prog 31 #[.int .u8 (a : Int), .int .i64 z] w fun e w' => e = .returned (.int .u8 (Gm.raise a z.toNat : Nat)) ∧ w' = w := by
  have := raise_any a z.toNat ha (by omega) w
  rwa [Int.toNat_of_nonneg h0] at this
theorem pow_any (a : Nat) (n : Int) (ha : a < 256) (hn : (Lit.int .i64 n).wf = true) (w : World) :
    Calls Try.prog 19 #[.int .u8 (a : Int), .int .i64 n] w fun e w' => e = .returned (.int .u8 (Gm.powZ a n : Nat)) ∧ w' = w := by
  have hb := bounds_i64 hn
  by_cases h0 : n = 0
  · subst h0
    go_enter Try.func19, Try.ntmps19
    go_wp2
    go_ret
    exact ⟨rfl, rfl⟩
  · by_cases ha0 : a = 0
    · subst ha0
      go_enter Try.func19, Try.ntmps19
      go_wp2
      go_ret
      exact ⟨ret_int (by simp [Gm.powZ, h0]), rfl⟩
    · have ht := tmod255 n
      have ht1 := ht.1
      have ht2 := ht.2.1
      have HT : Hid (n % 255 = if n.tmod 255 < 0 then n.tmod 255 + 255 else n.tmod 255) := ht.2.2
      clear ht
      go_enter Try.func19, Try.ntmps19
      go_wp2_with (go_at_call 31; refine (raise_int a _ ha (by omega) (by omega) _).mono ?_; rintro e w' ⟨rfl, rfl⟩)
      all_goals go_ret
      · have h1 : n.tmod 255 < 0 := by assumption
        refine ⟨ret_int ?_, rfl⟩
        have e := HT.out; rw [if_pos h1] at e
        rw [Gm.powZ_pos a n ha ha0, e, Gm.raise_eq a _ ha (by omega)]
      · have h1 : 0 ≤ n.tmod 255 := by assumption
        refine ⟨ret_int ?_, rfl⟩
        have e := HT.out; rw [if_neg (by omega)] at e
        rw [Gm.powZ_pos a n ha ha0, e, Gm.raise_eq a _ ha (by omega)]
theorem inv_none (w : World) : Calls Try.prog 10 #[.int .u8 (0 : Int)] w fun e w' => e = .returned (.tuple #[.int .u8 (0 : Int), .bool false]) ∧ w' = w := by
  go_enter Try.func10, Try.ntmps10
  go_wp2
  go_ret2
  exact ⟨rfl, rfl⟩
theorem inv_some (a : Nat) (ha : a < 256) (h0 : a ≠ 0) (w : World) : Calls Try.prog 10 #[.int .u8 (a : Int)] w fun e w' => e = .returned (.tuple #[.int .u8 (Gm.inv a : Nat), .bool true]) ∧ w' = w := by
  have h1 : ((a : Int) == 0) = false := by simp; omega
  go_enter Try.func10, Try.ntmps10
  go_wp2_with (go_at_call 19; refine (pow_any a (-1) ha (by decide) _).mono ?_; rintro e w' ⟨rfl, rfl⟩)
  go_ret2
  exact ⟨by rw [Gm.powZ_m1 a ha h0]; rfl, rfl⟩
theorem div_none (a : Nat) (w : World) : Calls Try.prog 12 #[.int .u8 (a : Int), .int .u8 (0 : Int)] w fun e w' => e = .returned (.tuple #[.int .u8 (0 : Int), .bool false]) ∧ w' = w := by
  go_enter Try.func12, Try.ntmps12
  go_wp2_with (go_at_call 10; refine (inv_none _).mono ?_; rintro e w' ⟨rfl, rfl⟩)
  go_ret2
  exact ⟨rfl, rfl⟩
theorem div_some (a b : Nat) (ha : a < 256) (hb : b < 256) (h0 : b ≠ 0) (w : World) : Calls Try.prog 12 #[.int .u8 (a : Int), .int .u8 (b : Int)] w fun e w' => e = .returned (.tuple #[.int .u8 (Gm.mul a (Gm.inv b) : Nat), .bool true]) ∧ w' = w := by
  have hi := Gm.inv_lt b hb
  go_enter Try.func12, Try.ntmps12
  go_wp2_with (first | (go_at_call 10; refine (inv_some b hb h0 _).mono ?_; rintro e w' ⟨rfl, rfl⟩) | (go_at_call 17; refine (mul_any _ _ ha hi _).mono ?_; rintro e w' ⟨rfl, rfl⟩))
  go_ret2
  exact ⟨rfl, rfl⟩
theorem add_any (a b : Nat) (ha : a < 256) (hb : b < 256) (w : World) : Calls Try.prog 16 #[.int .u8 (a : Int), .int .u8 (b : Int)] w fun e w' => e = .returned (.int .u8 (a ^^^ b : Nat)) ∧ w' = w := by
  go_enter Try.func16, Try.ntmps16
  go_wp2
  go_ret
  exact ⟨ret_int (u8_xor_nat a b ha hb), rfl⟩
/- what Log answers: log a and true, or 0 and false -/
theorem log_step {a k r : Nat} (hk : k < 255) (h : Gm.dblN k ≠ a) (H : Gm.logGo a (255 - k) k (Gm.dblN k) = r) : Gm.logGo a (255 - (k + 1)) (k + 1) (Gm.dblN (k + 1)) = r := by
  have e : 255 - k = 255 - (k + 1) + 1 := by omega
  rw [e] at H; simpa [Gm.logGo, h, Gm.dblN] using H
theorem log_stop {a k r : Nat} (hk : k < 255) (h : Gm.dblN k = a) (H : Gm.logGo a (255 - k) k (Gm.dblN k) = r) : r = k := by
  have e : 255 - k = 255 - (k + 1) + 1 := by omega
  rw [e] at H; simp [Gm.logGo, h] at H; exact H.symm
def logV (a : Nat) : Value := if Gm.log a < 255 then .tuple #[.int .i64 (Gm.log a : Nat), .bool true] else .tuple #[.int .i64 (0 : Int), .bool false]
theorem logV_t {a k : Nat} (hk : k < 255) (h : Gm.log a = k) : logV a = .tuple #[.int .i64 (k : Nat), .bool true] := by
  unfold logV; rw [h, if_pos hk]
theorem logV_f {a : Nat} (h : Gm.log a = 255) : logV a = .tuple #[.int .i64 (0 : Int), .bool false] := by
  unfold logV; rw [h]; rfl
theorem log_any (a : Nat) (ha : a < 256) (w : World) : Calls Try.prog 14 #[.int .u8 (a : Int)] w fun e w' => e = .returned (logV a) ∧ w' = w := by
  obtain ⟨L, HL⟩ : ∃ L, Hid (logV a = L) := ⟨_, rfl⟩
  rw [HL.out]
  obtain ⟨m, Hm⟩ : ∃ m, Hid (Gm.log a = m) := ⟨_, rfl⟩
  obtain ⟨B, hB⟩ : ∃ B : Nat, Hid (B = 255) := ⟨_, rfl⟩
  go_enter Try.func14, Try.ntmps14
  go_wp2
  go_loop [4, 6] (fun tp ti => ∃ k x : Nat, k ≤ B ∧ x < 256 ∧ Hid (Gm.dblN k = x ∧ Gm.logGo a (B - k) k x = m) ∧ tp = .int .u8 x ∧ ti = .int .i64 k) (fun _ ti => B - (intOf ti).toNat)
  case atStart => exact ⟨0, 1, by omega, by omega, ⟨rfl, by rw [hB.out]; exact Hm.out⟩, rfl, rfl⟩
  case round =>
    obtain ⟨k, x, hk, hd, HM, rfl, rfl⟩ := hrel
    have hbb := hB.out
    by_cases hlt : k < 255
    · have HB : Hid (k < B) := (by omega : k < B)
      have hlt' : (k : Int) < 255 := by omega
      clear hbb hk hlt
      by_cases he : x = a
      · subst he
        go_wp2
        go_ret2
        have hb2 := hB.out
        have h3 := HM.out
        rw [hb2] at h3
        have hs : m = k := log_stop (a := x) (by omega) h3.1 (by rw [h3.1]; exact h3.2)
        exact ⟨by rw [← HL.out, logV_t (by omega) (Hm.out.trans hs)]; rfl, rfl⟩
      · have ht : ((x : Int) == (a : Int)) = false := by simp; omega
        have HE : Hid (x ≠ a) := he
        clear he
        go_wp2_with (go_at_call 30; refine (double_any _ hd _).mono ?_; rintro e w' ⟨rfl, rfl⟩)
        go_round
        case rel =>
          have h3 := HM.out
          have hb2 := hB.out
          have hb3 := HB.out
          have h4 := Gm.dbl_lt x hd
          have hne := HE.out
          refine ⟨k + 1, Gm.dbl x, by omega, h4, ⟨by simp only [Gm.dblN]; rw [h3.1], ?_⟩, rfl, by go_num⟩
          rw [hb2] at h3 ⊢
          have := log_step (a := a) (k := k) (r := m) (by omega) (by rw [h3.1]; exact hne) (by rw [h3.1]; exact h3.2)
          simp only [Gm.dblN] at this
          rw [h3.1] at this
          exact this
        case measure => have hb3 := HB.out; simp [intOf]; omega
    · have e : k = 255 := by omega
      have hl : Hid (Gm.log a = 255) := by
        have h3 := HM.out
        rw [hbb, e] at h3
        have h4 := h3.2
        simp [Gm.logGo] at h4
        exact Hm.out.trans h4.symm
      subst e
      clear hbb hk
      go_wp2
      go_ret2
      exact ⟨by rw [← HL.out, logV_f hl.out]; rfl, rfl⟩
end Go.Proofs.Ytgfleebnddjhgaa
