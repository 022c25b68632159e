/- What the document's own Inv, Div, Pow and Log do, for all bytes and integers: they return what the plain arithmetic tells. -/
import Derived.Test.YtgfleebnddjhgaaWc
namespace Go.Proofs.Ytgfleebnddjhgaa
open Go.ChangeShapes Go.WideShapes Go.ChangeAt Go.RowKit
theorem refinv_none (w : World) : Calls Try.prog 11 #[.int .u8 (0 : Int)] w fun e w' => e = .returned (.tuple #[.int .u8 (0 : Int), .bool false]) ∧ w' = w := by
  obtain ⟨B, hB⟩ : ∃ B : Nat, Hid (B = 256) := ⟨_, rfl⟩
  go_enter Try.func11, Try.ntmps11
  go_wp2
  go_loop [4] (fun tx => ∃ x : Nat, 1 ≤ x ∧ x ≤ B ∧ tx = .int .i64 x) (fun tx => B - (intOf tx).toNat)
  case atStart => exact ⟨1, by omega, by have := hB.out; omega, rfl⟩
  case round =>
    obtain ⟨x, h1, h2, rfl⟩ := hrel
    by_cases hlt : x < 256
    · clear h2
      have HC : Hid (∀ w : World, Calls Try.prog 18 #[.int .u8 (0 : Int), .int .u8 (x : Int)] w fun e w' => e = .returned (.int .u8 (Gm.mul 0 x : Nat)) ∧ w' = w) := fun w => refmul_any 0 x (by omega) hlt w
      have HLT : Hid (x < 256) := hlt
      have hlt' : (x : Int) < 256 := by omega
      clear hlt
      have hm : (((Gm.mul 0 x : Nat) : Int) == 1) = false := by rw [Gm.zero_mul]; rfl
      go_wp2_with (go_at_call 18; refine (HC.out _).mono ?_; rintro e w' ⟨rfl, rfl⟩)
      go_round
      case rel => exact ⟨x + 1, by omega, by have := hB.out; have := HLT.out; omega, by go_num⟩
      case measure => have := hB.out; simp [intOf]; omega
    · have e : x = 256 := by have := hB.out; omega
      subst e
      clear h2
      go_wp2
      go_ret2
      exact ⟨rfl, rfl⟩
theorem refinv_some (a : Nat) (ha : a < 256) (h0 : a ≠ 0) (w : World) : Calls Try.prog 11 #[.int .u8 (a : Int)] w fun e w' => e = .returned (.tuple #[.int .u8 (Gm.inv a : Nat), .bool true]) ∧ w' = w := by
  obtain ⟨I, HI⟩ : ∃ I, Hid (Gm.inv a = I) := ⟨_, rfl⟩
  rw [HI.out]
  obtain ⟨B, hB⟩ : ∃ B : Nat, Hid (B = 256) := ⟨_, rfl⟩
  go_enter Try.func11, Try.ntmps11
  go_wp2
  go_loop [4] (fun tx => ∃ x : Nat, 1 ≤ x ∧ x ≤ B ∧ Hid (x ≤ I) ∧ tx = .int .i64 x) (fun tx => B - (intOf tx).toNat)
  case atStart =>
    refine ⟨1, by omega, by have := hB.out; omega, ?_, rfl⟩
    have := Gm.inv_ne a ha h0
    rw [HI.out] at this
    exact (by omega : 1 ≤ I)
  case round =>
    obtain ⟨x, h1, h2, h3, rfl⟩ := hrel
    have hI : I < 256 := by have := Gm.inv_lt a ha; rw [HI.out] at this; exact this
    have hlt : x < 256 := by have := h3.out; omega
    clear hI h2
    obtain ⟨m, Hm⟩ : ∃ m, Hid (Gm.mul a x = m) := ⟨_, rfl⟩
    have hcall : ∀ w : World, Calls Try.prog 18 #[.int .u8 (a : Int), .int .u8 (x : Int)] w fun e w' => e = .returned (.int .u8 (m : Nat)) ∧ w' = w := fun w => by rw [← Hm.out]; exact refmul_any a x ha hlt w
    have HC : Hid (∀ w : World, Calls Try.prog 18 #[.int .u8 (a : Int), .int .u8 (x : Int)] w fun e w' => e = .returned (.int .u8 (m : Nat)) ∧ w' = w) := hcall
    clear hcall
    by_cases hm : m = 1
    · have hx : x = I := by have := (Gm.inv_uniq a x ha hlt (Hm.out.trans hm)).2; rw [this, HI.out]
      have hm' : ((m : Int) == 1) = true := by simp; omega
      have HX : Hid (x = I) := hx
      have hlt' : (x : Int) < 256 := by omega
      clear hx hm hlt
      go_wp2_with (go_at_call 18; refine (HC.out _).mono ?_; rintro e w' ⟨rfl, rfl⟩)
      go_ret2
      exact ⟨by rw [← HX.out]; rfl, rfl⟩
    · have hx : x < I := by
        have h4 := h3.out
        have h5 : x ≠ I := by
          intro e
          have h6 := Gm.inv_mul a ha h0
          rw [HI.out, ← e, Hm.out] at h6
          exact hm h6
        omega
      have hm' : ((m : Int) == 1) = false := by simp; omega
      have HX : Hid (x < I) := hx
      have HLT : Hid (x < 256) := hlt
      have hlt' : (x : Int) < 256 := by omega
      clear hx hm hlt
      go_wp2_with (go_at_call 18; refine (HC.out _).mono ?_; rintro e w' ⟨rfl, rfl⟩)
      go_round
      case rel => exact ⟨x + 1, by omega, by have := hB.out; have := HLT.out; omega, (by have := HX.out; omega : x + 1 ≤ I), by go_num⟩
      case measure => have := hB.out; simp [intOf]; omega
theorem refdiv_none (a : Nat) (w : World) : Calls Try.prog 13 #[.int .u8 (a : Int), .int .u8 (0 : Int)] w fun e w' => e = .returned (.tuple #[.int .u8 (0 : Int), .bool false]) ∧ w' = w := by
  go_enter Try.func13, Try.ntmps13
  go_wp2_with (go_at_call 11; refine (refinv_none _).mono ?_; rintro e w' ⟨rfl, rfl⟩)
  go_ret2
  exact ⟨rfl, rfl⟩
theorem refdiv_some (a b : Nat) (ha : a < 256) (hb : b < 256) (h0 : b ≠ 0) (w : World) : Calls Try.prog 13 #[.int .u8 (a : Int), .int .u8 (b : Int)] w fun e w' => e = .returned (.tuple #[.int .u8 (Gm.mul a (Gm.inv b) : Nat), .bool true]) ∧ w' = w := by
  have hi := Gm.inv_lt b hb
  go_enter Try.func13, Try.ntmps13
  go_wp2_with (first | (go_at_call 11; refine (refinv_some b hb h0 _).mono ?_; rintro e w' ⟨rfl, rfl⟩) | (go_at_call 18; refine (refmul_any _ _ ha hi _).mono ?_; rintro e w' ⟨rfl, rfl⟩))
  go_ret2
  exact ⟨rfl, rfl⟩
theorem refpow_any (a : Nat) (n : Int) (ha : a < 256) (hn : (Lit.int .i64 n).wf = true) (w : World) :
    Calls Try.prog 20 #[.int .u8 (a : Int), .int .i64 n] w fun e w' => e = .returned (.int .u8 (Gm.powZ a n : Nat)) ∧ w' = w := by
  have hb := bounds_i64 hn
  by_cases h0 : n = 0
  · subst h0
    go_enter Try.func20, Try.ntmps20
    go_wp2
    go_ret
    exact ⟨rfl, rfl⟩
  · by_cases ha0 : a = 0
    · subst ha0
      go_enter Try.func20, Try.ntmps20
      go_wp2
      go_ret
      exact ⟨ret_int (by simp [Gm.powZ, h0]), rfl⟩
    · have ht := tmod255 n
      have ht1 := ht.1
      have ht2 := ht.2.1
      obtain ⟨M, HM⟩ : ∃ M : Nat, Hid ((n % 255).toNat = M) := ⟨_, rfl⟩
      obtain ⟨P, HP⟩ : ∃ P : Nat, Hid (Gm.powZ a n = P) := ⟨_, rfl⟩
      have HPM : Hid (P = Gm.mpow a M) := by
        have := Gm.powZ_pos a n ha ha0
        rw [HP.out, HM.out] at this; exact this
      rw [HP.out]
      have h255 : M < 255 := by have := HM.out; omega
      have HT : Hid (n % 255 = if n.tmod 255 < 0 then n.tmod 255 + 255 else n.tmod 255) := ht.2.2
      clear ht
      have hb1 : (n == 0) = false := by simp; exact h0
      have hb2 : ((a : Int) == 0) = false := by simp; exact ha0
      by_cases hs : n.tmod 255 < 0
      · have hM : n.tmod 255 + 255 = (M : Int) := by have := HT.out; rw [if_pos hs] at this; have := HM.out; omega
        go_enter Try.func20, Try.ntmps20
        go_wp2
        clear hM hs ht1 ht2 hb h0
        go_loop [6, 7] (fun tx ti => ∃ i x : Nat, i ≤ M ∧ x < 256 ∧ Hid (x = Gm.mpow a i) ∧ tx = .int .u8 x ∧ ti = .int .i64 i) (fun _ ti => M - (intOf ti).toNat)
        case atStart => exact ⟨0, 1, by omega, by omega, rfl, rfl, rfl⟩
        case round =>
          obtain ⟨i, x, hi, hx, hX, rfl, rfl⟩ := hrel
          by_cases hlt : i < M
          · go_wp2_with (go_at_call 18; refine (refmul_any x a hx ha _).mono ?_; rintro e w' ⟨rfl, rfl⟩)
            go_round
            case rel => exact ⟨i + 1, Gm.mul x a, by omega, Gm.mul_lt x a hx, (by rw [hX.out]; rfl : Gm.mul x a = Gm.mpow a (i + 1)), rfl, by go_num⟩
            case measure => simp [intOf]; omega
          · have e : i = M := by omega
            go_wp2
            go_ret
            exact ⟨ret_int (by rw [HPM.out, hX.out, e]), rfl⟩
      · have hM : n.tmod 255 = (M : Int) := by have := HT.out; rw [if_neg hs] at this; have := HM.out; omega
        go_enter Try.func20, Try.ntmps20
        go_wp2
        go_loop [6, 7] (fun tx ti => ∃ i x : Nat, i ≤ M ∧ x < 256 ∧ Hid (x = Gm.mpow a i) ∧ tx = .int .u8 x ∧ ti = .int .i64 i) (fun _ ti => M - (intOf ti).toNat)
        case atStart => exact ⟨0, 1, by omega, by omega, rfl, rfl, rfl⟩
        case round =>
          obtain ⟨i, x, hi, hx, hX, rfl, rfl⟩ := hrel
          by_cases hlt : i < M
          · go_wp2_with (go_at_call 18; refine (refmul_any x a hx ha _).mono ?_; rintro e w' ⟨rfl, rfl⟩)
            go_round
            case rel => exact ⟨i + 1, Gm.mul x a, by omega, Gm.mul_lt x a hx, (by rw [hX.out]; rfl : Gm.mul x a = Gm.mpow a (i + 1)), rfl, by go_num⟩
            case measure => simp [intOf]; omega
          · have e : i = M := by omega
            go_wp2
            go_ret
            exact ⟨ret_int (by rw [HPM.out, hX.out, e]), rfl⟩
theorem reflog_any (a : Nat) (ha : a < 256) (w : World) : Calls Try.prog 15 #[.int .u8 (a : Int)] w fun e w' => e = .returned (logV a) ∧ w' = w := by
  obtain ⟨L, HL⟩ : ∃ L, Hid (logV a = L) := ⟨_, rfl⟩
  rw [HL.out]
  obtain ⟨m, Hm⟩ : ∃ m, Hid (Gm.log a = m) := ⟨_, rfl⟩
  obtain ⟨B, hB⟩ : ∃ B : Nat, Hid (B = 255) := ⟨_, rfl⟩
  go_enter Try.func15, Try.ntmps15
  go_wp2
  go_loop [4, 5] (fun tp ti => ∃ k x : Nat, k ≤ B ∧ x < 256 ∧ Hid (Gm.dblN k = x ∧ Gm.logGo a (B - k) k x = m) ∧ tp = .int .u8 x ∧ ti = .int .i64 k) (fun _ ti => B - (intOf ti).toNat)
  case atStart => exact ⟨0, 1, by omega, by omega, ⟨rfl, by rw [hB.out]; exact Hm.out⟩, rfl, rfl⟩
  case round =>
    obtain ⟨k, x, hk, hd, HM, rfl, rfl⟩ := hrel
    have hbb := hB.out
    by_cases hlt : k < 255
    · have HB : Hid (k < B) := (by omega : k < B)
      have hlt' : (k : Int) < 255 := by omega
      clear hbb hk hlt
      by_cases he : x = a
      · subst he
        go_wp2
        go_ret2
        have hb2 := hB.out
        have h3 := HM.out
        rw [hb2] at h3
        have hs : m = k := log_stop (a := x) (by omega) h3.1 (by rw [h3.1]; exact h3.2)
        exact ⟨by rw [← HL.out, logV_t (by omega) (Hm.out.trans hs)]; rfl, rfl⟩
      · have ht : ((x : Int) == (a : Int)) = false := by simp; omega
        have HE : Hid (x ≠ a) := he
        clear he
        go_wp2_with (go_at_call 18; refine (refmul_any x 2 hd (by omega) _).mono ?_; rintro e w' ⟨rfl, rfl⟩)
        go_round
        case rel =>
          have h3 := HM.out
          have hb2 := hB.out
          have hb3 := HB.out
          have h4 := Gm.dbl_lt x hd
          have hne := HE.out
          refine ⟨k + 1, Gm.dbl x, by omega, h4, ⟨by simp only [Gm.dblN]; rw [h3.1], ?_⟩, by rw [Gm.mul_two x hd], by go_num⟩
          rw [hb2] at h3 ⊢
          have := log_step (a := a) (k := k) (r := m) (by omega) (by rw [h3.1]; exact hne) (by rw [h3.1]; exact h3.2)
          simp only [Gm.dblN] at this
          rw [h3.1] at this
          exact this
        case measure => have hb3 := HB.out; simp [intOf]; omega
    · have e : k = 255 := by omega
      have hl : Hid (Gm.log a = 255) := by
        have h3 := HM.out
        rw [hbb, e] at h3
        have h4 := h3.2
        simp [Gm.logGo] at h4
        exact Hm.out.trans h4.symm
      subst e
      clear hbb hk
      go_wp2
      go_ret2
      exact ⟨by rw [← HL.out, logV_f hl.out]; rfl, rfl⟩
end Go.Proofs.Ytgfleebnddjhgaa
