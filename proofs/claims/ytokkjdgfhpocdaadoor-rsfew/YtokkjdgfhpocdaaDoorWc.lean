/- What the document's own Mul does, for all bytes: it returns the product of the field. -/
import Derived.Test.YtokkjdgfhpocdaaDoorWb
import Derived.Test.YtokkjdgfhpocdaaDoorMathb
namespace Go.Proofs.YtokkjdgfhpocdaaDoor
open Go.ChangeShapes Go.WideShapes Go.ChangeAt Go.RowKit
theorem ofInt_i64 (a : Nat) (ha : a < 4611686018427387904) : (BitVec.ofInt 64 (a : Int)).toNat = a := by
  rw [BitVec.ofInt_natCast, BitVec.toNat_ofNat]; exact Nat.mod_eq_of_lt (by omega)
theorem i64_xor_nat (a b : Nat) (ha : a < 4611686018427387904) (hb : b < 4611686018427387904) : bits .xor .i64 (a : Int) (b : Int) = ((a ^^^ b : Nat) : Int) := by
  have hx : a ^^^ b < 2 ^ 62 := Nat.xor_lt_two_pow (by omega) (by omega)
  show IntKind.i64.wrap ((BitVec.ofInt 64 (a : Int) ^^^ BitVec.ofInt 64 (b : Int)).toNat : Int) = _
  rw [BitVec.toNat_xor, ofInt_i64 a ha, ofInt_i64 b hb, IntKind.wrap_i64]
  omega
theorem i64_and1_nat (a : Nat) (ha : a < 4611686018427387904) : bits .and .i64 (a : Int) 1 = ((a % 2 : Nat) : Int) := by
  have e : ((1 : Nat) : Int) = 1 := rfl
  rw [← e]
  show IntKind.i64.wrap ((BitVec.ofInt 64 (a : Int) &&& BitVec.ofInt 64 ((1 : Nat) : Int)).toNat : Int) = _
  rw [BitVec.toNat_and, ofInt_i64 a ha, ofInt_i64 1 (by omega), IntKind.wrap_i64, Nat.and_one_is_mod]
  omega
theorem u8_and1_nat (a : Nat) (ha : a < 256) : bits .and .u8 (a : Int) 1 = ((a % 2 : Nat) : Int) := by
  have := u8_and_nat a 1 ha (by omega)
  rw [Nat.and_one_is_mod] at this; exact this
theorem divpow (a i : Nat) : (a : Int) / 2 ^ i = ((a / 2 ^ i : Nat) : Int) := by
  rw [Int.natCast_ediv, Int.natCast_pow]; rfl
theorem bit_u8 (a i : Nat) (ha : a < 256) : bits BinOp.and IntKind.u8 ((a : Int) / 2 ^ i) 1 = ((a / 2 ^ i % 2 : Nat) : Int) := by
  rw [divpow, u8_and1_nat _ (Nat.lt_of_le_of_lt (Nat.div_le_self _ _) ha)]
theorem bit_i64 (a i : Nat) (ha : a < 32768) : bits BinOp.and IntKind.i64 ((a : Int) / 2 ^ i) 1 = ((a / 2 ^ i % 2 : Nat) : Int) := by
  rw [divpow, i64_and1_nat _ (Nat.lt_of_le_of_lt (Nat.div_le_self _ _) (by omega))]
theorem wrap_pow (n : Nat) (h : 2 ^ n < 32768) : wrap64 (2 ^ n) = ((2 ^ n : Nat) : Int) := by
  have e : (2 : Int) ^ n = ((2 ^ n : Nat) : Int) := by rw [Int.natCast_pow]; rfl
  rw [e]; unfold wrap64; generalize 2 ^ n = z at h ⊢; omega
theorem wrap_red (n : Nat) (h : 285 * 2 ^ n < 32768) : wrap64 (285 * 2 ^ n) = ((285 * 2 ^ n : Nat) : Int) := by
  have e : (285 : Int) * (2 : Int) ^ n = ((285 * 2 ^ n : Nat) : Int) := by rw [Int.natCast_mul, Int.natCast_pow]; rfl
  rw [e]; unfold wrap64; generalize 285 * 2 ^ n = z at h ⊢; omega
theorem row_step {a b i j q r : Nat} (hj : j < 8) (H : Gm.rowGo a b i (8 - j) j q = r) : Gm.rowGo a b i (8 - (j + 1)) (j + 1) (q ^^^ (a / 2 ^ i % 2) * (b / 2 ^ j % 2) * 2 ^ (i + j)) = r := by
  have e : 8 - j = 8 - (j + 1) + 1 := by omega
  rw [e] at H; simpa [Gm.rowGo] using H
theorem out_step {a b i p r : Nat} (hi : i < 8) (H : Gm.outGo a b (8 - i) i p = r) : Gm.outGo a b (8 - (i + 1)) (i + 1) (Gm.rowGo a b i 8 0 p) = r := by
  have e : 8 - i = 8 - (i + 1) + 1 := by omega
  rw [e] at H; simpa [Gm.outGo] using H
theorem red_step {f p r : Nat} (H : Gm.redGo (f + 1) p = r) : Gm.redGo f (p ^^^ (p / 2 ^ (f + 8) % 2) * (285 * 2 ^ f)) = r := by
  simpa [Gm.redGo] using H
set_option maxHeartbeats 1000000 in
theorem refmul_any (a b : Nat) (ha : a < 256) (hb : b < 256) (w : World) :
    Calls Tryd.prog 29 #[.int .u8 (a : Int), .int .u8 (b : Int)] w fun e w' => e = .returned (.int .u8 (Gm.mul a b : Nat)) ∧ w' = w := by
  obtain ⟨R, HR⟩ : ∃ R, Hid (Gm.outGo a b 8 0 0 = R) := ⟨_, rfl⟩
  go_enter Tryd.func29, Tryd.ntmps29
  go_wp2
  go_loop [5, 6, 7] (fun tp ti tj => ∃ i p : Nat, ∃ j : Value, i ≤ 8 ∧ p < 32768 ∧ Hid (Gm.outGo a b (8 - i) i p = R) ∧ tp = .int .i64 p ∧ ti = .int .i64 i ∧ tj = j) (fun _ ti _ => 8 - (intOf ti).toNat)
  case atStart => exact ⟨0, 0, _, by omega, by omega, HR.out, rfl, rfl, rfl⟩
  case round =>
    obtain ⟨i, p, j, hi, hp, HP, rfl, rfl, rfl⟩ := hrel
    by_cases hlt : i < 8
    · obtain ⟨S, HS⟩ : ∃ S, Hid (Gm.rowGo a b i 8 0 p = S) := ⟨_, rfl⟩
      go_wp2
      go_loop [5, 7] (fun tp tj => ∃ j q : Nat, j ≤ 8 ∧ q < 32768 ∧ Hid (Gm.rowGo a b i (8 - j) j q = S) ∧ tp = .int .i64 q ∧ tj = .int .i64 j) (fun _ tj => 8 - (intOf tj).toNat)
      case atStart => exact ⟨0, p, by omega, by omega, HS.out, rfl, rfl⟩
      case round =>
        obtain ⟨j, q, hj, hq, HQ, rfl, rfl⟩ := hrel
        by_cases hlt2 : j < 8
        · have HB : Hid (bits BinOp.and IntKind.u8 ((a : Int) / 2 ^ i) 1 = ((a / 2 ^ i % 2 : Nat) : Int) ∧ bits BinOp.and IntKind.u8 ((b : Int) / 2 ^ j) 1 = ((b / 2 ^ j % 2 : Nat) : Int)) := ⟨bit_u8 a i ha, bit_u8 b j hb⟩
          go_wp2
          all_goals go_round
          case rel =>
            have h1 : bits BinOp.and IntKind.u8 ((a : Int) / 2 ^ i) 1 = 1 := by assumption
            have h2 : (bits BinOp.and IntKind.u8 ((b : Int) / 2 ^ j) 1 == 1) = true := by assumption
            have hB := HB.out
            rw [hB.1] at h1; rw [hB.2] at h2
            have e1 : a / 2 ^ i % 2 = 1 := by omega
            have e2 : b / 2 ^ j % 2 = 1 := by have := eq_of_beq h2; omega
            have hpw := Gm.pow_lt15 i j hlt hlt2
            have hs := row_step hlt2 HQ.out
            rw [e1, e2, Nat.one_mul] at hs
            exact ⟨j + 1, q ^^^ 2 ^ (i + j), by omega, Gm.xor_lt15 _ _ hq hpw, hs, by rw [wrap_pow _ hpw, i64_xor_nat _ _ (by omega) (by omega)], by go_num⟩
          case measure => simp [intOf]; omega
          case rel =>
            have h2 : (bits BinOp.and IntKind.u8 ((b : Int) / 2 ^ j) 1 == 1) = false := by assumption
            have hB := HB.out
            rw [hB.2] at h2
            have e2 : b / 2 ^ j % 2 = 0 := by have := ne_of_beq_false h2; omega
            have hs := row_step hlt2 HQ.out
            rw [e2, Nat.mul_zero, Nat.zero_mul, Nat.xor_zero] at hs
            exact ⟨j + 1, q, by omega, hq, hs, rfl, by go_num⟩
          case measure => simp [intOf]; omega
          case rel =>
            have h1 : ¬ bits BinOp.and IntKind.u8 ((a : Int) / 2 ^ i) 1 = 1 := by assumption
            have hB := HB.out
            rw [hB.1] at h1
            have e1 : a / 2 ^ i % 2 = 0 := by omega
            have hs := row_step hlt2 HQ.out
            rw [e1, Nat.zero_mul, Nat.zero_mul, Nat.xor_zero] at hs
            exact ⟨j + 1, q, by omega, hq, hs, rfl, by go_num⟩
          case measure => simp [intOf]; omega
        · have e8 : j = 8 := by omega
          subst e8
          go_wp2
          go_round
          case rel =>
            have hq2 : q = S := by have := HQ.out; simpa [Gm.rowGo] using this
            have ho := out_step hlt HP.out
            rw [HS.out, ← hq2] at ho
            exact ⟨i + 1, q, _, by omega, hq, ho, rfl, by go_num, rfl⟩
          case measure => simp [intOf]; omega
    · have e8 : i = 8 := by omega
      subst e8
      have HPR : Hid (Gm.redGo 7 p % 256 = Gm.mul a b) := by
        have h1 := HP.out
        simp [Gm.outGo] at h1
        have h2 := Gm.refMul_eq a b ha hb
        unfold Gm.refMul at h2
        rw [HR.out, ← h1] at h2
        exact h2
      clear HP HR
      obtain ⟨T, HT⟩ : ∃ T, Hid (Gm.mul a b = T) := ⟨_, rfl⟩
      obtain ⟨T2, HT2⟩ : ∃ T, Hid (Gm.redGo 7 p = T) := ⟨_, rfl⟩
      go_wp2
      go_loop [5, 8] (fun tp ti => ∃ f q : Nat, f ≤ 7 ∧ q < 32768 ∧ Hid (Gm.redGo f q = T2) ∧ tp = .int .i64 q ∧ ti = .int .i64 ((f : Int) + 7)) (fun _ ti => (intOf ti).toNat)
      case atStart => exact ⟨7, p, by omega, hp, HT2.out, rfl, rfl⟩
      case round =>
        obtain ⟨f, q, hf, hq, HQ, rfl, rfl⟩ := hrel
        by_cases hlt : 0 < f
        · obtain ⟨g, rfl⟩ : ∃ g, f = g + 1 := ⟨f - 1, by omega⟩
          have HB : Hid (bits BinOp.and IntKind.i64 ((q : Int) / 2 ^ (g + 1 + 7)) 1 = ((q / 2 ^ (g + 8) % 2 : Nat) : Int)) := bit_i64 q (g + 8) hq
          go_wp2
          all_goals go_round
          case rel =>
            have h1 : (bits BinOp.and IntKind.i64 ((q : Int) / 2 ^ (g + 1 + 7)) 1 == 1) = true := by assumption
            rw [HB.out] at h1
            have e1 : q / 2 ^ (g + 8) % 2 = 1 := by have := eq_of_beq h1; omega
            have hs := red_step HQ.out
            have hr := Gm.red_lt g (by omega)
            rw [e1, Nat.one_mul] at hs
            exact ⟨g, q ^^^ 285 * 2 ^ g, by omega, Gm.xor_lt15 _ _ hq hr, hs, by rw [wrap_red _ hr, i64_xor_nat _ _ (by omega) (by omega)], by go_num⟩
          case measure => simp [intOf]; omega
          case rel =>
            have h1 : (bits BinOp.and IntKind.i64 ((q : Int) / 2 ^ (g + 1 + 7)) 1 == 1) = false := by assumption
            rw [HB.out] at h1
            have e1 : q / 2 ^ (g + 8) % 2 = 0 := by have := ne_of_beq_false h1; omega
            have hs := red_step HQ.out
            rw [e1, Nat.zero_mul, Nat.xor_zero] at hs
            exact ⟨g, q, by omega, hq, hs, rfl, by go_num⟩
          case measure => simp [intOf]; omega
        · have e0 : f = 0 := by omega
          subst e0
          go_wp2
          go_ret
          have h1 := HQ.out
          simp [Gm.redGo] at h1
          exact ⟨ret_int (by rw [← HPR.out, HT2.out, ← h1]; rfl), rfl⟩
end Go.Proofs.YtokkjdgfhpocdaaDoor
