/- What the document's own Inv, Div, Pow and Log do, for all bytes and integers: they return what the plain arithmetic tells. -/
import Derived.Test.YtokkjdgfhpocdaaDoorWc
namespace Go.Proofs.YtokkjdgfhpocdaaDoor
open Go.ChangeShapes Go.WideShapes Go.ChangeAt Go.RowKit
theorem refinv_none (w : World) : Calls Tryd.prog 39 #[.int .u8 (0 : Int)] w fun e w' => e = .returned (.tuple #[.int .u8 (0 : Int), .bool false]) ∧ w' = w := by
  obtain ⟨B, hB⟩ : ∃ B : Nat, Hid (B = 256) := ⟨_, rfl⟩
  go_enter Tryd.func39, Tryd.ntmps39
  go_wp2
  go_loop [4] (fun tx => ∃ x : Nat, 1 ≤ x ∧ x ≤ B ∧ tx = .int .i64 x) (fun tx => B - (intOf tx).toNat)
  case atStart => exact ⟨1, by omega, by have := hB.out; omega, rfl⟩
  case round =>
    obtain ⟨x, h1, h2, rfl⟩ := hrel
    by_cases hlt : x < 256
    · clear h2
      have HC : Hid (∀ w : World, Calls Tryd.prog 29 #[.int .u8 (0 : Int), .int .u8 (x : Int)] w fun e w' => e = .returned (.int .u8 (Gm.mul 0 x : Nat)) ∧ w' = w) := fun w => refmul_any 0 x (by omega) hlt w
      have HLT : Hid (x < 256) := hlt
      have hlt' : (x : Int) < 256 := by omega
      clear hlt
      have hm : (((Gm.mul 0 x : Nat) : Int) == 1) = false := by rw [Gm.zero_mul]; rfl
      go_wp2_with (go_at_call 29; refine (HC.out _).mono ?_; rintro e w' ⟨rfl, rfl⟩)
      go_round
      case rel => exact ⟨x + 1, by omega, by have := hB.out; have := HLT.out; omega, by go_num⟩
      case measure => have := hB.out; simp [intOf]; omega
    · have e : x = 256 := by have := hB.out; omega
      subst e
      clear h2
      go_wp2
      go_ret2
      exact ⟨rfl, rfl⟩
theorem refinv_some (a : Nat) (ha : a < 256) (h0 : a ≠ 0) (w : World) : Calls Tryd.prog 39 #[.int .u8 (a : Int)] w fun e w' => e = .returned (.tuple #[.int .u8 (Gm.inv a : Nat), .bool true]) ∧ w' = w := by
  obtain ⟨I, HI⟩ : ∃ I, Hid (Gm.inv a = I) := ⟨_, rfl⟩
  rw [HI.out]
  obtain ⟨B, hB⟩ : ∃ B : Nat, Hid (B = 256) := ⟨_, rfl⟩
  go_enter Tryd.func39, Tryd.ntmps39
  go_wp2
  go_loop [4] (fun tx => ∃ x : Nat, 1 ≤ x ∧ x ≤ B ∧ Hid (x ≤ I) ∧ tx = .int .i64 x) (fun tx => B - (intOf tx).toNat)
  case atStart =>
    refine ⟨1, by omega, by have := hB.out; omega, ?_, rfl⟩
    have := Gm.inv_ne a ha h0
    rw [HI.out] at this
    exact (by omega : 1 ≤ I)
  case round =>
    obtain ⟨x, h1, h2, h3, rfl⟩ := hrel
    have hI : I < 256 := by have := Gm.inv_lt a ha; rw [HI.out] at this; exact this
    have hlt : x < 256 := by have := h3.out; omega
    clear hI h2
    obtain ⟨m, Hm⟩ : ∃ m, Hid (Gm.mul a x = m) := ⟨_, rfl⟩
    have hcall : ∀ w : World, Calls Tryd.prog 29 #[.int .u8 (a : Int), .int .u8 (x : Int)] w fun e w' => e = .returned (.int .u8 (m : Nat)) ∧ w' = w := fun w => by rw [← Hm.out]; exact refmul_any a x ha hlt w
    have HC : Hid (∀ w : World, Calls Tryd.prog 29 #[.int .u8 (a : Int), .int .u8 (x : Int)] w fun e w' => e = .returned (.int .u8 (m : Nat)) ∧ w' = w) := hcall
    clear hcall
    by_cases hm : m = 1
    · have hx : x = I := by have := (Gm.inv_uniq a x ha hlt (Hm.out.trans hm)).2; rw [this, HI.out]
      have hm' : ((m : Int) == 1) = true := by simp; omega
      have HX : Hid (x = I) := hx
      have hlt' : (x : Int) < 256 := by omega
      clear hx hm hlt
      go_wp2_with (go_at_call 29; refine (HC.out _).mono ?_; rintro e w' ⟨rfl, rfl⟩)
      go_ret2
      exact ⟨by rw [← HX.out]; rfl, rfl⟩
    · have hx : x < I := by
        have h4 := h3.out
        have h5 : x ≠ I := by
          intro e
          have h6 := Gm.inv_mul a ha h0
          rw [HI.out, ← e, Hm.out] at h6
          exact hm h6
        omega
      have hm' : ((m : Int) == 1) = false := by simp; omega
      have HX : Hid (x < I) := hx
      have HLT : Hid (x < 256) := hlt
      have hlt' : (x : Int) < 256 := by omega
      clear hx hm hlt
      go_wp2_with (go_at_call 29; refine (HC.out _).mono ?_; rintro e w' ⟨rfl, rfl⟩)
      go_round
      case rel => exact ⟨x + 1, by omega, by have := hB.out; have := HLT.out; omega, (by have := HX.out; omega : x + 1 ≤ I), by go_num⟩
      case measure => have := hB.out; simp [intOf]; omega
end Go.Proofs.YtokkjdgfhpocdaaDoor
