/- What the function alive of the laws does: it returns true and lays new memory alone. -/
import Derived.Test.YtgfleebnddjhgaaWe
import Derived.WalkSmall
namespace Go.Proofs.Ytgfleebnddjhgaa
open Go.ChangeShapes Go.WideShapes Go.ChangeAt Go.RowKit
theorem grown_drewN {w w' : World} (h : Grown w w') (n : Nat) : Grown w (w'.drewN n) := h
theorem inv_2 (w : World) : Calls Try.prog 10 #[.int .u8 (2 : Int)] w fun e w' => e = .returned (.tuple #[.int .u8 (142 : Int), .bool true]) ∧ w' = w := by
  have h := inv_some 2 (by omega) (by omega) w
  rw [show Gm.inv 2 = 142 from by decide +kernel] at h; exact h
theorem mul_2_128 (w : World) : Calls Try.prog 17 #[.int .u8 (2 : Int), .int .u8 (128 : Int)] w fun e w' => e = .returned (.int .u8 (29 : Int)) ∧ w' = w := by
  have h := mul_any 2 128 (by omega) (by omega) w
  rw [show Gm.mul 2 128 = 29 from by decide +kernel] at h; exact h
theorem mul_3_7 (w : World) : Calls Try.prog 17 #[.int .u8 (3 : Int), .int .u8 (7 : Int)] w fun e w' => e = .returned (.int .u8 (9 : Int)) ∧ w' = w := by
  have h := mul_any 3 7 (by omega) (by omega) w
  rw [show Gm.mul 3 7 = 9 from by decide +kernel] at h; exact h
theorem mul_al (x y : Int) (w : World) (h : x = 2 ∧ y = 128 ∨ x = 3 ∧ y = 7) : Calls Try.prog 17 #[.int .u8 x, .int .u8 y] w fun e w' => e = .returned (.int .u8 (if x = 2 then 29 else 9)) ∧ w' = w := by
  rcases h with ⟨rfl, rfl⟩ | ⟨rfl, rfl⟩
  · exact mul_2_128 w
  · exact mul_3_7 w
theorem dot_alive (b1 b2 : Nat) (w : World) (h1 : w.cell? ⟨b1, 0, none⟩ = some (.int .u8 1)) (h2 : w.cell? ⟨b1, 1, none⟩ = some (.int .u8 2)) (h3 : w.cell? ⟨b2, 0, none⟩ = some (.int .u8 3)) (h4 : w.cell? ⟨b2, 1, none⟩ = some (.int .u8 4)) (h5 : w.cell? ⟨b2, 2, none⟩ = some (.int .u8 5)) :
    Calls Try.prog 25 #[.slice (some ⟨b1, 0, none⟩) 2 2, .slice (some ⟨b2, 0, none⟩) 3 3] w fun e w' => e = .returned (.int .u8 (11 : Int)) ∧ ∃ n, w' = w.drewN n := by
  have h := dot_some b1 0 b2 0 2 3 [1, 2] [3, 4, 5] w (by simp) (by simp) (by unfold maxLen; simp) (by unfold maxLen; simp) (fun i hi => by
      match i, hi with
      | 0, _ => exact h1
      | 1, _ => exact h2) (fun i hi => by
      match i, hi with
      | 0, _ => exact h3
      | 1, _ => exact h4
      | 2, _ => exact h5)
  rw [show dot [1, 2] [3, 4, 5] = 11 from by decide +kernel] at h; exact h
set_option maxHeartbeats 400000 in
theorem alive_any (w : World) : Calls Try.prog 9 #[] w fun e w' => e = .returned (.bool true) ∧ Grown w w' ∧ Below w.heap.size w w' := by
  go_enter Try.func9, Try.ntmps9
  go_wp2_with (first | (go_at_call 10; refine (inv_2 _).mono ?_; rintro e w' ⟨rfl, rfl⟩) | (go_at_call 17; refine (mul_al _ _ _ (by decide)).mono ?_; rintro e w' ⟨rfl, rfl⟩) | (go_at_call 25; refine (dot_alive _ _ _ (by simp) (by simp) (by simp) (by simp) (by simp)).mono ?_; rintro e w' ⟨rfl, n, rfl⟩))
  go_ret
  exact ⟨rfl, grown_drewN (((Grown.refl _).alloc _ _).alloc _ _) _, below_drewN ((((Below.refl _ _).alloc (Nat.le_refl _) _).alloc (by simp) _)) _⟩
end Go.Proofs.Ytgfleebnddjhgaa
