/- Predicates of a byte; digits of base 16. -/
import Derived.Test.YtalagagnolhppaaDoorUa
namespace Go.Proofs.YtalagagnolhppaaDoor
open Go.ChangeShapes Go.WideShapes Go.ChangeAt Go.RowKit
set_option maxRecDepth 20000
set_option linter.unusedVariables false
set_option linter.unusedSimpArgs false

theorem isDigit_n (c : Nat) (hc : c < 256) (w : World) : Calls Tryd.prog 46 #[.int .u8 (c : Int)] w fun e w' => e = .returned (.bool (dgB c)) ∧ w' = w := by
  by_cases g48 : (48 : Int) ≤ (c : Int)
  · by_cases g57 : (c : Int) ≤ 57
    · have EV : Hid (dgB c = true) := decide_eq_true (by omega)
      rw [EV.out]
      go_enter Tryd.func46, Tryd.ntmps46
      go_wp2
      go_ret
      exact ⟨rfl, rfl⟩
    · have EV : Hid (dgB c = false) := decide_eq_false (by omega)
      rw [EV.out]
      go_enter Tryd.func46, Tryd.ntmps46
      go_wp2
      go_ret
      exact ⟨rfl, rfl⟩
  · have EV : Hid (dgB c = false) := decide_eq_false (by omega)
    rw [EV.out]
    go_enter Tryd.func46, Tryd.ntmps46
    go_wp2
    go_ret
    exact ⟨rfl, rfl⟩
theorem isLetter_n (c : Nat) (hc : c < 256) (w : World) : Calls Tryd.prog 45 #[.int .u8 (c : Int)] w fun e w' => e = .returned (.bool (smB c || grB c)) ∧ w' = w := by
  by_cases g97 : (97 : Int) ≤ (c : Int)
  · by_cases g122 : (c : Int) ≤ 122
    · have EV : Hid ((smB c || grB c) = true) := (by unfold smB; rw [decide_eq_true (by omega)]; rfl : (smB c || grB c) = true)
      rw [EV.out]
      go_enter Tryd.func45, Tryd.ntmps45
      go_wp2
      go_ret
      exact ⟨rfl, rfl⟩
    · have g65 : (65 : Int) ≤ (c : Int) := by omega
      have g90 : ¬ ((c : Int) ≤ 90) := by omega
      have EV : Hid ((smB c || grB c) = false) := (by unfold smB grB; rw [decide_eq_false (by omega), decide_eq_false (by omega)]; rfl : (smB c || grB c) = false)
      rw [EV.out]
      go_enter Tryd.func45, Tryd.ntmps45
      go_wp2
      go_ret
      exact ⟨rfl, rfl⟩
  · by_cases g65 : (65 : Int) ≤ (c : Int)
    · by_cases g90 : (c : Int) ≤ 90
      · have EV : Hid ((smB c || grB c) = true) := (by unfold grB; rw [decide_eq_true (p := 65 ≤ c ∧ c ≤ 90) (by omega), Bool.or_true] : (smB c || grB c) = true)
        rw [EV.out]
        go_enter Tryd.func45, Tryd.ntmps45
        go_wp2
        go_ret
        exact ⟨rfl, rfl⟩
      · have EV : Hid ((smB c || grB c) = false) := (by unfold smB grB; rw [decide_eq_false (by omega), decide_eq_false (by omega)]; rfl : (smB c || grB c) = false)
        rw [EV.out]
        go_enter Tryd.func45, Tryd.ntmps45
        go_wp2
        go_ret
        exact ⟨rfl, rfl⟩
    · have EV : Hid ((smB c || grB c) = false) := (by unfold smB grB; rw [decide_eq_false (by omega), decide_eq_false (by omega)]; rfl : (smB c || grB c) = false)
      rw [EV.out]
      go_enter Tryd.func45, Tryd.ntmps45
      go_wp2
      go_ret
      exact ⟨rfl, rfl⟩
set_option maxHeartbeats 2000000 in
theorem isPlain_n (c : Nat) (hc : c < 256) (w : World) : Calls Tryd.prog 31 #[.int .u8 (c : Int)] w fun e w' => e = .returned (.bool (plB c)) ∧ w' = w := by
  obtain ⟨b1, E1⟩ : ∃ q, Hid ((smB c || grB c) = q) := ⟨_, rfl⟩
  obtain ⟨b2, E2⟩ : ∃ q, Hid (dgB c = q) := ⟨_, rfl⟩
  have EP : Hid (plB c = (b1 || (b2 || decide (c = 45 ∨ c = 95 ∨ c = 46 ∨ c = 126)))) := (by unfold plB; rw [← E1.out, ← E2.out, Bool.or_assoc] : plB c = (b1 || (b2 || decide (c = 45 ∨ c = 95 ∨ c = 46 ∨ c = 126))))
  cases b1 with
  | true =>
    have EV : Hid (plB c = true) := (by rw [EP.out]; rfl : plB c = true)
    rw [EV.out]
    go_enter Tryd.func31, Tryd.ntmps31
    go_wp2_with (first
      | (go_at_call 45; refine (isLetter_n c hc _).mono ?_; rintro e w1 ⟨rfl, h1⟩; rw [h1, E1.out]; clear h1)
      | (go_at_call 46; refine (isDigit_n c hc _).mono ?_; rintro e w1 ⟨rfl, h1⟩; rw [h1, E2.out]; clear h1))
    go_ret
    exact ⟨rfl, rfl⟩
  | false =>
    cases b2 with
    | true =>
      have EV : Hid (plB c = true) := (by rw [EP.out]; rfl : plB c = true)
      rw [EV.out]
      go_enter Tryd.func31, Tryd.ntmps31
      go_wp2_with (first
        | (go_at_call 45; refine (isLetter_n c hc _).mono ?_; rintro e w1 ⟨rfl, h1⟩; rw [h1, E1.out]; clear h1)
        | (go_at_call 46; refine (isDigit_n c hc _).mono ?_; rintro e w1 ⟨rfl, h1⟩; rw [h1, E2.out]; clear h1))
      go_ret
      exact ⟨rfl, rfl⟩
    | false =>
      by_cases k45 : c = 45
      · have EV : Hid (plB c = true) := (by rw [EP.out]; rw [decide_eq_true (by omega)]; rfl : plB c = true)
        rw [EV.out]
        have f45 : ((c : Int) == 45) = true := beq_iff_eq.2 (by omega)
        clear k45
        go_enter Tryd.func31, Tryd.ntmps31
        go_wp2_with (first
          | (go_at_call 45; refine (isLetter_n c hc _).mono ?_; rintro e w1 ⟨rfl, h1⟩; rw [h1, E1.out]; clear h1)
          | (go_at_call 46; refine (isDigit_n c hc _).mono ?_; rintro e w1 ⟨rfl, h1⟩; rw [h1, E2.out]; clear h1))
        go_ret
        exact ⟨rfl, rfl⟩
      · by_cases k95 : c = 95
        · have EV : Hid (plB c = true) := (by rw [EP.out]; rw [decide_eq_true (by omega)]; rfl : plB c = true)
          rw [EV.out]
          have f45 : ((c : Int) == 45) = false := beq_eq_false_iff_ne.2 (by omega)
          have f95 : ((c : Int) == 95) = true := beq_iff_eq.2 (by omega)
          clear k45 k95
          go_enter Tryd.func31, Tryd.ntmps31
          go_wp2_with (first
            | (go_at_call 45; refine (isLetter_n c hc _).mono ?_; rintro e w1 ⟨rfl, h1⟩; rw [h1, E1.out]; clear h1)
            | (go_at_call 46; refine (isDigit_n c hc _).mono ?_; rintro e w1 ⟨rfl, h1⟩; rw [h1, E2.out]; clear h1))
          go_ret
          exact ⟨rfl, rfl⟩
        · by_cases k46 : c = 46
          · have EV : Hid (plB c = true) := (by rw [EP.out]; rw [decide_eq_true (by omega)]; rfl : plB c = true)
            rw [EV.out]
            have f45 : ((c : Int) == 45) = false := beq_eq_false_iff_ne.2 (by omega)
            have f95 : ((c : Int) == 95) = false := beq_eq_false_iff_ne.2 (by omega)
            have f46 : ((c : Int) == 46) = true := beq_iff_eq.2 (by omega)
            clear k45 k95 k46
            go_enter Tryd.func31, Tryd.ntmps31
            go_wp2_with (first
              | (go_at_call 45; refine (isLetter_n c hc _).mono ?_; rintro e w1 ⟨rfl, h1⟩; rw [h1, E1.out]; clear h1)
              | (go_at_call 46; refine (isDigit_n c hc _).mono ?_; rintro e w1 ⟨rfl, h1⟩; rw [h1, E2.out]; clear h1))
            go_ret
            exact ⟨rfl, rfl⟩
          · by_cases k126 : c = 126
            · have EV : Hid (plB c = true) := (by rw [EP.out]; rw [decide_eq_true (by omega)]; rfl : plB c = true)
              rw [EV.out]
              have f45 : ((c : Int) == 45) = false := beq_eq_false_iff_ne.2 (by omega)
              have f95 : ((c : Int) == 95) = false := beq_eq_false_iff_ne.2 (by omega)
              have f46 : ((c : Int) == 46) = false := beq_eq_false_iff_ne.2 (by omega)
              have f126 : ((c : Int) == 126) = true := beq_iff_eq.2 (by omega)
              clear k45 k95 k46 k126
              go_enter Tryd.func31, Tryd.ntmps31
              go_wp2_with (first
                | (go_at_call 45; refine (isLetter_n c hc _).mono ?_; rintro e w1 ⟨rfl, h1⟩; rw [h1, E1.out]; clear h1)
                | (go_at_call 46; refine (isDigit_n c hc _).mono ?_; rintro e w1 ⟨rfl, h1⟩; rw [h1, E2.out]; clear h1))
              go_ret
              exact ⟨rfl, rfl⟩
            · have EV : Hid (plB c = false) := (by rw [EP.out]; rw [decide_eq_false (by omega)]; rfl : plB c = false)
              rw [EV.out]
              have f45 : ((c : Int) == 45) = false := beq_eq_false_iff_ne.2 (by omega)
              have f95 : ((c : Int) == 95) = false := beq_eq_false_iff_ne.2 (by omega)
              have f46 : ((c : Int) == 46) = false := beq_eq_false_iff_ne.2 (by omega)
              have f126 : ((c : Int) == 126) = false := beq_eq_false_iff_ne.2 (by omega)
              clear k45 k95 k46 k126
              go_enter Tryd.func31, Tryd.ntmps31
              go_wp2_with (first
                | (go_at_call 45; refine (isLetter_n c hc _).mono ?_; rintro e w1 ⟨rfl, h1⟩; rw [h1, E1.out]; clear h1)
                | (go_at_call 46; refine (isDigit_n c hc _).mono ?_; rintro e w1 ⟨rfl, h1⟩; rw [h1, E2.out]; clear h1))
              go_ret
              exact ⟨rfl, rfl⟩
def DigEnd : Option Nat → Ending → Prop
  | none, e => e = .returned (.tuple #[.int .u8 0, .bool false])
  | some v, e => e = .returned (.tuple #[.int .u8 (v : Int), .bool true])
def valI : Option Nat → Int
  | none => -1
  | some v => (v : Int)
theorem digit_n (c : Nat) (hc : c < 256) (w : World) : Calls Tryd.prog 48 #[.int .u8 (c : Int)] w fun e w' => DigEnd (hx c) e ∧ w' = w := by
  by_cases g48 : 48 ≤ c ∧ c ≤ 57
  · have q1 : (48 : Int) ≤ (c : Int) := by omega
    have q2 : (c : Int) ≤ 57 := by omega
    have EV : Hid (hx c = some (c - 48)) := (by unfold hx; rw [if_pos (by omega)] : hx c = some (c - 48))
    have ED : Hid (dgB c = true) := decide_eq_true (by omega)
    rw [EV.out]
    go_enter Tryd.func48, Tryd.ntmps48
    go_wp2_with (go_at_call 46; refine (isDigit_n c hc _).mono ?_; rintro e w1 ⟨rfl, h1⟩; rw [h1, ED.out]; clear h1)
    go_ret2
    exact ⟨congrArg (fun z : Int => Ending.returned (.tuple #[.int .u8 z, .bool true])) (by omega), rfl⟩
  · by_cases g97 : (97 : Int) ≤ (c : Int)
    · by_cases g102 : (c : Int) ≤ 102
      · have EV : Hid (hx c = some (c - 87)) := (by unfold hx; rw [if_neg (by omega), if_pos (by omega)] : hx c = some (c - 87))
        have ED : Hid (dgB c = false) := decide_eq_false (by omega)
        rw [EV.out]
        go_enter Tryd.func48, Tryd.ntmps48
        go_wp2_with (go_at_call 46; refine (isDigit_n c hc _).mono ?_; rintro e w1 ⟨rfl, h1⟩; rw [h1, ED.out]; clear h1)
        go_ret2
        exact ⟨congrArg (fun z : Int => Ending.returned (.tuple #[.int .u8 z, .bool true])) (by omega), rfl⟩
      · have g65 : (65 : Int) ≤ (c : Int) := by omega
        have g70 : ¬ ((c : Int) ≤ 70) := by omega
        have EV : Hid (hx c = none) := (by unfold hx; rw [if_neg (by omega), if_neg (by omega), if_neg (by omega)] : hx c = none)
        have ED : Hid (dgB c = false) := decide_eq_false (by omega)
        rw [EV.out]
        go_enter Tryd.func48, Tryd.ntmps48
        go_wp2_with (go_at_call 46; refine (isDigit_n c hc _).mono ?_; rintro e w1 ⟨rfl, h1⟩; rw [h1, ED.out]; clear h1)
        go_ret2
        exact ⟨rfl, rfl⟩
    · by_cases g65 : (65 : Int) ≤ (c : Int)
      · by_cases g70 : (c : Int) ≤ 70
        · have EV : Hid (hx c = some (c - 55)) := (by unfold hx; rw [if_neg (by omega), if_neg (by omega), if_pos (by omega)] : hx c = some (c - 55))
          have ED : Hid (dgB c = false) := decide_eq_false (by omega)
          rw [EV.out]
          go_enter Tryd.func48, Tryd.ntmps48
          go_wp2_with (go_at_call 46; refine (isDigit_n c hc _).mono ?_; rintro e w1 ⟨rfl, h1⟩; rw [h1, ED.out]; clear h1)
          go_ret2
          exact ⟨congrArg (fun z : Int => Ending.returned (.tuple #[.int .u8 z, .bool true])) (by omega), rfl⟩
        · have EV : Hid (hx c = none) := (by unfold hx; rw [if_neg (by omega), if_neg (by omega), if_neg (by omega)] : hx c = none)
          have ED : Hid (dgB c = false) := decide_eq_false (by omega)
          rw [EV.out]
          go_enter Tryd.func48, Tryd.ntmps48
          go_wp2_with (go_at_call 46; refine (isDigit_n c hc _).mono ?_; rintro e w1 ⟨rfl, h1⟩; rw [h1, ED.out]; clear h1)
          go_ret2
          exact ⟨rfl, rfl⟩
      · have EV : Hid (hx c = none) := (by unfold hx; rw [if_neg (by omega), if_neg (by omega), if_neg (by omega)] : hx c = none)
        have ED : Hid (dgB c = false) := decide_eq_false (by omega)
        rw [EV.out]
        go_enter Tryd.func48, Tryd.ntmps48
        go_wp2_with (go_at_call 46; refine (isDigit_n c hc _).mono ?_; rintro e w1 ⟨rfl, h1⟩; rw [h1, ED.out]; clear h1)
        go_ret2
        exact ⟨rfl, rfl⟩
theorem value_n (c : Nat) (hc : c < 256) (w : World) : Calls Tryd.prog 32 #[.int .u8 (c : Int)] w fun e w' => e = .returned (.int .i64 (valI (hx c))) ∧ w' = w := by
  by_cases g48 : (48 : Int) ≤ (c : Int)
  · by_cases g57 : (c : Int) ≤ 57
    · have EV : Hid (hx c = some (c - 48)) := (by unfold hx; rw [if_pos (by omega)] : hx c = some (c - 48))
      rw [EV.out]
      go_enter Tryd.func32, Tryd.ntmps32
      go_wp2
      go_ret
      exact ⟨congrArg (fun z : Int => Ending.returned (.int .i64 z)) (by omega : (c : Int) - 48 = ((c - 48 : Nat) : Int)), rfl⟩
    · by_cases g97 : (97 : Int) ≤ (c : Int)
      · by_cases g102 : (c : Int) ≤ 102
        · have EV : Hid (hx c = some (c - 87)) := (by unfold hx; rw [if_neg (by omega), if_pos (by omega)] : hx c = some (c - 87))
          rw [EV.out]
          go_enter Tryd.func32, Tryd.ntmps32
          go_wp2
          go_ret
          exact ⟨congrArg (fun z : Int => Ending.returned (.int .i64 z)) (by omega : (c : Int) - 97 + 10 = ((c - 87 : Nat) : Int)), rfl⟩
        · have g65 : (65 : Int) ≤ (c : Int) := by omega
          have g70 : ¬ ((c : Int) ≤ 70) := by omega
          have EV : Hid (hx c = none) := (by unfold hx; rw [if_neg (by omega), if_neg (by omega), if_neg (by omega)] : hx c = none)
          rw [EV.out]
          go_enter Tryd.func32, Tryd.ntmps32
          go_wp2
          go_ret
          exact ⟨rfl, rfl⟩
      · by_cases g65 : (65 : Int) ≤ (c : Int)
        · by_cases g70 : (c : Int) ≤ 70
          · have EV : Hid (hx c = some (c - 55)) := (by unfold hx; rw [if_neg (by omega), if_neg (by omega), if_pos (by omega)] : hx c = some (c - 55))
            rw [EV.out]
            go_enter Tryd.func32, Tryd.ntmps32
            go_wp2
            go_ret
            exact ⟨congrArg (fun z : Int => Ending.returned (.int .i64 z)) (by omega : (c : Int) - 65 + 10 = ((c - 55 : Nat) : Int)), rfl⟩
          · have EV : Hid (hx c = none) := (by unfold hx; rw [if_neg (by omega), if_neg (by omega), if_neg (by omega)] : hx c = none)
            rw [EV.out]
            go_enter Tryd.func32, Tryd.ntmps32
            go_wp2
            go_ret
            exact ⟨rfl, rfl⟩
        · have EV : Hid (hx c = none) := (by unfold hx; rw [if_neg (by omega), if_neg (by omega), if_neg (by omega)] : hx c = none)
          rw [EV.out]
          go_enter Tryd.func32, Tryd.ntmps32
          go_wp2
          go_ret
          exact ⟨rfl, rfl⟩
  · have g97 : ¬ ((97 : Int) ≤ (c : Int)) := by omega
    have g65 : ¬ ((65 : Int) ≤ (c : Int)) := by omega
    have EV : Hid (hx c = none) := (by unfold hx; rw [if_neg (by omega), if_neg (by omega), if_neg (by omega)] : hx c = none)
    rw [EV.out]
    go_enter Tryd.func32, Tryd.ntmps32
    go_wp2
    go_ret
    exact ⟨rfl, rfl⟩
theorem bl_two {t : ByteArray} (h : 2 ≤ t.size) : ∃ r, bl t = sb t 0 :: sb t 1 :: r := by
  have h0 := bl_cons (s := t) (i := 0) (by omega)
  have h1 := bl_cons (s := t) (i := 1) (by omega)
  rw [List.drop_zero] at h0
  exact ⟨_, by rw [h0, h1]⟩
theorem bl_short {t : ByteArray} (h : ¬ 2 ≤ t.size) : wr2 (bl t) = none := by
  have e := bl_len t
  match hb : bl t with
  | [] => rfl
  | [a] => rfl
  | a :: b :: r => rw [hb] at e; simp at e; omega
set_option maxHeartbeats 2000000 in
theorem written_n (t : ByteArray) (w : World) : Calls Tryd.prog 35 #[.string t] w fun e w' => DigEnd (wr2 (bl t)) e ∧ w' = w := by
  by_cases h2 : 2 ≤ t.size
  · have i2 : ¬ ((t.size : Int) < 2) := by omega
    obtain ⟨r, hr⟩ := bl_two h2
    have X0 := fun W => sb_ix t 0 0 rfl (by omega) W
    have X1 := fun W => sb_ix t 1 1 rfl (by omega) W
    have a8 := sb_lt t 0
    have b8 := sb_lt t 1
    obtain ⟨a, Ha⟩ : ∃ q, Hid (sb t 0 = q) := ⟨_, rfl⟩
    obtain ⟨b, Hb⟩ : ∃ q, Hid (sb t 1 = q) := ⟨_, rfl⟩
    rw [Ha.out] at X0 a8 hr
    rw [Hb.out] at X1 b8 hr
    have D0 := digit_n a a8
    have D1 := digit_n b b8
    have D0 : Hid (∀ w, Calls Tryd.prog 48 #[.int .u8 (a : Int)] w fun e w' => DigEnd (hx a) e ∧ w' = w) := D0
    have D1 : Hid (∀ w, Calls Tryd.prog 48 #[.int .u8 (b : Int)] w fun e w' => DigEnd (hx b) e ∧ w' = w) := D1
    rw [hr, wr2]
    clear hr
    cases ha : hx a with
    | none =>
      rw [ha] at D0
      cases hb : hx b with
      | none =>
        rw [hb] at D1
        clear hb ha
        go_enter Tryd.func35, Tryd.ntmps35
        go_upto_region 4 with (go_at_call 48; refine (D0.out _).mono ?_; rintro e w1 ⟨h1, h2⟩; rw [h2]; clear h2; obtain rfl := (show e = .returned (.tuple #[.int .u8 0, .bool false]) from h1); clear h1)
        go_wp2_with (go_at_call 48; refine (D1.out _).mono ?_; rintro e w1 ⟨h1, h2⟩; rw [h2]; clear h2; obtain rfl := (show e = .returned (.tuple #[.int .u8 0, .bool false]) from h1); clear h1)
        go_ret2
        exact ⟨rfl, rfl⟩
      | some y =>
        have y16 := hx_lt hb
        rw [hb] at D1
        clear hb ha
        go_enter Tryd.func35, Tryd.ntmps35
        go_upto_region 4 with (go_at_call 48; refine (D0.out _).mono ?_; rintro e w1 ⟨h1, h2⟩; rw [h2]; clear h2; obtain rfl := (show e = .returned (.tuple #[.int .u8 0, .bool false]) from h1); clear h1)
        go_wp2_with (go_at_call 48; refine (D1.out _).mono ?_; rintro e w1 ⟨h1, h2⟩; rw [h2]; clear h2; obtain rfl := (show e = .returned (.tuple #[.int .u8 (y : Int), .bool true]) from h1); clear h1)
        go_ret2
        exact ⟨rfl, rfl⟩
    | some x =>
      rw [ha] at D0
      cases hb : hx b with
      | none =>
        have x16 := hx_lt ha
        rw [hb] at D1
        clear hb ha
        go_enter Tryd.func35, Tryd.ntmps35
        go_upto_region 4 with (go_at_call 48; refine (D0.out _).mono ?_; rintro e w1 ⟨h1, h2⟩; rw [h2]; clear h2; obtain rfl := (show e = .returned (.tuple #[.int .u8 (x : Int), .bool true]) from h1); clear h1)
        go_wp2_with (go_at_call 48; refine (D1.out _).mono ?_; rintro e w1 ⟨h1, h2⟩; rw [h2]; clear h2; obtain rfl := (show e = .returned (.tuple #[.int .u8 0, .bool false]) from h1); clear h1)
        go_ret2
        exact ⟨rfl, rfl⟩
      | some y =>
        have y16 := hx_lt hb
        have x16 := hx_lt ha
        rw [hb] at D1
        clear hb ha
        go_enter Tryd.func35, Tryd.ntmps35
        go_upto_region 4 with (go_at_call 48; refine (D0.out _).mono ?_; rintro e w1 ⟨h1, h2⟩; rw [h2]; clear h2; obtain rfl := (show e = .returned (.tuple #[.int .u8 (x : Int), .bool true]) from h1); clear h1)
        go_wp2_with (go_at_call 48; refine (D1.out _).mono ?_; rintro e w1 ⟨h1, h2⟩; rw [h2]; clear h2; obtain rfl := (show e = .returned (.tuple #[.int .u8 (y : Int), .bool true]) from h1); clear h1)
        go_ret2
        exact ⟨congrArg (fun z : Int => Ending.returned (.tuple #[.int .u8 z, .bool true])) (by omega), rfl⟩
  · have i2 : (t.size : Int) < 2 := by omega
    rw [bl_short h2]
    go_enter Tryd.func35, Tryd.ntmps35
    go_wp2
    go_ret2
    exact ⟨rfl, rfl⟩
end Go.Proofs.YtalagagnolhppaaDoor
