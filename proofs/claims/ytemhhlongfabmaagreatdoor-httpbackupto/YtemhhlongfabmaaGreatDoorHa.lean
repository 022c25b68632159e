/- Which bytes are good, and whether all of a text are. -/
import Derived.Test.YtemhhlongfabmaaGreatDoorVc
namespace Go.Proofs.YtemhhlongfabmaaGreatDoor
open Go.ChangeShapes Go.WideShapes Go.ChangeAt Go.RowKit
set_option maxRecDepth 20000
set_option linter.unusedVariables false
set_option linter.unusedSimpArgs false
/- a string's byte -/
def sb (s : ByteArray) (i : Nat) : Nat := (s.data.toList.getD i 0).toNat
theorem sb_lt (s : ByteArray) (i : Nat) : sb s i < 256 := UInt8.toNat_lt _
theorem sb_ix (s : ByteArray) (i : Nat) (z : Int) (hz : z = (i : Int)) (h : i < s.size) (w : World) : (Instr.index 9 (.string s) (.int .i64 z)).run Tryz.prog w = .ok (.int .u8 (sb s i : Nat)) w := by
  subst hz
  rw [run_index_string w _ _ _ _ Tryz.underlying9, dif_pos ⟨by omega, by omega⟩]
  have e : (s[((i : Int)).toNat]'(by simpa using h)).toNat = sb s i := by
    have h3 : i < s.data.size := h
    have e2 : s.data.toList.getD i 0 = s.data[i] := by
      rw [List.getD, Array.getElem?_toList, Array.getElem?_eq_getElem h3]
      rfl
    unfold sb
    rw [e2]
    rfl
  rw [e]
def grB (c : Nat) : Bool := decide (65 ≤ c ∧ c ≤ 90)
def smB (c : Nat) : Bool := decide (97 ≤ c ∧ c ≤ 122)
def dgB (c : Nat) : Bool := decide (48 ≤ c ∧ c ≤ 57)
def tgB (c : Nat) : Bool := decide (32 < c ∧ c ≤ 126)
def nmB (c : Nat) : Bool := grB c || (smB c || (dgB c || decide (c = 45)))
def vlB (c : Nat) : Bool := decide ((32 ≤ c ∧ c ≤ 126) ∨ c = 9)
/- all the first i bytes -/
def evB (p : Nat → Bool) (s : ByteArray) (i : Nat) : Bool := (List.range i).all (fun j => p (sb s j))
theorem evB_zero (p : Nat → Bool) (s : ByteArray) : evB p s 0 = true := rfl
theorem evB_succ (p : Nat → Bool) (s : ByteArray) (i : Nat) : evB p s (i + 1) = (evB p s i && p (sb s i)) := by simp [evB, List.range_succ]
theorem evB_iff (p : Nat → Bool) (s : ByteArray) (i : Nat) : evB p s i = true ↔ ∀ j, j < i → p (sb s j) = true := by simp [evB]
theorem evB_false {p : Nat → Bool} {s : ByteArray} {i n : Nat} (hi : i < n) (h : p (sb s i) = false) : evB p s n = false := by
  rw [Bool.eq_false_iff]
  intro e
  have := (evB_iff p s n).1 e i hi
  rw [h] at this
  cases this
/- two strings compared -/
theorem eqS (d : Nat) (x y : ByteArray) (w : World) : (Op.equalIn (d + 1) 9 (.string x) (.string y)).run Tryz.prog w = .ok (decide (x = y)) w := by
  rw [run_equalIn_string w d 9 x y Tryz.underlying9]
  have e : (x.toList == y.toList) = decide (x = y) := by
    rw [ByteArray.toList_eq, ByteArray.toList_eq]
    by_cases h : x = y
    · subst h; simp
    · have h2 : ¬ (x.data.toList = y.data.toList) := fun e => h (ByteArray.ext (Array.toList_inj.1 e))
      rw [decide_eq_false h]
      simpa using h2
  rw [e]
theorem eq_strb {b : Bool} {s t : ByteArray} (h : decide (s = t) = b) (d : Nat) (w : World) : (Op.equalIn (d + 1) 9 (.string s) (.string t)).run Tryz.prog w = .ok b w := by rw [eqS, h]
theorem c66_n (c : Nat) (w : World) : Calls Tryz.prog 66 #[.int .u8 (c : Int)] w fun e w' => e = .returned (.bool (grB c)) ∧ w' = w := by
  by_cases h2 : (65 : Int) ≤ (c : Int)
  · by_cases h4 : (c : Int) ≤ 90
    · skip
      have EV : Hid (grB c = true) := decide_eq_true (by omega)
      rw [EV.out]
      go_enter Tryz.func66, Tryz.ntmps66
      go_wp2
      go_ret
      exact ⟨rfl, rfl⟩
    · skip
      have EV : Hid (grB c = false) := decide_eq_false (by omega)
      rw [EV.out]
      go_enter Tryz.func66, Tryz.ntmps66
      go_wp2
      go_ret
      exact ⟨rfl, rfl⟩
  · skip
    have EV : Hid (grB c = false) := decide_eq_false (by omega)
    rw [EV.out]
    go_enter Tryz.func66, Tryz.ntmps66
    go_wp2
    go_ret
    exact ⟨rfl, rfl⟩
theorem c70_n (c : Nat) (w : World) : Calls Tryz.prog 70 #[.int .u8 (c : Int)] w fun e w' => e = .returned (.bool (smB c)) ∧ w' = w := by
  by_cases h2 : (97 : Int) ≤ (c : Int)
  · by_cases h4 : (c : Int) ≤ 122
    · skip
      have EV : Hid (smB c = true) := decide_eq_true (by omega)
      rw [EV.out]
      go_enter Tryz.func70, Tryz.ntmps70
      go_wp2
      go_ret
      exact ⟨rfl, rfl⟩
    · skip
      have EV : Hid (smB c = false) := decide_eq_false (by omega)
      rw [EV.out]
      go_enter Tryz.func70, Tryz.ntmps70
      go_wp2
      go_ret
      exact ⟨rfl, rfl⟩
  · skip
    have EV : Hid (smB c = false) := decide_eq_false (by omega)
    rw [EV.out]
    go_enter Tryz.func70, Tryz.ntmps70
    go_wp2
    go_ret
    exact ⟨rfl, rfl⟩
theorem c71_n (c : Nat) (w : World) : Calls Tryz.prog 71 #[.int .u8 (c : Int)] w fun e w' => e = .returned (.bool (dgB c)) ∧ w' = w := by
  by_cases h2 : (48 : Int) ≤ (c : Int)
  · by_cases h4 : (c : Int) ≤ 57
    · skip
      have EV : Hid (dgB c = true) := decide_eq_true (by omega)
      rw [EV.out]
      go_enter Tryz.func71, Tryz.ntmps71
      go_wp2
      go_ret
      exact ⟨rfl, rfl⟩
    · skip
      have EV : Hid (dgB c = false) := decide_eq_false (by omega)
      rw [EV.out]
      go_enter Tryz.func71, Tryz.ntmps71
      go_wp2
      go_ret
      exact ⟨rfl, rfl⟩
  · skip
    have EV : Hid (dgB c = false) := decide_eq_false (by omega)
    rw [EV.out]
    go_enter Tryz.func71, Tryz.ntmps71
    go_wp2
    go_ret
    exact ⟨rfl, rfl⟩
theorem c68_n (c : Nat) (w : World) : Calls Tryz.prog 68 #[.int .u8 (c : Int)] w fun e w' => e = .returned (.bool (tgB c)) ∧ w' = w := by
  by_cases h2 : (32 : Int) < (c : Int)
  · by_cases h4 : (c : Int) ≤ 126
    · skip
      have EV : Hid (tgB c = true) := decide_eq_true (by omega)
      rw [EV.out]
      go_enter Tryz.func68, Tryz.ntmps68
      go_wp2
      go_ret
      exact ⟨rfl, rfl⟩
    · skip
      have EV : Hid (tgB c = false) := decide_eq_false (by omega)
      rw [EV.out]
      go_enter Tryz.func68, Tryz.ntmps68
      go_wp2
      go_ret
      exact ⟨rfl, rfl⟩
  · skip
    have EV : Hid (tgB c = false) := decide_eq_false (by omega)
    rw [EV.out]
    go_enter Tryz.func68, Tryz.ntmps68
    go_wp2
    go_ret
    exact ⟨rfl, rfl⟩
theorem c72_n (c : Nat) (w : World) : Calls Tryz.prog 72 #[.int .u8 (c : Int)] w fun e w' => e = .returned (.bool (vlB c)) ∧ w' = w := by
  by_cases h0 : c = 9
  · subst h0
    have EV : Hid (vlB 9 = true) := rfl
    rw [EV.out]
    go_enter Tryz.func72, Tryz.ntmps72
    go_wp2
    go_ret
    exact ⟨rfl, rfl⟩
  · have j0 : ¬ ((c : Int) = 9) := by omega
    by_cases h2 : (32 : Int) ≤ (c : Int)
    · by_cases h4 : (c : Int) ≤ 126
      · have EV : Hid (vlB c = true) := decide_eq_true (by omega)
        rw [EV.out]
        go_enter Tryz.func72, Tryz.ntmps72
        go_wp2
        go_ret
        exact ⟨rfl, rfl⟩
      · have EV : Hid (vlB c = false) := decide_eq_false (by omega)
        rw [EV.out]
        go_enter Tryz.func72, Tryz.ntmps72
        go_wp2
        go_ret
        refine ⟨?_, rfl⟩
        simp [j0]
    · have EV : Hid (vlB c = false) := decide_eq_false (by omega)
      rw [EV.out]
      go_enter Tryz.func72, Tryz.ntmps72
      go_wp2
      go_ret
      refine ⟨?_, rfl⟩
      simp [j0]
theorem c69_n (c : Nat) (w : World) : Calls Tryz.prog 69 #[.int .u8 (c : Int)] w fun e w' => e = .returned (.bool (nmB c)) ∧ w' = w := by
  obtain ⟨b1, E1⟩ : ∃ b, Hid (grB c = b) := ⟨_, rfl⟩
  obtain ⟨b2, E2⟩ : ∃ b, Hid (smB c = b) := ⟨_, rfl⟩
  obtain ⟨b3, E3⟩ : ∃ b, Hid (dgB c = b) := ⟨_, rfl⟩
  by_cases h4 : c = 45
  · subst h4
    have EV : Hid (nmB 45 = true) := rfl
    rw [EV.out]
    cases b1 with
    | true => exact absurd E1.out (by decide)
    | false =>
      cases b2 with
      | true => exact absurd E2.out (by decide)
      | false =>
        cases b3 with
        | true => exact absurd E3.out (by decide)
        | false =>
          go_enter Tryz.func69, Tryz.ntmps69
          go_wp2_with (first | (go_at_call 66; refine (c66_n 45 _).mono ?_; rintro e w0 ⟨rfl, h0⟩; rw [h0, E1.out]; clear h0) | (go_at_call 70; refine (c70_n 45 _).mono ?_; rintro e w0 ⟨rfl, h0⟩; rw [h0, E2.out]; clear h0) | (go_at_call 71; refine (c71_n 45 _).mono ?_; rintro e w0 ⟨rfl, h0⟩; rw [h0, E3.out]; clear h0))
          go_ret
          exact ⟨rfl, rfl⟩
  · have j4 : ¬ ((c : Int) = 45) := by omega
    have EV : Hid (nmB c = (b1 || (b2 || (b3 || false)))) := by
      show (grB c || (smB c || (dgB c || decide (c = 45)))) = _
      rw [E1.out, E2.out, E3.out, decide_eq_false h4]
    rw [EV.out]
    cases b1 with
    | true =>
      go_enter Tryz.func69, Tryz.ntmps69
      go_wp2_with (first | (go_at_call 66; refine (c66_n c _).mono ?_; rintro e w0 ⟨rfl, h0⟩; rw [h0, E1.out]; clear h0) | (go_at_call 70; refine (c70_n c _).mono ?_; rintro e w0 ⟨rfl, h0⟩; rw [h0, E2.out]; clear h0) | (go_at_call 71; refine (c71_n c _).mono ?_; rintro e w0 ⟨rfl, h0⟩; rw [h0, E3.out]; clear h0))
      go_ret
      exact ⟨rfl, rfl⟩
    | false =>
      cases b2 with
      | true =>
        go_enter Tryz.func69, Tryz.ntmps69
        go_wp2_with (first | (go_at_call 66; refine (c66_n c _).mono ?_; rintro e w0 ⟨rfl, h0⟩; rw [h0, E1.out]; clear h0) | (go_at_call 70; refine (c70_n c _).mono ?_; rintro e w0 ⟨rfl, h0⟩; rw [h0, E2.out]; clear h0) | (go_at_call 71; refine (c71_n c _).mono ?_; rintro e w0 ⟨rfl, h0⟩; rw [h0, E3.out]; clear h0))
        go_ret
        exact ⟨rfl, rfl⟩
      | false =>
        cases b3 with
        | true =>
          go_enter Tryz.func69, Tryz.ntmps69
          go_wp2_with (first | (go_at_call 66; refine (c66_n c _).mono ?_; rintro e w0 ⟨rfl, h0⟩; rw [h0, E1.out]; clear h0) | (go_at_call 70; refine (c70_n c _).mono ?_; rintro e w0 ⟨rfl, h0⟩; rw [h0, E2.out]; clear h0) | (go_at_call 71; refine (c71_n c _).mono ?_; rintro e w0 ⟨rfl, h0⟩; rw [h0, E3.out]; clear h0))
          go_ret
          exact ⟨rfl, rfl⟩
        | false =>
          go_enter Tryz.func69, Tryz.ntmps69
          go_wp2_with (first | (go_at_call 66; refine (c66_n c _).mono ?_; rintro e w0 ⟨rfl, h0⟩; rw [h0, E1.out]; clear h0) | (go_at_call 70; refine (c70_n c _).mono ?_; rintro e w0 ⟨rfl, h0⟩; rw [h0, E2.out]; clear h0) | (go_at_call 71; refine (c71_n c _).mono ?_; rintro e w0 ⟨rfl, h0⟩; rw [h0, E3.out]; clear h0))
          go_ret
          refine ⟨?_, rfl⟩
          simp [j4]
theorem all66_n (s : ByteArray) (hs : s.size ≤ 281474976710656) (w : World) : Calls Tryz.prog 65 #[.string s, .func (.func 66) #[] #[]] w fun e w' => e = .returned (.bool (evB grB s s.size)) ∧ w' = w := by
  obtain ⟨n, Hn⟩ : ∃ n, Hid (s.size = n) := ⟨_, rfl⟩
  rw [Hn.out] at hs
  go_enter Tryz.func65, Tryz.ntmps65
  go_wp2
  rw [Hn.out]
  go_loop [8] (fun ti => ∃ i : Nat, i ≤ n ∧ ti = .int .i64 (i : Int) ∧ Hid (evB grB s i = true)) (fun ti => n - (intOf ti).toNat)
  case atStart => exact ⟨0, by omega, rfl, evB_zero _ _⟩
  case round =>
    obtain ⟨i, hi, rfl, HI⟩ := hrel
    by_cases hlt : i < n
    · have i1 : (i : Int) < (n : Int) := by omega
      obtain ⟨c, Hc⟩ : ∃ c, Hid (sb s i = c) := ⟨_, rfl⟩
      have ix : ∀ w, (Instr.index 9 (.string s) (.int .i64 (i : Int))).run Tryz.prog w = .ok (.int .u8 (c : Int)) w := fun w => by rw [← Hc.out]; exact sb_ix s i _ rfl (by rw [Hn.out]; exact hlt) w
      rcases Bool.eq_false_or_eq_true (grB c) with hp | hp
      · have HP : Hid (grB c = true) := hp
        clear hp
        go_wp2_with (go_at_call 66; refine (c66_n c _).mono ?_; rintro e w0 ⟨rfl, h0⟩; rw [h0, HP.out]; clear h0)
        go_round
        case rel => exact ⟨i + 1, by omega, by go_num, by rw [evB_succ, HI.out, Hc.out, HP.out]; rfl⟩
        case measure => simp [intOf]; omega
      · have HP : Hid (grB c = false) := hp
        have FF : Hid (evB grB s n = false) := evB_false hlt (by rw [Hc.out]; exact HP.out)
        clear hp
        go_wp2_with (go_at_call 66; refine (c66_n c _).mono ?_; rintro e w0 ⟨rfl, h0⟩; rw [h0, HP.out]; clear h0)
        go_ret
        rw [Hn.out, FF.out]
        exact ⟨rfl, rfl⟩
    · obtain rfl : i = n := by omega
      go_wp2
      go_ret
      rw [Hn.out, HI.out]
      exact ⟨rfl, rfl⟩
theorem all68_n (s : ByteArray) (hs : s.size ≤ 281474976710656) (w : World) : Calls Tryz.prog 65 #[.string s, .func (.func 68) #[] #[]] w fun e w' => e = .returned (.bool (evB tgB s s.size)) ∧ w' = w := by
  obtain ⟨n, Hn⟩ : ∃ n, Hid (s.size = n) := ⟨_, rfl⟩
  rw [Hn.out] at hs
  go_enter Tryz.func65, Tryz.ntmps65
  go_wp2
  rw [Hn.out]
  go_loop [8] (fun ti => ∃ i : Nat, i ≤ n ∧ ti = .int .i64 (i : Int) ∧ Hid (evB tgB s i = true)) (fun ti => n - (intOf ti).toNat)
  case atStart => exact ⟨0, by omega, rfl, evB_zero _ _⟩
  case round =>
    obtain ⟨i, hi, rfl, HI⟩ := hrel
    by_cases hlt : i < n
    · have i1 : (i : Int) < (n : Int) := by omega
      obtain ⟨c, Hc⟩ : ∃ c, Hid (sb s i = c) := ⟨_, rfl⟩
      have ix : ∀ w, (Instr.index 9 (.string s) (.int .i64 (i : Int))).run Tryz.prog w = .ok (.int .u8 (c : Int)) w := fun w => by rw [← Hc.out]; exact sb_ix s i _ rfl (by rw [Hn.out]; exact hlt) w
      rcases Bool.eq_false_or_eq_true (tgB c) with hp | hp
      · have HP : Hid (tgB c = true) := hp
        clear hp
        go_wp2_with (go_at_call 68; refine (c68_n c _).mono ?_; rintro e w0 ⟨rfl, h0⟩; rw [h0, HP.out]; clear h0)
        go_round
        case rel => exact ⟨i + 1, by omega, by go_num, by rw [evB_succ, HI.out, Hc.out, HP.out]; rfl⟩
        case measure => simp [intOf]; omega
      · have HP : Hid (tgB c = false) := hp
        have FF : Hid (evB tgB s n = false) := evB_false hlt (by rw [Hc.out]; exact HP.out)
        clear hp
        go_wp2_with (go_at_call 68; refine (c68_n c _).mono ?_; rintro e w0 ⟨rfl, h0⟩; rw [h0, HP.out]; clear h0)
        go_ret
        rw [Hn.out, FF.out]
        exact ⟨rfl, rfl⟩
    · obtain rfl : i = n := by omega
      go_wp2
      go_ret
      rw [Hn.out, HI.out]
      exact ⟨rfl, rfl⟩
theorem all69_n (s : ByteArray) (hs : s.size ≤ 281474976710656) (w : World) : Calls Tryz.prog 65 #[.string s, .func (.func 69) #[] #[]] w fun e w' => e = .returned (.bool (evB nmB s s.size)) ∧ w' = w := by
  obtain ⟨n, Hn⟩ : ∃ n, Hid (s.size = n) := ⟨_, rfl⟩
  rw [Hn.out] at hs
  go_enter Tryz.func65, Tryz.ntmps65
  go_wp2
  rw [Hn.out]
  go_loop [8] (fun ti => ∃ i : Nat, i ≤ n ∧ ti = .int .i64 (i : Int) ∧ Hid (evB nmB s i = true)) (fun ti => n - (intOf ti).toNat)
  case atStart => exact ⟨0, by omega, rfl, evB_zero _ _⟩
  case round =>
    obtain ⟨i, hi, rfl, HI⟩ := hrel
    by_cases hlt : i < n
    · have i1 : (i : Int) < (n : Int) := by omega
      obtain ⟨c, Hc⟩ : ∃ c, Hid (sb s i = c) := ⟨_, rfl⟩
      have ix : ∀ w, (Instr.index 9 (.string s) (.int .i64 (i : Int))).run Tryz.prog w = .ok (.int .u8 (c : Int)) w := fun w => by rw [← Hc.out]; exact sb_ix s i _ rfl (by rw [Hn.out]; exact hlt) w
      rcases Bool.eq_false_or_eq_true (nmB c) with hp | hp
      · have HP : Hid (nmB c = true) := hp
        clear hp
        go_wp2_with (go_at_call 69; refine (c69_n c _).mono ?_; rintro e w0 ⟨rfl, h0⟩; rw [h0, HP.out]; clear h0)
        go_round
        case rel => exact ⟨i + 1, by omega, by go_num, by rw [evB_succ, HI.out, Hc.out, HP.out]; rfl⟩
        case measure => simp [intOf]; omega
      · have HP : Hid (nmB c = false) := hp
        have FF : Hid (evB nmB s n = false) := evB_false hlt (by rw [Hc.out]; exact HP.out)
        clear hp
        go_wp2_with (go_at_call 69; refine (c69_n c _).mono ?_; rintro e w0 ⟨rfl, h0⟩; rw [h0, HP.out]; clear h0)
        go_ret
        rw [Hn.out, FF.out]
        exact ⟨rfl, rfl⟩
    · obtain rfl : i = n := by omega
      go_wp2
      go_ret
      rw [Hn.out, HI.out]
      exact ⟨rfl, rfl⟩
theorem all71_n (s : ByteArray) (hs : s.size ≤ 281474976710656) (w : World) : Calls Tryz.prog 65 #[.string s, .func (.func 71) #[] #[]] w fun e w' => e = .returned (.bool (evB dgB s s.size)) ∧ w' = w := by
  obtain ⟨n, Hn⟩ : ∃ n, Hid (s.size = n) := ⟨_, rfl⟩
  rw [Hn.out] at hs
  go_enter Tryz.func65, Tryz.ntmps65
  go_wp2
  rw [Hn.out]
  go_loop [8] (fun ti => ∃ i : Nat, i ≤ n ∧ ti = .int .i64 (i : Int) ∧ Hid (evB dgB s i = true)) (fun ti => n - (intOf ti).toNat)
  case atStart => exact ⟨0, by omega, rfl, evB_zero _ _⟩
  case round =>
    obtain ⟨i, hi, rfl, HI⟩ := hrel
    by_cases hlt : i < n
    · have i1 : (i : Int) < (n : Int) := by omega
      obtain ⟨c, Hc⟩ : ∃ c, Hid (sb s i = c) := ⟨_, rfl⟩
      have ix : ∀ w, (Instr.index 9 (.string s) (.int .i64 (i : Int))).run Tryz.prog w = .ok (.int .u8 (c : Int)) w := fun w => by rw [← Hc.out]; exact sb_ix s i _ rfl (by rw [Hn.out]; exact hlt) w
      rcases Bool.eq_false_or_eq_true (dgB c) with hp | hp
      · have HP : Hid (dgB c = true) := hp
        clear hp
        go_wp2_with (go_at_call 71; refine (c71_n c _).mono ?_; rintro e w0 ⟨rfl, h0⟩; rw [h0, HP.out]; clear h0)
        go_round
        case rel => exact ⟨i + 1, by omega, by go_num, by rw [evB_succ, HI.out, Hc.out, HP.out]; rfl⟩
        case measure => simp [intOf]; omega
      · have HP : Hid (dgB c = false) := hp
        have FF : Hid (evB dgB s n = false) := evB_false hlt (by rw [Hc.out]; exact HP.out)
        clear hp
        go_wp2_with (go_at_call 71; refine (c71_n c _).mono ?_; rintro e w0 ⟨rfl, h0⟩; rw [h0, HP.out]; clear h0)
        go_ret
        rw [Hn.out, FF.out]
        exact ⟨rfl, rfl⟩
    · obtain rfl : i = n := by omega
      go_wp2
      go_ret
      rw [Hn.out, HI.out]
      exact ⟨rfl, rfl⟩
theorem all72_n (s : ByteArray) (hs : s.size ≤ 281474976710656) (w : World) : Calls Tryz.prog 65 #[.string s, .func (.func 72) #[] #[]] w fun e w' => e = .returned (.bool (evB vlB s s.size)) ∧ w' = w := by
  obtain ⟨n, Hn⟩ : ∃ n, Hid (s.size = n) := ⟨_, rfl⟩
  rw [Hn.out] at hs
  go_enter Tryz.func65, Tryz.ntmps65
  go_wp2
  rw [Hn.out]
  go_loop [8] (fun ti => ∃ i : Nat, i ≤ n ∧ ti = .int .i64 (i : Int) ∧ Hid (evB vlB s i = true)) (fun ti => n - (intOf ti).toNat)
  case atStart => exact ⟨0, by omega, rfl, evB_zero _ _⟩
  case round =>
    obtain ⟨i, hi, rfl, HI⟩ := hrel
    by_cases hlt : i < n
    · have i1 : (i : Int) < (n : Int) := by omega
      obtain ⟨c, Hc⟩ : ∃ c, Hid (sb s i = c) := ⟨_, rfl⟩
      have ix : ∀ w, (Instr.index 9 (.string s) (.int .i64 (i : Int))).run Tryz.prog w = .ok (.int .u8 (c : Int)) w := fun w => by rw [← Hc.out]; exact sb_ix s i _ rfl (by rw [Hn.out]; exact hlt) w
      rcases Bool.eq_false_or_eq_true (vlB c) with hp | hp
      · have HP : Hid (vlB c = true) := hp
        clear hp
        go_wp2_with (go_at_call 72; refine (c72_n c _).mono ?_; rintro e w0 ⟨rfl, h0⟩; rw [h0, HP.out]; clear h0)
        go_round
        case rel => exact ⟨i + 1, by omega, by go_num, by rw [evB_succ, HI.out, Hc.out, HP.out]; rfl⟩
        case measure => simp [intOf]; omega
      · have HP : Hid (vlB c = false) := hp
        have FF : Hid (evB vlB s n = false) := evB_false hlt (by rw [Hc.out]; exact HP.out)
        clear hp
        go_wp2_with (go_at_call 72; refine (c72_n c _).mono ?_; rintro e w0 ⟨rfl, h0⟩; rw [h0, HP.out]; clear h0)
        go_ret
        rw [Hn.out, FF.out]
        exact ⟨rfl, rfl⟩
    · obtain rfl : i = n := by omega
      go_wp2
      go_ret
      rw [Hn.out, HI.out]
      exact ⟨rfl, rfl⟩
end Go.Proofs.YtemhhlongfabmaaGreatDoor
