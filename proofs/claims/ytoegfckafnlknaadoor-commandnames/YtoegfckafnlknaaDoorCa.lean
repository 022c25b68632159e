/- Which bytes, names, keys and ids are good. -/
import Derived.Test.YtoegfckafnlknaaDoorBa
namespace Go.Proofs.YtoegfckafnlknaaDoor
open Go.ChangeShapes Go.WideShapes Go.ChangeAt Go.RowKit
set_option maxRecDepth 20000
set_option linter.unusedVariables false
set_option linter.unusedSimpArgs false
/- a string's byte -/
def sb (s : ByteArray) (i : Nat) : Nat := (s.data.toList.getD i 0).toNat
theorem sb_lt (s : ByteArray) (i : Nat) : sb s i < 256 := UInt8.toNat_lt _
theorem sb_ix (s : ByteArray) (i : Nat) (z : Int) (hz : z = (i : Int)) (h : i < s.size) (w : World) : (Instr.index 9 (.string s) (.int .i64 z)).run Tryd.prog w = .ok (.int .u8 (sb s i : Nat)) w := by
  subst hz
  rw [run_index_string w _ _ _ _ Tryd.underlying9, dif_pos ⟨by omega, by omega⟩]
  have e : (s[((i : Int)).toNat]'(by simpa using h)).toNat = sb s i := by
    have h3 : i < s.data.size := h
    have e2 : s.data.toList.getD i 0 = s.data[i] := by
      rw [List.getD, Array.getElem?_toList, Array.getElem?_eq_getElem h3]
      rfl
    unfold sb
    rw [e2]
    rfl
  rw [e]
def nmE (c : Nat) : Bool := decide ((97 ≤ c ∧ c ≤ 122) ∨ (48 ≤ c ∧ c ≤ 57))
def nmB (c : Nat) : Bool := decide (((97 ≤ c ∧ c ≤ 122) ∨ (48 ≤ c ∧ c ≤ 57)) ∨ c = 45 ∨ c = 46)
def kyB (c : Nat) : Bool := decide (32 ≤ c ∧ c ≤ 126)
def dgB (c : Nat) : Bool := decide ((48 ≤ c ∧ c ≤ 57) ∨ (97 ≤ c ∧ c ≤ 102))
/- all the first i bytes -/
def evB (p : Nat → Bool) (s : ByteArray) (i : Nat) : Bool := (List.range i).all (fun j => p (sb s j))
theorem evB_zero (p : Nat → Bool) (s : ByteArray) : evB p s 0 = true := rfl
theorem evB_succ (p : Nat → Bool) (s : ByteArray) (i : Nat) : evB p s (i + 1) = (evB p s i && p (sb s i)) := by simp [evB, List.range_succ]
theorem evB_iff (p : Nat → Bool) (s : ByteArray) (i : Nat) : evB p s i = true ↔ ∀ j, j < i → p (sb s j) = true := by simp [evB]
theorem evB_false {p : Nat → Bool} {s : ByteArray} {i n : Nat} (hi : i < n) (h : p (sb s i) = false) : evB p s n = false := by
  rw [Bool.eq_false_iff]
  intro e
  have := (evB_iff p s n).1 e i hi
  rw [h] at this
  cases this
theorem isEnd_n (c : Nat) (w : World) : Calls Tryd.prog 58 #[.int .u8 (c : Int)] w fun e w' => e = .returned (.bool (nmE c)) ∧ w' = w := by
  by_cases h2 : (97 : Int) ≤ (c : Int)
  · skip
    by_cases h4 : (c : Int) ≤ 122
    · skip
      have EV : Hid (nmE c = true) := decide_eq_true (by omega)
      rw [EV.out]
      go_enter Tryd.func58, Tryd.ntmps58
      go_wp2
      go_ret
      exact ⟨rfl, rfl⟩
    · skip
      by_cases h6 : (48 : Int) ≤ (c : Int)
      · skip
        by_cases h8 : (c : Int) ≤ 57
        · skip
          have EV : Hid (nmE c = true) := decide_eq_true (by omega)
          rw [EV.out]
          go_enter Tryd.func58, Tryd.ntmps58
          go_wp2
          go_ret
          exact ⟨rfl, rfl⟩
        · skip
          have EV : Hid (nmE c = false) := decide_eq_false (by omega)
          rw [EV.out]
          go_enter Tryd.func58, Tryd.ntmps58
          go_wp2
          go_ret
          exact ⟨rfl, rfl⟩
      · skip
        have EV : Hid (nmE c = false) := decide_eq_false (by omega)
        rw [EV.out]
        go_enter Tryd.func58, Tryd.ntmps58
        go_wp2
        go_ret
        exact ⟨rfl, rfl⟩
  · skip
    by_cases h4 : (48 : Int) ≤ (c : Int)
    · skip
      by_cases h6 : (c : Int) ≤ 57
      · skip
        have EV : Hid (nmE c = true) := decide_eq_true (by omega)
        rw [EV.out]
        go_enter Tryd.func58, Tryd.ntmps58
        go_wp2
        go_ret
        exact ⟨rfl, rfl⟩
      · skip
        have EV : Hid (nmE c = false) := decide_eq_false (by omega)
        rw [EV.out]
        go_enter Tryd.func58, Tryd.ntmps58
        go_wp2
        go_ret
        exact ⟨rfl, rfl⟩
    · skip
      have EV : Hid (nmE c = false) := decide_eq_false (by omega)
      rw [EV.out]
      go_enter Tryd.func58, Tryd.ntmps58
      go_wp2
      go_ret
      exact ⟨rfl, rfl⟩
theorem isName_n (c : Nat) (w : World) : Calls Tryd.prog 57 #[.int .u8 (c : Int)] w fun e w' => e = .returned (.bool (nmB c)) ∧ w' = w := by
  rcases Bool.eq_false_or_eq_true (nmE c) with hE | hE
  · have EE : Hid (nmE c = true) := hE
    have EV : Hid (nmB c = true) := decide_eq_true (.inl (of_decide_eq_true hE))
    clear hE
    rw [EV.out]
    go_enter Tryd.func57, Tryd.ntmps57
    go_wp2_with (go_at_call 58; refine (isEnd_n c _).mono ?_; rintro e w0 ⟨rfl, h0⟩; rw [h0, EE.out]; clear h0)
    go_ret
    exact ⟨rfl, rfl⟩
  · have EE : Hid (nmE c = false) := hE
    have hq : ¬ ((97 ≤ c ∧ c ≤ 122) ∨ (48 ≤ c ∧ c ≤ 57)) := of_decide_eq_false hE
    clear hE
    by_cases h4 : c = 45
    · subst h4
      have EV : Hid (nmB 45 = true) := decide_eq_true (by omega)
      rw [EV.out]
      clear hq
      go_enter Tryd.func57, Tryd.ntmps57
      go_wp2_with (go_at_call 58; refine (isEnd_n 45 _).mono ?_; rintro e w0 ⟨rfl, h0⟩; rw [h0, EE.out]; clear h0)
      go_ret
      exact ⟨rfl, rfl⟩
    · by_cases h6 : c = 46
      · subst h6
        have EV : Hid (nmB 46 = true) := decide_eq_true (by omega)
        rw [EV.out]
        clear hq h4
        go_enter Tryd.func57, Tryd.ntmps57
        go_wp2_with (go_at_call 58; refine (isEnd_n 46 _).mono ?_; rintro e w0 ⟨rfl, h0⟩; rw [h0, EE.out]; clear h0)
        go_ret
        exact ⟨rfl, rfl⟩
      · have EV : Hid (nmB c = false) := decide_eq_false (by omega)
        have j4 : ¬ ((c : Int) = 45) := by omega
        have j6 : ¬ ((c : Int) = 46) := by omega
        rw [EV.out]
        clear hq h4 h6
        go_enter Tryd.func57, Tryd.ntmps57
        go_wp2_with (go_at_call 58; refine (isEnd_n c _).mono ?_; rintro e w0 ⟨rfl, h0⟩; rw [h0, EE.out]; clear h0)
        go_ret
        refine ⟨?_, rfl⟩
        simp [j4, j6]
theorem isKey_n (c : Nat) (w : World) : Calls Tryd.prog 60 #[.int .u8 (c : Int)] w fun e w' => e = .returned (.bool (kyB c)) ∧ w' = w := by
  by_cases h2 : (32 : Int) ≤ (c : Int)
  · skip
    by_cases h4 : (c : Int) ≤ 126
    · skip
      have EV : Hid (kyB c = true) := decide_eq_true (by omega)
      rw [EV.out]
      go_enter Tryd.func60, Tryd.ntmps60
      go_wp2
      go_ret
      exact ⟨rfl, rfl⟩
    · skip
      have EV : Hid (kyB c = false) := decide_eq_false (by omega)
      rw [EV.out]
      go_enter Tryd.func60, Tryd.ntmps60
      go_wp2
      go_ret
      exact ⟨rfl, rfl⟩
  · skip
    have EV : Hid (kyB c = false) := decide_eq_false (by omega)
    rw [EV.out]
    go_enter Tryd.func60, Tryd.ntmps60
    go_wp2
    go_ret
    exact ⟨rfl, rfl⟩
theorem isDig_n (c : Nat) (w : World) : Calls Tryd.prog 91 #[.int .u8 (c : Int)] w fun e w' => e = .returned (.bool (dgB c)) ∧ w' = w := by
  by_cases h2 : (48 : Int) ≤ (c : Int)
  · skip
    by_cases h4 : (c : Int) ≤ 57
    · skip
      have EV : Hid (dgB c = true) := decide_eq_true (by omega)
      rw [EV.out]
      go_enter Tryd.func91, Tryd.ntmps91
      go_wp2
      go_ret
      exact ⟨rfl, rfl⟩
    · skip
      by_cases h6 : (97 : Int) ≤ (c : Int)
      · skip
        by_cases h8 : (c : Int) ≤ 102
        · skip
          have EV : Hid (dgB c = true) := decide_eq_true (by omega)
          rw [EV.out]
          go_enter Tryd.func91, Tryd.ntmps91
          go_wp2
          go_ret
          exact ⟨rfl, rfl⟩
        · skip
          have EV : Hid (dgB c = false) := decide_eq_false (by omega)
          rw [EV.out]
          go_enter Tryd.func91, Tryd.ntmps91
          go_wp2
          go_ret
          exact ⟨rfl, rfl⟩
      · skip
        have EV : Hid (dgB c = false) := decide_eq_false (by omega)
        rw [EV.out]
        go_enter Tryd.func91, Tryd.ntmps91
        go_wp2
        go_ret
        exact ⟨rfl, rfl⟩
  · skip
    by_cases h4 : (97 : Int) ≤ (c : Int)
    · skip
      by_cases h6 : (c : Int) ≤ 102
      · skip
        have EV : Hid (dgB c = true) := decide_eq_true (by omega)
        rw [EV.out]
        go_enter Tryd.func91, Tryd.ntmps91
        go_wp2
        go_ret
        exact ⟨rfl, rfl⟩
      · skip
        have EV : Hid (dgB c = false) := decide_eq_false (by omega)
        rw [EV.out]
        go_enter Tryd.func91, Tryd.ntmps91
        go_wp2
        go_ret
        exact ⟨rfl, rfl⟩
    · skip
      have EV : Hid (dgB c = false) := decide_eq_false (by omega)
      rw [EV.out]
      go_enter Tryd.func91, Tryd.ntmps91
      go_wp2
      go_ret
      exact ⟨rfl, rfl⟩
theorem plain_n (c : Nat) (w : World) : Calls Tryd.prog 59 #[.int .u8 (c : Int)] w fun e w' => e = .returned (.bool (nmE c)) ∧ w' = w := by
  by_cases h2 : (97 : Int) ≤ (c : Int)
  · skip
    by_cases h4 : (c : Int) ≤ 122
    · skip
      have EV : Hid (nmE c = true) := decide_eq_true (by omega)
      rw [EV.out]
      go_enter Tryd.func59, Tryd.ntmps59
      go_wp2
      go_ret
      exact ⟨rfl, rfl⟩
    · skip
      by_cases h6 : (48 : Int) ≤ (c : Int)
      · skip
        by_cases h8 : (c : Int) ≤ 57
        · skip
          have EV : Hid (nmE c = true) := decide_eq_true (by omega)
          rw [EV.out]
          go_enter Tryd.func59, Tryd.ntmps59
          go_wp2
          go_ret
          exact ⟨rfl, rfl⟩
        · skip
          have EV : Hid (nmE c = false) := decide_eq_false (by omega)
          rw [EV.out]
          go_enter Tryd.func59, Tryd.ntmps59
          go_wp2
          go_ret
          exact ⟨rfl, rfl⟩
      · skip
        have EV : Hid (nmE c = false) := decide_eq_false (by omega)
        rw [EV.out]
        go_enter Tryd.func59, Tryd.ntmps59
        go_wp2
        go_ret
        exact ⟨rfl, rfl⟩
  · skip
    by_cases h4 : (48 : Int) ≤ (c : Int)
    · skip
      by_cases h6 : (c : Int) ≤ 57
      · skip
        have EV : Hid (nmE c = true) := decide_eq_true (by omega)
        rw [EV.out]
        go_enter Tryd.func59, Tryd.ntmps59
        go_wp2
        go_ret
        exact ⟨rfl, rfl⟩
      · skip
        have EV : Hid (nmE c = false) := decide_eq_false (by omega)
        rw [EV.out]
        go_enter Tryd.func59, Tryd.ntmps59
        go_wp2
        go_ret
        exact ⟨rfl, rfl⟩
    · skip
      have EV : Hid (nmE c = false) := decide_eq_false (by omega)
      rw [EV.out]
      go_enter Tryd.func59, Tryd.ntmps59
      go_wp2
      go_ret
      exact ⟨rfl, rfl⟩
theorem everyName_n (s : ByteArray) (hs : s.size ≤ 281474976710656) (w : World) : Calls Tryd.prog 56 #[.string s, .func (.func 57) #[] #[]] w fun e w' => e = .returned (.bool (evB nmB s s.size)) ∧ w' = w := by
  obtain ⟨n, Hn⟩ : ∃ n, Hid (s.size = n) := ⟨_, rfl⟩
  rw [Hn.out] at hs
  go_enter Tryd.func56, Tryd.ntmps56
  go_wp2
  rw [Hn.out]
  go_loop [8] (fun ti => ∃ i : Nat, i ≤ n ∧ ti = .int .i64 (i : Int) ∧ Hid (evB nmB s i = true)) (fun ti => n - (intOf ti).toNat)
  case atStart => exact ⟨0, by omega, rfl, evB_zero _ _⟩
  case round =>
    obtain ⟨i, hi, rfl, HI⟩ := hrel
    by_cases hlt : i < n
    · have i1 : (i : Int) < (n : Int) := by omega
      obtain ⟨c, Hc⟩ : ∃ c, Hid (sb s i = c) := ⟨_, rfl⟩
      have ix : ∀ w, (Instr.index 9 (.string s) (.int .i64 (i : Int))).run Tryd.prog w = .ok (.int .u8 (c : Int)) w := fun w => by rw [← Hc.out]; exact sb_ix s i _ rfl (by rw [Hn.out]; exact hlt) w
      rcases Bool.eq_false_or_eq_true (nmB c) with hp | hp
      · have HP : Hid (nmB c = true) := hp
        clear hp
        go_wp2_with (go_at_call 57; refine (isName_n c _).mono ?_; rintro e w0 ⟨rfl, h0⟩; rw [h0, HP.out]; clear h0)
        go_round
        case rel => exact ⟨i + 1, by omega, by go_num, by rw [evB_succ, HI.out, Hc.out, HP.out]; rfl⟩
        case measure => simp [intOf]; omega
      · have HP : Hid (nmB c = false) := hp
        have FF : Hid (evB nmB s n = false) := evB_false hlt (by rw [Hc.out]; exact HP.out)
        clear hp
        go_wp2_with (go_at_call 57; refine (isName_n c _).mono ?_; rintro e w0 ⟨rfl, h0⟩; rw [h0, HP.out]; clear h0)
        go_ret
        rw [Hn.out, FF.out]
        exact ⟨rfl, rfl⟩
    · obtain rfl : i = n := by omega
      go_wp2
      go_ret
      rw [Hn.out, HI.out]
      exact ⟨rfl, rfl⟩
theorem everyKey_n (s : ByteArray) (hs : s.size ≤ 281474976710656) (w : World) : Calls Tryd.prog 56 #[.string s, .func (.func 60) #[] #[]] w fun e w' => e = .returned (.bool (evB kyB s s.size)) ∧ w' = w := by
  obtain ⟨n, Hn⟩ : ∃ n, Hid (s.size = n) := ⟨_, rfl⟩
  rw [Hn.out] at hs
  go_enter Tryd.func56, Tryd.ntmps56
  go_wp2
  rw [Hn.out]
  go_loop [8] (fun ti => ∃ i : Nat, i ≤ n ∧ ti = .int .i64 (i : Int) ∧ Hid (evB kyB s i = true)) (fun ti => n - (intOf ti).toNat)
  case atStart => exact ⟨0, by omega, rfl, evB_zero _ _⟩
  case round =>
    obtain ⟨i, hi, rfl, HI⟩ := hrel
    by_cases hlt : i < n
    · have i1 : (i : Int) < (n : Int) := by omega
      obtain ⟨c, Hc⟩ : ∃ c, Hid (sb s i = c) := ⟨_, rfl⟩
      have ix : ∀ w, (Instr.index 9 (.string s) (.int .i64 (i : Int))).run Tryd.prog w = .ok (.int .u8 (c : Int)) w := fun w => by rw [← Hc.out]; exact sb_ix s i _ rfl (by rw [Hn.out]; exact hlt) w
      rcases Bool.eq_false_or_eq_true (kyB c) with hp | hp
      · have HP : Hid (kyB c = true) := hp
        clear hp
        go_wp2_with (go_at_call 60; refine (isKey_n c _).mono ?_; rintro e w0 ⟨rfl, h0⟩; rw [h0, HP.out]; clear h0)
        go_round
        case rel => exact ⟨i + 1, by omega, by go_num, by rw [evB_succ, HI.out, Hc.out, HP.out]; rfl⟩
        case measure => simp [intOf]; omega
      · have HP : Hid (kyB c = false) := hp
        have FF : Hid (evB kyB s n = false) := evB_false hlt (by rw [Hc.out]; exact HP.out)
        clear hp
        go_wp2_with (go_at_call 60; refine (isKey_n c _).mono ?_; rintro e w0 ⟨rfl, h0⟩; rw [h0, HP.out]; clear h0)
        go_ret
        rw [Hn.out, FF.out]
        exact ⟨rfl, rfl⟩
    · obtain rfl : i = n := by omega
      go_wp2
      go_ret
      rw [Hn.out, HI.out]
      exact ⟨rfl, rfl⟩
theorem everyDig_n (s : ByteArray) (hs : s.size ≤ 281474976710656) (w : World) : Calls Tryd.prog 56 #[.string s, .func (.func 91) #[] #[]] w fun e w' => e = .returned (.bool (evB dgB s s.size)) ∧ w' = w := by
  obtain ⟨n, Hn⟩ : ∃ n, Hid (s.size = n) := ⟨_, rfl⟩
  rw [Hn.out] at hs
  go_enter Tryd.func56, Tryd.ntmps56
  go_wp2
  rw [Hn.out]
  go_loop [8] (fun ti => ∃ i : Nat, i ≤ n ∧ ti = .int .i64 (i : Int) ∧ Hid (evB dgB s i = true)) (fun ti => n - (intOf ti).toNat)
  case atStart => exact ⟨0, by omega, rfl, evB_zero _ _⟩
  case round =>
    obtain ⟨i, hi, rfl, HI⟩ := hrel
    by_cases hlt : i < n
    · have i1 : (i : Int) < (n : Int) := by omega
      obtain ⟨c, Hc⟩ : ∃ c, Hid (sb s i = c) := ⟨_, rfl⟩
      have ix : ∀ w, (Instr.index 9 (.string s) (.int .i64 (i : Int))).run Tryd.prog w = .ok (.int .u8 (c : Int)) w := fun w => by rw [← Hc.out]; exact sb_ix s i _ rfl (by rw [Hn.out]; exact hlt) w
      rcases Bool.eq_false_or_eq_true (dgB c) with hp | hp
      · have HP : Hid (dgB c = true) := hp
        clear hp
        go_wp2_with (go_at_call 91; refine (isDig_n c _).mono ?_; rintro e w0 ⟨rfl, h0⟩; rw [h0, HP.out]; clear h0)
        go_round
        case rel => exact ⟨i + 1, by omega, by go_num, by rw [evB_succ, HI.out, Hc.out, HP.out]; rfl⟩
        case measure => simp [intOf]; omega
      · have HP : Hid (dgB c = false) := hp
        have FF : Hid (evB dgB s n = false) := evB_false hlt (by rw [Hc.out]; exact HP.out)
        clear hp
        go_wp2_with (go_at_call 91; refine (isDig_n c _).mono ?_; rintro e w0 ⟨rfl, h0⟩; rw [h0, HP.out]; clear h0)
        go_ret
        rw [Hn.out, FF.out]
        exact ⟨rfl, rfl⟩
    · obtain rfl : i = n := by omega
      go_wp2
      go_ret
      rw [Hn.out, HI.out]
      exact ⟨rfl, rfl⟩
end Go.Proofs.YtoegfckafnlknaaDoor
