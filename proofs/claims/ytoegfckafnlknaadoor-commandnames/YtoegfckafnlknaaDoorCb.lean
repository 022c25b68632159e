/- Good names, keys and ids: the program's answers, and the document's. -/
import Derived.Test.YtoegfckafnlknaaDoorCa
namespace Go.Proofs.YtoegfckafnlknaaDoor
open Go.ChangeShapes Go.WideShapes Go.ChangeAt Go.RowKit
set_option maxRecDepth 20000
set_option linter.unusedVariables false
set_option linter.unusedSimpArgs false
def gdN (s : ByteArray) : Bool := decide (3 ≤ s.size ∧ s.size ≤ 63) && (evB nmB s s.size && (nmE (sb s 0) && nmE (sb s (s.size - 1))))
def gdK (s : ByteArray) : Bool := decide (1 ≤ s.size ∧ s.size ≤ 200) && evB kyB s s.size
def tmT (n : Int) : Bool := decide (0 ≤ n ∧ n ≤ 1099511627776)
def gdI (a b c : Int) : Bool := decide (0 ≤ a ∧ a < 16) && (tmT b && tmT c)
theorem isTime_n (n : Int) (w : World) : Calls Tryd.prog 61 #[.int .i64 n] w fun e w' => e = .returned (.bool (tmT n)) ∧ w' = w := by
  by_cases h1 : 0 ≤ n
  · by_cases h2 : n ≤ 1099511627776
    · have EV : Hid (tmT n = true) := decide_eq_true ⟨h1, h2⟩
      rw [EV.out]
      go_enter Tryd.func61, Tryd.ntmps61
      go_wp2
      go_ret
      exact ⟨rfl, rfl⟩
    · have EV : Hid (tmT n = false) := decide_eq_false (by omega)
      rw [EV.out]
      go_enter Tryd.func61, Tryd.ntmps61
      go_wp2
      go_ret
      exact ⟨rfl, rfl⟩
  · have EV : Hid (tmT n = false) := decide_eq_false (by omega)
    rw [EV.out]
    go_enter Tryd.func61, Tryd.ntmps61
    go_wp2
    go_ret
    exact ⟨rfl, rfl⟩
theorem goodBucket_n (s : ByteArray) (w : World) : Calls Tryd.prog 26 #[.string s] w fun e w' => e = .returned (.bool (gdN s)) ∧ w' = w := by
  obtain ⟨n, Hn⟩ : ∃ n, Hid (s.size = n) := ⟨_, rfl⟩
  by_cases h1 : n < 3
  · have EV : Hid (gdN s = false) := by
      unfold gdN
      rw [Hn.out, decide_eq_false (by omega)]
      exact (rfl : (_ : Bool) = _)
    have i1 : (n : Int) < 3 := by omega
    rw [EV.out]
    go_enter Tryd.func26, Tryd.ntmps26
    rw [← Hn.out] at i1
    go_wp2
    go_ret
    exact ⟨rfl, rfl⟩
  · by_cases h2 : 63 < n
    · have EV : Hid (gdN s = false) := by
        unfold gdN
        rw [Hn.out, decide_eq_false (by omega)]
        exact (rfl : (_ : Bool) = _)
      have i1 : ¬ ((s.size : Int) < 3) := by rw [Hn.out]; omega
      have i2 : (63 : Int) < (s.size : Int) := by rw [Hn.out]; omega
      rw [EV.out]
      go_enter Tryd.func26, Tryd.ntmps26
      go_wp2
      go_ret
      exact ⟨rfl, rfl⟩
    · have i1 : ¬ ((s.size : Int) < 3) := by rw [Hn.out]; omega
      have i2 : ¬ ((63 : Int) < (s.size : Int)) := by rw [Hn.out]; omega
      have hs : s.size ≤ 281474976710656 := by rw [Hn.out]; omega
      have EV : Hid (gdN s = (evB nmB s s.size && (nmE (sb s 0) && nmE (sb s (s.size - 1))))) := by
        unfold gdN
        rw [decide_eq_true (by rw [Hn.out]; omega)]
        exact (rfl : (_ : Bool) = _)
      rw [EV.out]
      obtain ⟨c0, Hc0⟩ : ∃ c, Hid (sb s 0 = c) := ⟨_, rfl⟩
      obtain ⟨c1, Hc1⟩ : ∃ c, Hid (sb s (s.size - 1) = c) := ⟨_, rfl⟩
      have ix0 : ∀ w, (Instr.index 9 (.string s) (.int .i64 (0 : Int))).run Tryd.prog w = .ok (.int .u8 (c0 : Int)) w := fun w => by rw [← Hc0.out]; exact sb_ix s 0 _ rfl (by rw [Hn.out]; omega) w
      have ix1 : ∀ w, (Instr.index 9 (.string s) (.int .i64 ((s.size : Int) - 1))).run Tryd.prog w = .ok (.int .u8 (c1 : Int)) w := fun w => by rw [← Hc1.out]; exact sb_ix s (s.size - 1) _ (by rw [Hn.out]; omega) (by rw [Hn.out]; omega) w
      rw [Hc0.out, Hc1.out]
      clear Hc0 Hc1
      obtain ⟨b0, Hb0⟩ : ∃ b, Hid (evB nmB s s.size = b) := ⟨_, rfl⟩
      obtain ⟨b1, Hb1⟩ : ∃ b, Hid (nmE c0 = b) := ⟨_, rfl⟩
      obtain ⟨b2, Hb2⟩ : ∃ b, Hid (nmE c1 = b) := ⟨_, rfl⟩
      rw [Hb0.out, Hb1.out, Hb2.out]
      cases b0 with
      | false =>
        go_enter Tryd.func26, Tryd.ntmps26
        go_wp2_with (go_at_call 56; refine (everyName_n s hs _).mono ?_; rintro e w0 ⟨rfl, h0⟩; rw [h0, Hb0.out]; clear h0)
        go_ret
        exact ⟨rfl, rfl⟩
      | true =>
        cases b1 with
        | false =>
          go_enter Tryd.func26, Tryd.ntmps26
          go_wp2_with first
            | (go_at_call 56; refine (everyName_n s hs _).mono ?_; rintro e w0 ⟨rfl, h0⟩; rw [h0, Hb0.out]; clear h0)
            | (go_at_call 58; refine (isEnd_n c0 _).mono ?_; rintro e w0 ⟨rfl, h0⟩; rw [h0, Hb1.out]; clear h0)
          go_ret
          exact ⟨rfl, rfl⟩
        | true =>
          cases b2 with
          | false =>
            go_enter Tryd.func26, Tryd.ntmps26
            go_wp2_with first
              | (go_at_call 56; refine (everyName_n s hs _).mono ?_; rintro e w0 ⟨rfl, h0⟩; rw [h0, Hb0.out]; clear h0)
              | (go_at_call 58; refine (isEnd_n _ _).mono ?_; rintro e w0 ⟨rfl, h0⟩; rw [h0]; (first | rw [Hb1.out] | rw [Hb2.out]); clear h0)
            go_ret
            exact ⟨rfl, rfl⟩
          | true =>
            go_enter Tryd.func26, Tryd.ntmps26
            go_wp2_with first
              | (go_at_call 56; refine (everyName_n s hs _).mono ?_; rintro e w0 ⟨rfl, h0⟩; rw [h0, Hb0.out]; clear h0)
              | (go_at_call 58; refine (isEnd_n _ _).mono ?_; rintro e w0 ⟨rfl, h0⟩; rw [h0]; (first | rw [Hb1.out] | rw [Hb2.out]); clear h0)
            go_ret
            exact ⟨rfl, rfl⟩
theorem goodKey_n (s : ByteArray) (w : World) : Calls Tryd.prog 28 #[.string s] w fun e w' => e = .returned (.bool (gdK s)) ∧ w' = w := by
  obtain ⟨n, Hn⟩ : ∃ n, Hid (s.size = n) := ⟨_, rfl⟩
  by_cases h1 : n < 1
  · have EV : Hid (gdK s = false) := by
      unfold gdK
      rw [Hn.out, decide_eq_false (by omega)]
      exact (rfl : (_ : Bool) = _)
    have i1 : ¬ ((1 : Int) ≤ (s.size : Int)) := by rw [Hn.out]; omega
    rw [EV.out]
    go_enter Tryd.func28, Tryd.ntmps28
    go_wp2
    go_ret
    exact ⟨rfl, rfl⟩
  · have i1 : (1 : Int) ≤ (s.size : Int) := by rw [Hn.out]; omega
    by_cases h2 : 200 < n
    · have EV : Hid (gdK s = false) := by
        unfold gdK
        rw [Hn.out, decide_eq_false (by omega)]
        exact (rfl : (_ : Bool) = _)
      have i2 : ¬ ((s.size : Int) ≤ 200) := by rw [Hn.out]; omega
      rw [EV.out]
      go_enter Tryd.func28, Tryd.ntmps28
      go_wp2
      go_ret
      exact ⟨rfl, rfl⟩
    · have i2 : (s.size : Int) ≤ 200 := by rw [Hn.out]; omega
      have hs : s.size ≤ 281474976710656 := by rw [Hn.out]; omega
      have EV : Hid (gdK s = evB kyB s s.size) := by
        unfold gdK
        rw [decide_eq_true (by rw [Hn.out]; omega)]
        exact (rfl : (_ : Bool) = _)
      rw [EV.out]
      go_enter Tryd.func28, Tryd.ntmps28
      go_wp2_with (go_at_call 56; refine (everyKey_n s hs _).mono ?_; rintro e w0 ⟨rfl, h0⟩; rw [h0]; clear h0)
      go_ret
      exact ⟨rfl, rfl⟩
theorem goodId_n (a b c : Int) (w : World) : Calls Tryd.prog 30 #[.agg #[.int .i64 a, .int .i64 b, .int .i64 c]] w fun e w' => e = .returned (.bool (gdI a b c)) ∧ Hid (w' = w.alloc (.cells #[.int .i64 a, .int .i64 b, .int .i64 c] 23)) := by
  obtain ⟨t1, H1⟩ : ∃ t, Hid (tmT b = t) := ⟨_, rfl⟩
  obtain ⟨t2, H2⟩ : ∃ t, Hid (tmT c = t) := ⟨_, rfl⟩
  by_cases h1 : 0 ≤ a
  · by_cases h2 : a < 16
    · have EV : Hid (gdI a b c = (t1 && t2)) := by unfold gdI; rw [decide_eq_true ⟨h1, h2⟩, H1.out, H2.out]; exact (rfl : (_ : Bool) = _)
      rw [EV.out]
      cases t1 with
      | false =>
        go_enter Tryd.func30, Tryd.ntmps30
        go_wp2_with (go_at_call 61; refine (isTime_n _ _).mono ?_; rintro e w0 ⟨rfl, h0⟩; rw [h0, H1.out]; clear h0)
        go_ret
        exact ⟨rfl, rfl⟩
      | true =>
        go_enter Tryd.func30, Tryd.ntmps30
        go_wp2_with (go_at_call 61; refine (isTime_n _ _).mono ?_; rintro e w0 ⟨rfl, h0⟩; rw [h0]; (first | rw [H1.out] | rw [H2.out]); clear h0)
        go_ret
        exact ⟨rfl, rfl⟩
    · have EV : Hid (gdI a b c = false) := by unfold gdI; rw [decide_eq_false (by omega)]; exact (rfl : (_ : Bool) = _)
      rw [EV.out]
      go_enter Tryd.func30, Tryd.ntmps30
      go_wp2
      go_ret
      exact ⟨rfl, rfl⟩
  · have EV : Hid (gdI a b c = false) := by unfold gdI; rw [decide_eq_false (by omega)]; exact (rfl : (_ : Bool) = _)
    rw [EV.out]
    go_enter Tryd.func30, Tryd.ntmps30
    go_wp2
    go_ret
    exact ⟨rfl, rfl⟩
theorem refGoodId_n (a b c : Int) (w : World) : Calls Tryd.prog 31 #[.agg #[.int .i64 a, .int .i64 b, .int .i64 c]] w fun e w' => e = .returned (.bool (gdI a b c)) ∧ Hid (w' = w.alloc (.cells #[.int .i64 a, .int .i64 b, .int .i64 c] 23)) := by
  have EV : Hid (gdI a b c = decide (0 ≤ a ∧ a ≤ 15 ∧ 0 ≤ b ∧ b ≤ 1099511627776 ∧ 0 ≤ c ∧ c ≤ 1099511627776)) := by
    show gdI a b c = _
    unfold gdI tmT
    rw [← Bool.decide_and, ← Bool.decide_and]
    exact decide_eq_decide.2 (by omega)
  by_cases h1 : 0 ≤ a
  · by_cases h2 : a ≤ 15
    · by_cases h3 : 0 ≤ b
      · by_cases h4 : b ≤ 1099511627776
        · by_cases h5 : 0 ≤ c
          · by_cases h6 : c ≤ 1099511627776
            · rw [EV.out, decide_eq_true ⟨h1, h2, h3, h4, h5, h6⟩]
              go_enter Tryd.func31, Tryd.ntmps31
              go_wp2
              go_ret
              exact ⟨rfl, rfl⟩
            · rw [EV.out, decide_eq_false (fun h => h6 h.2.2.2.2.2)]
              go_enter Tryd.func31, Tryd.ntmps31
              go_wp2
              go_ret
              exact ⟨rfl, rfl⟩
          · rw [EV.out, decide_eq_false (fun h => h5 h.2.2.2.2.1)]
            go_enter Tryd.func31, Tryd.ntmps31
            go_wp2
            go_ret
            exact ⟨rfl, rfl⟩
        · rw [EV.out, decide_eq_false (fun h => h4 h.2.2.2.1)]
          go_enter Tryd.func31, Tryd.ntmps31
          go_wp2
          go_ret
          exact ⟨rfl, rfl⟩
      · rw [EV.out, decide_eq_false (fun h => h3 h.2.2.1)]
        go_enter Tryd.func31, Tryd.ntmps31
        go_wp2
        go_ret
        exact ⟨rfl, rfl⟩
    · rw [EV.out, decide_eq_false (fun h => h2 h.2.1)]
      go_enter Tryd.func31, Tryd.ntmps31
      go_wp2
      go_ret
      exact ⟨rfl, rfl⟩
  · rw [EV.out, decide_eq_false (fun h => h1 h.1)]
    go_enter Tryd.func31, Tryd.ntmps31
    go_wp2
    go_ret
    exact ⟨rfl, rfl⟩
end Go.Proofs.YtoegfckafnlknaaDoor
