/- Which bytes, names, keys and ids are good. -/
import Derived.Test.YtppibcambhmomaaDoorMh
import Derived.Test.YtppibcambhmomaaDoorMBa
import Derived.Deep.CutBlock
import Derived.Deep.DeepCutAuto
namespace Go.Proofs.YtppibcambhmomaaDoor
open Go.ChangeShapes Go.WideShapes Go.ChangeAt Go.RowKit
set_option maxRecDepth 20000
set_option linter.unusedVariables false
set_option linter.unusedSimpArgs false
/- a string's byte -/
def sb (s : ByteArray) (i : Nat) : Nat := (s.data.toList.getD i 0).toNat
theorem sb_lt (s : ByteArray) (i : Nat) : sb s i < 256 := UInt8.toNat_lt _
theorem sb_ix (s : ByteArray) (i : Nat) (z : Int) (hz : z = (i : Int)) (h : i < s.size) (w : World) : (Instr.index 9 (.string s) (.int .i64 z)).run Tryd.prog w = .ok (.int .u8 (sb s i : Nat)) w := by
  subst hz
  rw [run_index_string w _ _ _ _ Tryd.underlying9, dif_pos ⟨by omega, by omega⟩]
  have e : (s[((i : Int)).toNat]'(by simpa using h)).toNat = sb s i := by
    have h3 : i < s.data.size := h
    have e2 : s.data.toList.getD i 0 = s.data[i] := by
      rw [List.getD, Array.getElem?_toList, Array.getElem?_eq_getElem h3]
      rfl
    unfold sb
    rw [e2]
    rfl
  rw [e]
def nmE (c : Nat) : Bool := decide ((97 ≤ c ∧ c ≤ 122) ∨ (48 ≤ c ∧ c ≤ 57))
def nmB (c : Nat) : Bool := decide (((97 ≤ c ∧ c ≤ 122) ∨ (48 ≤ c ∧ c ≤ 57)) ∨ c = 45 ∨ c = 46)
def kyB (c : Nat) : Bool := decide (32 ≤ c ∧ c ≤ 126)
def dgB (c : Nat) : Bool := decide ((48 ≤ c ∧ c ≤ 57) ∨ (97 ≤ c ∧ c ≤ 102))
/- all the first i bytes -/
def evB (p : Nat → Bool) (s : ByteArray) (i : Nat) : Bool := (List.range i).all (fun j => p (sb s j))
theorem evB_zero (p : Nat → Bool) (s : ByteArray) : evB p s 0 = true := rfl
theorem evB_succ (p : Nat → Bool) (s : ByteArray) (i : Nat) : evB p s (i + 1) = (evB p s i && p (sb s i)) := by simp [evB, List.range_succ]
theorem evB_iff (p : Nat → Bool) (s : ByteArray) (i : Nat) : evB p s i = true ↔ ∀ j, j < i → p (sb s j) = true := by simp [evB]
theorem evB_false {p : Nat → Bool} {s : ByteArray} {i n : Nat} (hi : i < n) (h : p (sb s i) = false) : evB p s n = false := by
  rw [Bool.eq_false_iff]
  intro e
  have := (evB_iff p s n).1 e i hi
  rw [h] at this
  cases this
theorem isEnd_n (c : Nat) (w : World) : Calls Tryd.prog 91 #[.int .u8 (c : Int)] w fun e w' => e = .returned (.bool (nmE c)) ∧ w' = w := by
  by_cases h2 : (97 : Int) ≤ (c : Int)
  · skip
    by_cases h4 : (c : Int) ≤ 122
    · skip
      have EV : Hid (nmE c = true) := decide_eq_true (by omega)
      rw [EV.out]
      go_enter Tryd.func91, Tryd.ntmps91
      go_wp2
      go_ret
      exact ⟨rfl, rfl⟩
    · skip
      by_cases h6 : (48 : Int) ≤ (c : Int)
      · skip
        by_cases h8 : (c : Int) ≤ 57
        · skip
          have EV : Hid (nmE c = true) := decide_eq_true (by omega)
          rw [EV.out]
          go_enter Tryd.func91, Tryd.ntmps91
          go_wp2
          go_ret
          exact ⟨rfl, rfl⟩
        · skip
          have EV : Hid (nmE c = false) := decide_eq_false (by omega)
          rw [EV.out]
          go_enter Tryd.func91, Tryd.ntmps91
          go_wp2
          go_ret
          exact ⟨rfl, rfl⟩
      · skip
        have EV : Hid (nmE c = false) := decide_eq_false (by omega)
        rw [EV.out]
        go_enter Tryd.func91, Tryd.ntmps91
        go_wp2
        go_ret
        exact ⟨rfl, rfl⟩
  · skip
    by_cases h4 : (48 : Int) ≤ (c : Int)
    · skip
      by_cases h6 : (c : Int) ≤ 57
      · skip
        have EV : Hid (nmE c = true) := decide_eq_true (by omega)
        rw [EV.out]
        go_enter Tryd.func91, Tryd.ntmps91
        go_wp2
        go_ret
        exact ⟨rfl, rfl⟩
      · skip
        have EV : Hid (nmE c = false) := decide_eq_false (by omega)
        rw [EV.out]
        go_enter Tryd.func91, Tryd.ntmps91
        go_wp2
        go_ret
        exact ⟨rfl, rfl⟩
    · skip
      have EV : Hid (nmE c = false) := decide_eq_false (by omega)
      rw [EV.out]
      go_enter Tryd.func91, Tryd.ntmps91
      go_wp2
      go_ret
      exact ⟨rfl, rfl⟩
theorem isName_n (c : Nat) (w : World) : Calls Tryd.prog 90 #[.int .u8 (c : Int)] w fun e w' => e = .returned (.bool (nmB c)) ∧ w' = w := by
  rcases Bool.eq_false_or_eq_true (nmE c) with hE | hE
  · have EE : Hid (nmE c = true) := hE
    have EV : Hid (nmB c = true) := decide_eq_true (.inl (of_decide_eq_true hE))
    clear hE
    rw [EV.out]
    go_enter Tryd.func90, Tryd.ntmps90
    go_wp2_with (go_at_call 91; refine (isEnd_n c _).mono ?_; rintro e w0 ⟨rfl, h0⟩; rw [h0, EE.out]; clear h0)
    go_ret
    exact ⟨rfl, rfl⟩
  · have EE : Hid (nmE c = false) := hE
    have hq : ¬ ((97 ≤ c ∧ c ≤ 122) ∨ (48 ≤ c ∧ c ≤ 57)) := of_decide_eq_false hE
    clear hE
    by_cases h4 : c = 45
    · subst h4
      have EV : Hid (nmB 45 = true) := decide_eq_true (by omega)
      rw [EV.out]
      clear hq
      go_enter Tryd.func90, Tryd.ntmps90
      go_wp2_with (go_at_call 91; refine (isEnd_n 45 _).mono ?_; rintro e w0 ⟨rfl, h0⟩; rw [h0, EE.out]; clear h0)
      go_ret
      exact ⟨rfl, rfl⟩
    · by_cases h6 : c = 46
      · subst h6
        have EV : Hid (nmB 46 = true) := decide_eq_true (by omega)
        rw [EV.out]
        clear hq h4
        go_enter Tryd.func90, Tryd.ntmps90
        go_wp2_with (go_at_call 91; refine (isEnd_n 46 _).mono ?_; rintro e w0 ⟨rfl, h0⟩; rw [h0, EE.out]; clear h0)
        go_ret
        exact ⟨rfl, rfl⟩
      · have EV : Hid (nmB c = false) := decide_eq_false (by omega)
        have j4 : ¬ ((c : Int) = 45) := by omega
        have j6 : ¬ ((c : Int) = 46) := by omega
        rw [EV.out]
        clear hq h4 h6
        go_enter Tryd.func90, Tryd.ntmps90
        go_wp2_with (go_at_call 91; refine (isEnd_n c _).mono ?_; rintro e w0 ⟨rfl, h0⟩; rw [h0, EE.out]; clear h0)
        go_ret
        refine ⟨?_, rfl⟩
        simp [j4, j6]
theorem isKey_n (c : Nat) (w : World) : Calls Tryd.prog 92 #[.int .u8 (c : Int)] w fun e w' => e = .returned (.bool (kyB c)) ∧ w' = w := by
  by_cases h2 : (32 : Int) ≤ (c : Int)
  · skip
    by_cases h4 : (c : Int) ≤ 126
    · skip
      have EV : Hid (kyB c = true) := decide_eq_true (by omega)
      rw [EV.out]
      go_enter Tryd.func92, Tryd.ntmps92
      go_wp2
      go_ret
      exact ⟨rfl, rfl⟩
    · skip
      have EV : Hid (kyB c = false) := decide_eq_false (by omega)
      rw [EV.out]
      go_enter Tryd.func92, Tryd.ntmps92
      go_wp2
      go_ret
      exact ⟨rfl, rfl⟩
  · skip
    have EV : Hid (kyB c = false) := decide_eq_false (by omega)
    rw [EV.out]
    go_enter Tryd.func92, Tryd.ntmps92
    go_wp2
    go_ret
    exact ⟨rfl, rfl⟩
theorem isDig_n (c : Nat) (w : World) : Calls Tryd.prog 98 #[.int .u8 (c : Int)] w fun e w' => e = .returned (.bool (dgB c)) ∧ w' = w := by
  by_cases h2 : (48 : Int) ≤ (c : Int)
  · skip
    by_cases h4 : (c : Int) ≤ 57
    · skip
      have EV : Hid (dgB c = true) := decide_eq_true (by omega)
      rw [EV.out]
      go_enter Tryd.func98, Tryd.ntmps98
      go_wp2
      go_ret
      exact ⟨rfl, rfl⟩
    · skip
      by_cases h6 : (97 : Int) ≤ (c : Int)
      · skip
        by_cases h8 : (c : Int) ≤ 102
        · skip
          have EV : Hid (dgB c = true) := decide_eq_true (by omega)
          rw [EV.out]
          go_enter Tryd.func98, Tryd.ntmps98
          go_wp2
          go_ret
          exact ⟨rfl, rfl⟩
        · skip
          have EV : Hid (dgB c = false) := decide_eq_false (by omega)
          rw [EV.out]
          go_enter Tryd.func98, Tryd.ntmps98
          go_wp2
          go_ret
          exact ⟨rfl, rfl⟩
      · skip
        have EV : Hid (dgB c = false) := decide_eq_false (by omega)
        rw [EV.out]
        go_enter Tryd.func98, Tryd.ntmps98
        go_wp2
        go_ret
        exact ⟨rfl, rfl⟩
  · skip
    by_cases h4 : (97 : Int) ≤ (c : Int)
    · skip
      by_cases h6 : (c : Int) ≤ 102
      · skip
        have EV : Hid (dgB c = true) := decide_eq_true (by omega)
        rw [EV.out]
        go_enter Tryd.func98, Tryd.ntmps98
        go_wp2
        go_ret
        exact ⟨rfl, rfl⟩
      · skip
        have EV : Hid (dgB c = false) := decide_eq_false (by omega)
        rw [EV.out]
        go_enter Tryd.func98, Tryd.ntmps98
        go_wp2
        go_ret
        exact ⟨rfl, rfl⟩
    · skip
      have EV : Hid (dgB c = false) := decide_eq_false (by omega)
      rw [EV.out]
      go_enter Tryd.func98, Tryd.ntmps98
      go_wp2
      go_ret
      exact ⟨rfl, rfl⟩
theorem plain_n (c : Nat) (w : World) : Calls Tryd.prog 72 #[.int .u8 (c : Int)] w fun e w' => e = .returned (.bool (nmE c)) ∧ w' = w := by
  by_cases h2 : (97 : Int) ≤ (c : Int)
  · skip
    by_cases h4 : (c : Int) ≤ 122
    · skip
      have EV : Hid (nmE c = true) := decide_eq_true (by omega)
      rw [EV.out]
      go_enter Tryd.func72, Tryd.ntmps72
      go_wp2
      go_ret
      exact ⟨rfl, rfl⟩
    · skip
      by_cases h6 : (48 : Int) ≤ (c : Int)
      · skip
        by_cases h8 : (c : Int) ≤ 57
        · skip
          have EV : Hid (nmE c = true) := decide_eq_true (by omega)
          rw [EV.out]
          go_enter Tryd.func72, Tryd.ntmps72
          go_wp2
          go_ret
          exact ⟨rfl, rfl⟩
        · skip
          have EV : Hid (nmE c = false) := decide_eq_false (by omega)
          rw [EV.out]
          go_enter Tryd.func72, Tryd.ntmps72
          go_wp2
          go_ret
          exact ⟨rfl, rfl⟩
      · skip
        have EV : Hid (nmE c = false) := decide_eq_false (by omega)
        rw [EV.out]
        go_enter Tryd.func72, Tryd.ntmps72
        go_wp2
        go_ret
        exact ⟨rfl, rfl⟩
  · skip
    by_cases h4 : (48 : Int) ≤ (c : Int)
    · skip
      by_cases h6 : (c : Int) ≤ 57
      · skip
        have EV : Hid (nmE c = true) := decide_eq_true (by omega)
        rw [EV.out]
        go_enter Tryd.func72, Tryd.ntmps72
        go_wp2
        go_ret
        exact ⟨rfl, rfl⟩
      · skip
        have EV : Hid (nmE c = false) := decide_eq_false (by omega)
        rw [EV.out]
        go_enter Tryd.func72, Tryd.ntmps72
        go_wp2
        go_ret
        exact ⟨rfl, rfl⟩
    · skip
      have EV : Hid (nmE c = false) := decide_eq_false (by omega)
      rw [EV.out]
      go_enter Tryd.func72, Tryd.ntmps72
      go_wp2
      go_ret
      exact ⟨rfl, rfl⟩
theorem everyName_n (s : ByteArray) (hs : s.size ≤ 281474976710656) (w : World) : Calls Tryd.prog 89 #[.string s, .func (.func 90) #[] #[]] w fun e w' => e = .returned (.bool (evB nmB s s.size)) ∧ w' = w := by
  obtain ⟨n, Hn⟩ : ∃ n, Hid (s.size = n) := ⟨_, rfl⟩
  rw [Hn.out] at hs
  go_enter Tryd.func89, Tryd.ntmps89
  go_wp2
  rw [Hn.out]
  go_loop [8] (fun ti => ∃ i : Nat, i ≤ n ∧ ti = .int .i64 (i : Int) ∧ Hid (evB nmB s i = true)) (fun ti => n - (intOf ti).toNat)
  case atStart => exact ⟨0, by omega, rfl, evB_zero _ _⟩
  case round =>
    obtain ⟨i, hi, rfl, HI⟩ := hrel
    by_cases hlt : i < n
    · have i1 : (i : Int) < (n : Int) := by omega
      obtain ⟨c, Hc⟩ : ∃ c, Hid (sb s i = c) := ⟨_, rfl⟩
      have ix : ∀ w, (Instr.index 9 (.string s) (.int .i64 (i : Int))).run Tryd.prog w = .ok (.int .u8 (c : Int)) w := fun w => by rw [← Hc.out]; exact sb_ix s i _ rfl (by rw [Hn.out]; exact hlt) w
      rcases Bool.eq_false_or_eq_true (nmB c) with hp | hp
      · have HP : Hid (nmB c = true) := hp
        clear hp
        go_wp2_with (go_at_call 90; refine (isName_n c _).mono ?_; rintro e w0 ⟨rfl, h0⟩; rw [h0, HP.out]; clear h0)
        go_round
        case rel => exact ⟨i + 1, by omega, by go_num, by rw [evB_succ, HI.out, Hc.out, HP.out]; rfl⟩
        case measure => simp [intOf]; omega
      · have HP : Hid (nmB c = false) := hp
        have FF : Hid (evB nmB s n = false) := evB_false hlt (by rw [Hc.out]; exact HP.out)
        clear hp
        go_wp2_with (go_at_call 90; refine (isName_n c _).mono ?_; rintro e w0 ⟨rfl, h0⟩; rw [h0, HP.out]; clear h0)
        go_ret
        rw [Hn.out, FF.out]
        exact ⟨rfl, rfl⟩
    · obtain rfl : i = n := by omega
      go_wp2
      go_ret
      rw [Hn.out, HI.out]
      exact ⟨rfl, rfl⟩
theorem everyKey_n (s : ByteArray) (hs : s.size ≤ 281474976710656) (w : World) : Calls Tryd.prog 89 #[.string s, .func (.func 92) #[] #[]] w fun e w' => e = .returned (.bool (evB kyB s s.size)) ∧ w' = w := by
  obtain ⟨n, Hn⟩ : ∃ n, Hid (s.size = n) := ⟨_, rfl⟩
  rw [Hn.out] at hs
  go_enter Tryd.func89, Tryd.ntmps89
  go_wp2
  rw [Hn.out]
  go_loop [8] (fun ti => ∃ i : Nat, i ≤ n ∧ ti = .int .i64 (i : Int) ∧ Hid (evB kyB s i = true)) (fun ti => n - (intOf ti).toNat)
  case atStart => exact ⟨0, by omega, rfl, evB_zero _ _⟩
  case round =>
    obtain ⟨i, hi, rfl, HI⟩ := hrel
    by_cases hlt : i < n
    · have i1 : (i : Int) < (n : Int) := by omega
      obtain ⟨c, Hc⟩ : ∃ c, Hid (sb s i = c) := ⟨_, rfl⟩
      have ix : ∀ w, (Instr.index 9 (.string s) (.int .i64 (i : Int))).run Tryd.prog w = .ok (.int .u8 (c : Int)) w := fun w => by rw [← Hc.out]; exact sb_ix s i _ rfl (by rw [Hn.out]; exact hlt) w
      rcases Bool.eq_false_or_eq_true (kyB c) with hp | hp
      · have HP : Hid (kyB c = true) := hp
        clear hp
        go_wp2_with (go_at_call 92; refine (isKey_n c _).mono ?_; rintro e w0 ⟨rfl, h0⟩; rw [h0, HP.out]; clear h0)
        go_round
        case rel => exact ⟨i + 1, by omega, by go_num, by rw [evB_succ, HI.out, Hc.out, HP.out]; rfl⟩
        case measure => simp [intOf]; omega
      · have HP : Hid (kyB c = false) := hp
        have FF : Hid (evB kyB s n = false) := evB_false hlt (by rw [Hc.out]; exact HP.out)
        clear hp
        go_wp2_with (go_at_call 92; refine (isKey_n c _).mono ?_; rintro e w0 ⟨rfl, h0⟩; rw [h0, HP.out]; clear h0)
        go_ret
        rw [Hn.out, FF.out]
        exact ⟨rfl, rfl⟩
    · obtain rfl : i = n := by omega
      go_wp2
      go_ret
      rw [Hn.out, HI.out]
      exact ⟨rfl, rfl⟩
theorem everyDig_n (s : ByteArray) (hs : s.size ≤ 281474976710656) (w : World) : Calls Tryd.prog 89 #[.string s, .func (.func 98) #[] #[]] w fun e w' => e = .returned (.bool (evB dgB s s.size)) ∧ w' = w := by
  obtain ⟨n, Hn⟩ : ∃ n, Hid (s.size = n) := ⟨_, rfl⟩
  rw [Hn.out] at hs
  go_enter Tryd.func89, Tryd.ntmps89
  go_wp2
  rw [Hn.out]
  go_loop [8] (fun ti => ∃ i : Nat, i ≤ n ∧ ti = .int .i64 (i : Int) ∧ Hid (evB dgB s i = true)) (fun ti => n - (intOf ti).toNat)
  case atStart => exact ⟨0, by omega, rfl, evB_zero _ _⟩
  case round =>
    obtain ⟨i, hi, rfl, HI⟩ := hrel
    by_cases hlt : i < n
    · have i1 : (i : Int) < (n : Int) := by omega
      obtain ⟨c, Hc⟩ : ∃ c, Hid (sb s i = c) := ⟨_, rfl⟩
      have ix : ∀ w, (Instr.index 9 (.string s) (.int .i64 (i : Int))).run Tryd.prog w = .ok (.int .u8 (c : Int)) w := fun w => by rw [← Hc.out]; exact sb_ix s i _ rfl (by rw [Hn.out]; exact hlt) w
      rcases Bool.eq_false_or_eq_true (dgB c) with hp | hp
      · have HP : Hid (dgB c = true) := hp
        clear hp
        go_wp2_with (go_at_call 98; refine (isDig_n c _).mono ?_; rintro e w0 ⟨rfl, h0⟩; rw [h0, HP.out]; clear h0)
        go_round
        case rel => exact ⟨i + 1, by omega, by go_num, by rw [evB_succ, HI.out, Hc.out, HP.out]; rfl⟩
        case measure => simp [intOf]; omega
      · have HP : Hid (dgB c = false) := hp
        have FF : Hid (evB dgB s n = false) := evB_false hlt (by rw [Hc.out]; exact HP.out)
        clear hp
        go_wp2_with (go_at_call 98; refine (isDig_n c _).mono ?_; rintro e w0 ⟨rfl, h0⟩; rw [h0, HP.out]; clear h0)
        go_ret
        rw [Hn.out, FF.out]
        exact ⟨rfl, rfl⟩
    · obtain rfl : i = n := by omega
      go_wp2
      go_ret
      rw [Hn.out, HI.out]
      exact ⟨rfl, rfl⟩
end Go.Proofs.YtppibcambhmomaaDoor
namespace Go.Proofs.YtppibcambhmomaaDoor
open Go.ChangeShapes Go.WideShapes Go.ChangeAt Go.RowKit
set_option maxRecDepth 20000
set_option linter.unusedVariables false
set_option linter.unusedSimpArgs false
def gdN (s : ByteArray) : Bool := decide (3 ≤ s.size ∧ s.size ≤ 63) && (evB nmB s s.size && (nmE (sb s 0) && nmE (sb s (s.size - 1))))
def gdK (s : ByteArray) : Bool := decide (1 ≤ s.size ∧ s.size ≤ 200) && evB kyB s s.size
def tmT (n : Int) : Bool := decide (0 ≤ n ∧ n ≤ 1099511627776)
def gdI (a b c : Int) : Bool := decide (0 ≤ a ∧ a < 16) && (tmT b && tmT c)
theorem isTime_n (n : Int) (w : World) : Calls Tryd.prog 53 #[.int .i64 n] w fun e w' => e = .returned (.bool (tmT n)) ∧ w' = w := by
  by_cases h1 : 0 ≤ n
  · by_cases h2 : n ≤ 1099511627776
    · have EV : Hid (tmT n = true) := decide_eq_true ⟨h1, h2⟩
      rw [EV.out]
      go_enter Tryd.func53, Tryd.ntmps53
      go_wp2
      go_ret
      exact ⟨rfl, rfl⟩
    · have EV : Hid (tmT n = false) := decide_eq_false (by omega)
      rw [EV.out]
      go_enter Tryd.func53, Tryd.ntmps53
      go_wp2
      go_ret
      exact ⟨rfl, rfl⟩
  · have EV : Hid (tmT n = false) := decide_eq_false (by omega)
    rw [EV.out]
    go_enter Tryd.func53, Tryd.ntmps53
    go_wp2
    go_ret
    exact ⟨rfl, rfl⟩
theorem goodBucket_n (s : ByteArray) (w : World) : Calls Tryd.prog 80 #[.string s] w fun e w' => e = .returned (.bool (gdN s)) ∧ w' = w := by
  obtain ⟨n, Hn⟩ : ∃ n, Hid (s.size = n) := ⟨_, rfl⟩
  by_cases h1 : n < 3
  · have EV : Hid (gdN s = false) := by
      unfold gdN
      rw [Hn.out, decide_eq_false (by omega)]
      exact (rfl : (_ : Bool) = _)
    have i1 : (n : Int) < 3 := by omega
    rw [EV.out]
    go_enter Tryd.func80, Tryd.ntmps80
    rw [← Hn.out] at i1
    go_wp2
    go_ret
    exact ⟨rfl, rfl⟩
  · by_cases h2 : 63 < n
    · have EV : Hid (gdN s = false) := by
        unfold gdN
        rw [Hn.out, decide_eq_false (by omega)]
        exact (rfl : (_ : Bool) = _)
      have i1 : ¬ ((s.size : Int) < 3) := by rw [Hn.out]; omega
      have i2 : (63 : Int) < (s.size : Int) := by rw [Hn.out]; omega
      rw [EV.out]
      go_enter Tryd.func80, Tryd.ntmps80
      go_wp2
      go_ret
      exact ⟨rfl, rfl⟩
    · have i1 : ¬ ((s.size : Int) < 3) := by rw [Hn.out]; omega
      have i2 : ¬ ((63 : Int) < (s.size : Int)) := by rw [Hn.out]; omega
      have hs : s.size ≤ 281474976710656 := by rw [Hn.out]; omega
      have EV : Hid (gdN s = (evB nmB s s.size && (nmE (sb s 0) && nmE (sb s (s.size - 1))))) := by
        unfold gdN
        rw [decide_eq_true (by rw [Hn.out]; omega)]
        exact (rfl : (_ : Bool) = _)
      rw [EV.out]
      obtain ⟨c0, Hc0⟩ : ∃ c, Hid (sb s 0 = c) := ⟨_, rfl⟩
      obtain ⟨c1, Hc1⟩ : ∃ c, Hid (sb s (s.size - 1) = c) := ⟨_, rfl⟩
      have ix0 : ∀ w, (Instr.index 9 (.string s) (.int .i64 (0 : Int))).run Tryd.prog w = .ok (.int .u8 (c0 : Int)) w := fun w => by rw [← Hc0.out]; exact sb_ix s 0 _ rfl (by rw [Hn.out]; omega) w
      have ix1 : ∀ w, (Instr.index 9 (.string s) (.int .i64 ((s.size : Int) - 1))).run Tryd.prog w = .ok (.int .u8 (c1 : Int)) w := fun w => by rw [← Hc1.out]; exact sb_ix s (s.size - 1) _ (by rw [Hn.out]; omega) (by rw [Hn.out]; omega) w
      rw [Hc0.out, Hc1.out]
      clear Hc0 Hc1
      obtain ⟨b0, Hb0⟩ : ∃ b, Hid (evB nmB s s.size = b) := ⟨_, rfl⟩
      obtain ⟨b1, Hb1⟩ : ∃ b, Hid (nmE c0 = b) := ⟨_, rfl⟩
      obtain ⟨b2, Hb2⟩ : ∃ b, Hid (nmE c1 = b) := ⟨_, rfl⟩
      rw [Hb0.out, Hb1.out, Hb2.out]
      cases b0 with
      | false =>
        go_enter Tryd.func80, Tryd.ntmps80
        go_wp2_with (go_at_call 89; refine (everyName_n s hs _).mono ?_; rintro e w0 ⟨rfl, h0⟩; rw [h0, Hb0.out]; clear h0)
        go_ret
        exact ⟨rfl, rfl⟩
      | true =>
        cases b1 with
        | false =>
          go_enter Tryd.func80, Tryd.ntmps80
          go_wp2_with first
            | (go_at_call 89; refine (everyName_n s hs _).mono ?_; rintro e w0 ⟨rfl, h0⟩; rw [h0, Hb0.out]; clear h0)
            | (go_at_call 91; refine (isEnd_n c0 _).mono ?_; rintro e w0 ⟨rfl, h0⟩; rw [h0, Hb1.out]; clear h0)
          go_ret
          exact ⟨rfl, rfl⟩
        | true =>
          cases b2 with
          | false =>
            go_enter Tryd.func80, Tryd.ntmps80
            go_wp2_with first
              | (go_at_call 89; refine (everyName_n s hs _).mono ?_; rintro e w0 ⟨rfl, h0⟩; rw [h0, Hb0.out]; clear h0)
              | (go_at_call 91; refine (isEnd_n _ _).mono ?_; rintro e w0 ⟨rfl, h0⟩; rw [h0]; (first | rw [Hb1.out] | rw [Hb2.out]); clear h0)
            go_ret
            exact ⟨rfl, rfl⟩
          | true =>
            go_enter Tryd.func80, Tryd.ntmps80
            go_wp2_with first
              | (go_at_call 89; refine (everyName_n s hs _).mono ?_; rintro e w0 ⟨rfl, h0⟩; rw [h0, Hb0.out]; clear h0)
              | (go_at_call 91; refine (isEnd_n _ _).mono ?_; rintro e w0 ⟨rfl, h0⟩; rw [h0]; (first | rw [Hb1.out] | rw [Hb2.out]); clear h0)
            go_ret
            exact ⟨rfl, rfl⟩
theorem goodKey_n (s : ByteArray) (w : World) : Calls Tryd.prog 81 #[.string s] w fun e w' => e = .returned (.bool (gdK s)) ∧ w' = w := by
  obtain ⟨n, Hn⟩ : ∃ n, Hid (s.size = n) := ⟨_, rfl⟩
  by_cases h1 : n < 1
  · have EV : Hid (gdK s = false) := by
      unfold gdK
      rw [Hn.out, decide_eq_false (by omega)]
      exact (rfl : (_ : Bool) = _)
    have i1 : ¬ ((1 : Int) ≤ (s.size : Int)) := by rw [Hn.out]; omega
    rw [EV.out]
    go_enter Tryd.func81, Tryd.ntmps81
    go_wp2
    go_ret
    exact ⟨rfl, rfl⟩
  · have i1 : (1 : Int) ≤ (s.size : Int) := by rw [Hn.out]; omega
    by_cases h2 : 200 < n
    · have EV : Hid (gdK s = false) := by
        unfold gdK
        rw [Hn.out, decide_eq_false (by omega)]
        exact (rfl : (_ : Bool) = _)
      have i2 : ¬ ((s.size : Int) ≤ 200) := by rw [Hn.out]; omega
      rw [EV.out]
      go_enter Tryd.func81, Tryd.ntmps81
      go_wp2
      go_ret
      exact ⟨rfl, rfl⟩
    · have i2 : (s.size : Int) ≤ 200 := by rw [Hn.out]; omega
      have hs : s.size ≤ 281474976710656 := by rw [Hn.out]; omega
      have EV : Hid (gdK s = evB kyB s s.size) := by
        unfold gdK
        rw [decide_eq_true (by rw [Hn.out]; omega)]
        exact (rfl : (_ : Bool) = _)
      rw [EV.out]
      go_enter Tryd.func81, Tryd.ntmps81
      go_wp2_with (go_at_call 89; refine (everyKey_n s hs _).mono ?_; rintro e w0 ⟨rfl, h0⟩; rw [h0]; clear h0)
      go_ret
      exact ⟨rfl, rfl⟩
theorem goodId_n (a b c : Int) (w : World) : Calls Tryd.prog 30 #[.agg #[.int .i64 a,.int .i64 b,.int .i64 c]] w fun e w' => e = .returned (.bool (gdI a b c)) ∧ Hid (w' = w.alloc (.cells #[.int .i64 a,.int .i64 b,.int .i64 c] 23)) := by
  obtain ⟨t1, H1⟩ : ∃ t, Hid (tmT b = t) := ⟨_, rfl⟩
  obtain ⟨t2, H2⟩ : ∃ t, Hid (tmT c = t) := ⟨_, rfl⟩
  by_cases h1 : 0 ≤ a
  · by_cases h2 : a < 16
    · have EV : Hid (gdI a b c = (t1 && t2)) := by unfold gdI; rw [decide_eq_true ⟨h1, h2⟩, H1.out, H2.out]; exact (rfl : (_ : Bool) = _)
      rw [EV.out]
      cases t1 with
      | false =>
        go_enter Tryd.func30, Tryd.ntmps30
        go_wp2_with (go_at_call 53; refine (isTime_n _ _).mono ?_; rintro e w0 ⟨rfl, h0⟩; rw [h0, H1.out]; clear h0)
        go_ret
        exact ⟨rfl, rfl⟩
      | true =>
        go_enter Tryd.func30, Tryd.ntmps30
        go_wp2_with (go_at_call 53; refine (isTime_n _ _).mono ?_; rintro e w0 ⟨rfl, h0⟩; rw [h0]; (first | rw [H1.out] | rw [H2.out]); clear h0)
        go_ret
        exact ⟨rfl, rfl⟩
    · have EV : Hid (gdI a b c = false) := by unfold gdI; rw [decide_eq_false (by omega)]; exact (rfl : (_ : Bool) = _)
      rw [EV.out]
      go_enter Tryd.func30, Tryd.ntmps30
      go_wp2
      go_ret
      exact ⟨rfl, rfl⟩
  · have EV : Hid (gdI a b c = false) := by unfold gdI; rw [decide_eq_false (by omega)]; exact (rfl : (_ : Bool) = _)
    rw [EV.out]
    go_enter Tryd.func30, Tryd.ntmps30
    go_wp2
    go_ret
    exact ⟨rfl, rfl⟩
theorem refGoodId_n (a b c : Int) (w : World) : Calls Tryd.prog 20 #[.agg #[.int .i64 a,.int .i64 b,.int .i64 c]] w fun e w' => e = .returned (.bool (gdI a b c)) ∧ Hid (w' = w.alloc (.cells #[.int .i64 a,.int .i64 b,.int .i64 c] 23)) := by
  have EV : Hid (gdI a b c = decide (0 ≤ a ∧ a ≤ 15 ∧ 0 ≤ b ∧ b ≤ 1099511627776 ∧ 0 ≤ c ∧ c ≤ 1099511627776)) := by
    show gdI a b c = _
    unfold gdI tmT
    rw [← Bool.decide_and, ← Bool.decide_and]
    exact decide_eq_decide.2 (by omega)
  by_cases h1 : 0 ≤ a
  · by_cases h2 : a ≤ 15
    · by_cases h3 : 0 ≤ b
      · by_cases h4 : b ≤ 1099511627776
        · by_cases h5 : 0 ≤ c
          · by_cases h6 : c ≤ 1099511627776
            · rw [EV.out, decide_eq_true ⟨h1, h2, h3, h4, h5, h6⟩]
              go_enter Tryd.func20, Tryd.ntmps20
              go_wp2
              go_ret
              exact ⟨rfl, rfl⟩
            · rw [EV.out, decide_eq_false (fun h => h6 h.2.2.2.2.2)]
              go_enter Tryd.func20, Tryd.ntmps20
              go_wp2
              go_ret
              exact ⟨rfl, rfl⟩
          · rw [EV.out, decide_eq_false (fun h => h5 h.2.2.2.2.1)]
            go_enter Tryd.func20, Tryd.ntmps20
            go_wp2
            go_ret
            exact ⟨rfl, rfl⟩
        · rw [EV.out, decide_eq_false (fun h => h4 h.2.2.2.1)]
          go_enter Tryd.func20, Tryd.ntmps20
          go_wp2
          go_ret
          exact ⟨rfl, rfl⟩
      · rw [EV.out, decide_eq_false (fun h => h3 h.2.2.1)]
        go_enter Tryd.func20, Tryd.ntmps20
        go_wp2
        go_ret
        exact ⟨rfl, rfl⟩
    · rw [EV.out, decide_eq_false (fun h => h2 h.2.1)]
      go_enter Tryd.func20, Tryd.ntmps20
      go_wp2
      go_ret
      exact ⟨rfl, rfl⟩
  · rw [EV.out, decide_eq_false (fun h => h1 h.1)]
    go_enter Tryd.func20, Tryd.ntmps20
    go_wp2
    go_ret
    exact ⟨rfl, rfl⟩
end Go.Proofs.YtppibcambhmomaaDoor
namespace Go.Proofs.YtppibcambhmomaaDoor
open Go.ChangeShapes Go.WideShapes Go.ChangeAt Go.RowKit
set_option maxRecDepth 20000
set_option linter.unusedVariables false
set_option linter.unusedSimpArgs false
def rin (n c i : Nat) : Bool := nmE c || decide (0 < i ∧ i + 1 < n ∧ (c = 45 ∨ c = 46))
def rbk (s : ByteArray) (i : Nat) : Bool := decide (3 ≤ s.size ∧ s.size ≤ 63) && (List.range i).all (fun j => rin s.size (sb s j) j)
theorem rbk_succ (s : ByteArray) (i : Nat) : rbk s (i + 1) = (rbk s i && rin s.size (sb s i) i) := by simp [rbk, List.range_succ, Bool.and_assoc]
theorem rbk_end (s : ByteArray) : rbk s s.size = gdN s := by
  unfold rbk gdN
  by_cases h : 3 ≤ s.size ∧ s.size ≤ 63
  · rw [decide_eq_true h, Bool.true_and, Bool.true_and]
    rw [Bool.eq_iff_iff]
    simp only [List.all_eq_true, List.mem_range, Bool.and_eq_true, evB_iff]
    constructor
    · intro H
      refine ⟨fun j hj => ?_, ?_, ?_⟩
      · have := H j hj
        simp only [rin, Bool.or_eq_true, nmE, nmB, decide_eq_true_eq] at this ⊢
        rcases this with h | h
        · exact .inl h
        · exact .inr h.2.2
      · have := H 0 (by omega)
        simp only [rin, Bool.or_eq_true, decide_eq_true_eq] at this
        rcases this with h | h
        · exact h
        · omega
      · have := H (s.size - 1) (by omega)
        simp only [rin, Bool.or_eq_true, decide_eq_true_eq] at this
        rcases this with h | h
        · exact h
        · omega
    · rintro ⟨H, h0, h1⟩ j hj
      simp only [rin, Bool.or_eq_true, decide_eq_true_eq]
      by_cases e0 : j = 0
      · subst e0; exact .inl h0
      · by_cases e1 : j + 1 = s.size
        · have : j = s.size - 1 := by omega
          rw [this]; exact .inl h1
        · have := H j hj
          simp only [nmB, decide_eq_true_eq] at this
          rcases this with h | h
          · exact .inl (decide_eq_true h)
          · exact .inr ⟨by omega, by omega, h⟩
  · rw [decide_eq_false h, Bool.false_and, Bool.false_and]
def rky (s : ByteArray) (i : Nat) : Bool := decide (1 ≤ s.size ∧ s.size ≤ 200) && evB kyB s i
theorem rky_succ (s : ByteArray) (i : Nat) : rky s (i + 1) = (rky s i && kyB (sb s i)) := by simp [rky, evB_succ, Bool.and_assoc]
theorem refBucket_n (s : ByteArray) (hs : s.size ≤ 281474976710656) (w : World) : Calls Tryd.prog 58 #[.string s] w fun e w' => e = .returned (.bool (gdN s)) ∧ w' = w := by
  obtain ⟨n, Hn⟩ : ∃ n, Hid (s.size = n) := ⟨_, rfl⟩
  have hs0 : (s.size : Int) ≤ 281474976710656 := by omega
  rw [Hn.out] at hs
  have ST : rbk s 0 = decide (3 ≤ n ∧ n ≤ 63) := by simp [rbk, evB_zero, Hn.out]
  rcases (show ¬ ((3 : Int) ≤ (n : Int)) ∨ ((3 : Int) ≤ (n : Int) ∧ ¬ ((n : Int) ≤ 63)) ∨ ((3 : Int) ≤ (n : Int) ∧ (n : Int) ≤ 63) by omega) with h1 | ⟨h1, h2⟩ | ⟨h1, h2⟩
  all_goals
    first
      | have S0 : Hid (rbk s 0 = true) := ST.trans (decide_eq_true (by omega))
      | have S0 : Hid (rbk s 0 = false) := ST.trans (decide_eq_false (by omega))
    rw [← Hn.out] at h1
    try rw [← Hn.out] at h2
    clear ST
    go_enter Tryd.func58, Tryd.ntmps58
    go_upto_region 2 with (fail)
    clear h1
    try clear h2
    go_wp2
    go_loop [3, 4] (fun t3 t4 => ∃ i : Nat, i ≤ n ∧ t4 = .int .i64 (i : Int) ∧ t3 = .bool (rbk s i)) (fun _ t4 => n - (intOf t4).toNat)
    case atStart => exact ⟨0, by omega, rfl, by rw [S0.out]⟩
    case round =>
      obtain ⟨i, hi, rfl, rfl⟩ := hrel
      clear S0
      have LN : (s.size : Int) = (n : Int) := by rw [Hn.out]
      by_cases hlt : i < n
      · have i1 : (i : Int) < (s.size : Int) := by rw [Hn.out]; omega
        have i2 : i < n := hlt
        obtain ⟨c, Hc⟩ : ∃ c, Hid (sb s i = c) := ⟨_, rfl⟩
        have ix : ∀ w, (Instr.index 9 (.string s) (.int .i64 (i : Int))).run Tryd.prog w = .ok (.int .u8 (c : Int)) w := fun w => by rw [← Hc.out]; exact sb_ix s i _ rfl (by rw [Hn.out]; exact hlt) w
        have SU : Hid (rbk s (i + 1) = (rbk s i && rin n c i)) := by rw [← Hc.out, ← Hn.out]; exact rbk_succ s i
        clear LN
        rcases Bool.eq_false_or_eq_true (rbk s i) with hb | hb
        · have HB : Hid (rbk s i = true) := hb
          clear hb
          rw [HB.out]
          rcases Bool.eq_false_or_eq_true (nmE c) with hE | hE
          · have PE : Hid (nmE c = true) := hE
            have RV : Hid (rin n c i = true) := by show _ = _; unfold rin; rw [hE]; rfl
            clear hE
            go_wp2_with (go_at_call 72; refine (plain_n c _).mono ?_; rintro e w0 ⟨rfl, h0⟩; rw [h0, PE.out]; clear h0)
            go_round
            case rel => exact ⟨i + 1, by omega, by go_num, by rw [SU.out, HB.out, RV.out]; rfl⟩
            case measure => simp [intOf]; omega
          · have PE : Hid (nmE c = false) := hE
            have RI : rin n c i = decide (0 < i ∧ i + 1 < n ∧ (c = 45 ∨ c = 46)) := by unfold rin; rw [hE, Bool.false_or]
            clear hE
            by_cases j1 : (0 : Int) < (i : Int)
            · by_cases j2 : (i : Int) < (s.size : Int) - 1
              · have j3 : i + 1 < n := by have e : (s.size : Int) = (n : Int) := by rw [Hn.out]
                                          omega
                by_cases j4 : c = 45
                · have RV : Hid (rin n c i = true) := RI.trans (decide_eq_true (by omega))
                  clear RI j3
                  subst j4
                  go_wp2_with (go_at_call 72; refine (plain_n 45 _).mono ?_; rintro e w0 ⟨rfl, h0⟩; rw [h0, PE.out]; clear h0)
                  go_round
                  case rel => exact ⟨i + 1, by omega, by go_num, by rw [SU.out, HB.out, RV.out]; rfl⟩
                  case measure => simp [intOf]; omega
                · by_cases j5 : c = 46
                  · have RV : Hid (rin n c i = true) := RI.trans (decide_eq_true (by omega))
                    clear RI j3 j4
                    subst j5
                    go_wp2_with (go_at_call 72; refine (plain_n 46 _).mono ?_; rintro e w0 ⟨rfl, h0⟩; rw [h0, PE.out]; clear h0)
                    go_round
                    case rel => exact ⟨i + 1, by omega, by go_num, by rw [SU.out, HB.out, RV.out]; rfl⟩
                    case measure => simp [intOf]; omega
                  · have RV : Hid (rin n c i = false) := RI.trans (decide_eq_false (by omega))
                    have J4 : ¬ ((c : Int) = 45) := by omega
                    have J6 : ¬ ((c : Int) = 46) := by omega
                    clear RI j3 j4 j5
                    go_wp2_with (go_at_call 72; refine (plain_n c _).mono ?_; rintro e w0 ⟨rfl, h0⟩; rw [h0, PE.out]; clear h0)
                    go_round
                    case rel => exact ⟨i + 1, by omega, by go_num, by rw [SU.out, HB.out, RV.out]; simp [J4, J6]⟩
                    case measure => simp [intOf]; omega
              · have RV : Hid (rin n c i = false) := RI.trans (decide_eq_false (by have e : (s.size : Int) = (n : Int) := by rw [Hn.out]
                                                                                   omega))
                clear RI
                go_wp2_with (go_at_call 72; refine (plain_n c _).mono ?_; rintro e w0 ⟨rfl, h0⟩; rw [h0, PE.out]; clear h0)
                go_round
                case rel => exact ⟨i + 1, by omega, by go_num, by rw [SU.out, HB.out, RV.out]; rfl⟩
                case measure => simp [intOf]; omega
            · have RV : Hid (rin n c i = false) := RI.trans (decide_eq_false (by omega))
              clear RI
              go_wp2_with (go_at_call 72; refine (plain_n c _).mono ?_; rintro e w0 ⟨rfl, h0⟩; rw [h0, PE.out]; clear h0)
              go_round
              case rel => exact ⟨i + 1, by omega, by go_num, by rw [SU.out, HB.out, RV.out]; rfl⟩
              case measure => simp [intOf]; omega
        · have HB : Hid (rbk s i = false) := hb
          clear hb
          rw [HB.out]
          go_wp2
          go_round
          case rel => exact ⟨i + 1, by omega, by go_num, by rw [SU.out, HB.out, Bool.false_and]⟩
          case measure => simp [intOf]; omega
      · obtain rfl : i = n := by omega
        have i1 : ¬ ((i : Int) < (s.size : Int)) := by rw [Hn.out]; omega
        go_wp2
        go_ret
        rw [← rbk_end, Hn.out]
        exact ⟨rfl, rfl⟩
theorem refKey_n (s : ByteArray) (hs : s.size ≤ 281474976710656) (w : World) : Calls Tryd.prog 59 #[.string s] w fun e w' => e = .returned (.bool (gdK s)) ∧ w' = w := by
  obtain ⟨n, Hn⟩ : ∃ n, Hid (s.size = n) := ⟨_, rfl⟩
  have hs0 : (s.size : Int) ≤ 281474976710656 := by omega
  rw [Hn.out] at hs
  have ST : rky s 0 = decide (1 ≤ n ∧ n ≤ 200) := by simp [rky, evB_zero, Hn.out]
  rcases (show ¬ ((1 : Int) ≤ (n : Int)) ∨ ((1 : Int) ≤ (n : Int) ∧ ¬ ((n : Int) ≤ 200)) ∨ ((1 : Int) ≤ (n : Int) ∧ (n : Int) ≤ 200) by omega) with h1 | ⟨h1, h2⟩ | ⟨h1, h2⟩
  all_goals
    first
      | have S0 : Hid (rky s 0 = true) := ST.trans (decide_eq_true (by omega))
      | have S0 : Hid (rky s 0 = false) := ST.trans (decide_eq_false (by omega))
    rw [← Hn.out] at h1
    try rw [← Hn.out] at h2
    clear ST
    go_enter Tryd.func59, Tryd.ntmps59
    go_upto_region 2 with (fail)
    clear h1
    try clear h2
    go_wp2
    go_loop [3, 4] (fun t3 t4 => ∃ i : Nat, i ≤ n ∧ t4 = .int .i64 (i : Int) ∧ t3 = .bool (rky s i)) (fun _ t4 => n - (intOf t4).toNat)
    case atStart => exact ⟨0, by omega, rfl, by rw [S0.out]⟩
    case round =>
      obtain ⟨i, hi, rfl, rfl⟩ := hrel
      clear S0
      have LN : (s.size : Int) = (n : Int) := by rw [Hn.out]
      by_cases hlt : i < n
      · have i1 : (i : Int) < (s.size : Int) := by rw [Hn.out]; omega
        have i2 : i < n := hlt
        obtain ⟨c, Hc⟩ : ∃ c, Hid (sb s i = c) := ⟨_, rfl⟩
        have ix : ∀ w, (Instr.index 9 (.string s) (.int .i64 (i : Int))).run Tryd.prog w = .ok (.int .u8 (c : Int)) w := fun w => by rw [← Hc.out]; exact sb_ix s i _ rfl (by rw [Hn.out]; exact hlt) w
        have SU : Hid (rky s (i + 1) = (rky s i && kyB c)) := by rw [← Hc.out]; exact rky_succ s i
        clear LN
        rcases Bool.eq_false_or_eq_true (rky s i) with hb | hb
        · have HB : Hid (rky s i = true) := hb
          clear hb
          rw [HB.out]
          by_cases j1 : (32 : Int) ≤ (c : Int)
          · by_cases j2 : (c : Int) ≤ 126
            · have RV : Hid (kyB c = true) := decide_eq_true (by omega)
              go_wp2
              go_round
              case rel => exact ⟨i + 1, by omega, by go_num, by rw [SU.out, HB.out, RV.out]; rfl⟩
              case measure => simp [intOf]; omega
            · have RV : Hid (kyB c = false) := decide_eq_false (by omega)
              go_wp2
              go_round
              case rel => exact ⟨i + 1, by omega, by go_num, by rw [SU.out, HB.out, RV.out]; rfl⟩
              case measure => simp [intOf]; omega
          · have RV : Hid (kyB c = false) := decide_eq_false (by omega)
            go_wp2
            go_round
            case rel => exact ⟨i + 1, by omega, by go_num, by rw [SU.out, HB.out, RV.out]; rfl⟩
            case measure => simp [intOf]; omega
        · have HB : Hid (rky s i = false) := hb
          clear hb
          rw [HB.out]
          go_wp2
          go_round
          case rel => exact ⟨i + 1, by omega, by go_num, by rw [SU.out, HB.out, Bool.false_and]⟩
          case measure => simp [intOf]; omega
      · obtain rfl : i = n := by omega
        have i1 : ¬ ((i : Int) < (s.size : Int)) := by rw [Hn.out]; omega
        go_wp2
        go_ret
        rw [show gdK s = rky s s.size from rfl, Hn.out]
        exact ⟨rfl, rfl⟩
end Go.Proofs.YtppibcambhmomaaDoor
