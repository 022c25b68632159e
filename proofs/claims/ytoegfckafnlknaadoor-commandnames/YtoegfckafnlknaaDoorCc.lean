/- The document's good names and keys. -/
import Derived.Test.YtoegfckafnlknaaDoorCb
import Derived.Deep.CutBlock
import Derived.Deep.DeepCutAuto
namespace Go.Proofs.YtoegfckafnlknaaDoor
open Go.ChangeShapes Go.WideShapes Go.ChangeAt Go.RowKit
set_option maxRecDepth 20000
set_option linter.unusedVariables false
set_option linter.unusedSimpArgs false
def rin (n c i : Nat) : Bool := nmE c || decide (0 < i ∧ i + 1 < n ∧ (c = 45 ∨ c = 46))
def rbk (s : ByteArray) (i : Nat) : Bool := decide (3 ≤ s.size ∧ s.size ≤ 63) && (List.range i).all (fun j => rin s.size (sb s j) j)
theorem rbk_succ (s : ByteArray) (i : Nat) : rbk s (i + 1) = (rbk s i && rin s.size (sb s i) i) := by simp [rbk, List.range_succ, Bool.and_assoc]
theorem rbk_end (s : ByteArray) : rbk s s.size = gdN s := by
  unfold rbk gdN
  by_cases h : 3 ≤ s.size ∧ s.size ≤ 63
  · rw [decide_eq_true h, Bool.true_and, Bool.true_and]
    rw [Bool.eq_iff_iff]
    simp only [List.all_eq_true, List.mem_range, Bool.and_eq_true, evB_iff]
    constructor
    · intro H
      refine ⟨fun j hj => ?_, ?_, ?_⟩
      · have := H j hj
        simp only [rin, Bool.or_eq_true, nmE, nmB, decide_eq_true_eq] at this ⊢
        rcases this with h | h
        · exact .inl h
        · exact .inr h.2.2
      · have := H 0 (by omega)
        simp only [rin, Bool.or_eq_true, decide_eq_true_eq] at this
        rcases this with h | h
        · exact h
        · omega
      · have := H (s.size - 1) (by omega)
        simp only [rin, Bool.or_eq_true, decide_eq_true_eq] at this
        rcases this with h | h
        · exact h
        · omega
    · rintro ⟨H, h0, h1⟩ j hj
      simp only [rin, Bool.or_eq_true, decide_eq_true_eq]
      by_cases e0 : j = 0
      · subst e0; exact .inl h0
      · by_cases e1 : j + 1 = s.size
        · have : j = s.size - 1 := by omega
          rw [this]; exact .inl h1
        · have := H j hj
          simp only [nmB, decide_eq_true_eq] at this
          rcases this with h | h
          · exact .inl (decide_eq_true h)
          · exact .inr ⟨by omega, by omega, h⟩
  · rw [decide_eq_false h, Bool.false_and, Bool.false_and]
def rky (s : ByteArray) (i : Nat) : Bool := decide (1 ≤ s.size ∧ s.size ≤ 200) && evB kyB s i
theorem rky_succ (s : ByteArray) (i : Nat) : rky s (i + 1) = (rky s i && kyB (sb s i)) := by simp [rky, evB_succ, Bool.and_assoc]
theorem refBucket_n (s : ByteArray) (hs : s.size ≤ 281474976710656) (w : World) : Calls Tryd.prog 27 #[.string s] w fun e w' => e = .returned (.bool (gdN s)) ∧ w' = w := by
  obtain ⟨n, Hn⟩ : ∃ n, Hid (s.size = n) := ⟨_, rfl⟩
  have hs0 : (s.size : Int) ≤ 281474976710656 := by omega
  rw [Hn.out] at hs
  have ST : rbk s 0 = decide (3 ≤ n ∧ n ≤ 63) := by simp [rbk, evB_zero, Hn.out]
  rcases (show ¬ ((3 : Int) ≤ (n : Int)) ∨ ((3 : Int) ≤ (n : Int) ∧ ¬ ((n : Int) ≤ 63)) ∨ ((3 : Int) ≤ (n : Int) ∧ (n : Int) ≤ 63) by omega) with h1 | ⟨h1, h2⟩ | ⟨h1, h2⟩
  all_goals
    first
      | have S0 : Hid (rbk s 0 = true) := ST.trans (decide_eq_true (by omega))
      | have S0 : Hid (rbk s 0 = false) := ST.trans (decide_eq_false (by omega))
    rw [← Hn.out] at h1
    try rw [← Hn.out] at h2
    clear ST
    go_enter Tryd.func27, Tryd.ntmps27
    go_upto_region 2 with (fail)
    clear h1
    try clear h2
    go_wp2
    go_loop [3, 4] (fun t3 t4 => ∃ i : Nat, i ≤ n ∧ t4 = .int .i64 (i : Int) ∧ t3 = .bool (rbk s i)) (fun _ t4 => n - (intOf t4).toNat)
    case atStart => exact ⟨0, by omega, rfl, by rw [S0.out]⟩
    case round =>
      obtain ⟨i, hi, rfl, rfl⟩ := hrel
      clear S0
      have LN : (s.size : Int) = (n : Int) := by rw [Hn.out]
      by_cases hlt : i < n
      · have i1 : (i : Int) < (s.size : Int) := by rw [Hn.out]; omega
        have i2 : i < n := hlt
        obtain ⟨c, Hc⟩ : ∃ c, Hid (sb s i = c) := ⟨_, rfl⟩
        have ix : ∀ w, (Instr.index 9 (.string s) (.int .i64 (i : Int))).run Tryd.prog w = .ok (.int .u8 (c : Int)) w := fun w => by rw [← Hc.out]; exact sb_ix s i _ rfl (by rw [Hn.out]; exact hlt) w
        have SU : Hid (rbk s (i + 1) = (rbk s i && rin n c i)) := by rw [← Hc.out, ← Hn.out]; exact rbk_succ s i
        clear LN
        rcases Bool.eq_false_or_eq_true (rbk s i) with hb | hb
        · have HB : Hid (rbk s i = true) := hb
          clear hb
          rw [HB.out]
          rcases Bool.eq_false_or_eq_true (nmE c) with hE | hE
          · have PE : Hid (nmE c = true) := hE
            have RV : Hid (rin n c i = true) := by show _ = _; unfold rin; rw [hE]; rfl
            clear hE
            go_wp2_with (go_at_call 59; refine (plain_n c _).mono ?_; rintro e w0 ⟨rfl, h0⟩; rw [h0, PE.out]; clear h0)
            go_round
            case rel => exact ⟨i + 1, by omega, by go_num, by rw [SU.out, HB.out, RV.out]; rfl⟩
            case measure => simp [intOf]; omega
          · have PE : Hid (nmE c = false) := hE
            have RI : rin n c i = decide (0 < i ∧ i + 1 < n ∧ (c = 45 ∨ c = 46)) := by unfold rin; rw [hE, Bool.false_or]
            clear hE
            by_cases j1 : (0 : Int) < (i : Int)
            · by_cases j2 : (i : Int) < (s.size : Int) - 1
              · have j3 : i + 1 < n := by have e : (s.size : Int) = (n : Int) := by rw [Hn.out]
                                          omega
                by_cases j4 : c = 45
                · have RV : Hid (rin n c i = true) := RI.trans (decide_eq_true (by omega))
                  clear RI j3
                  subst j4
                  go_wp2_with (go_at_call 59; refine (plain_n 45 _).mono ?_; rintro e w0 ⟨rfl, h0⟩; rw [h0, PE.out]; clear h0)
                  go_round
                  case rel => exact ⟨i + 1, by omega, by go_num, by rw [SU.out, HB.out, RV.out]; rfl⟩
                  case measure => simp [intOf]; omega
                · by_cases j5 : c = 46
                  · have RV : Hid (rin n c i = true) := RI.trans (decide_eq_true (by omega))
                    clear RI j3 j4
                    subst j5
                    go_wp2_with (go_at_call 59; refine (plain_n 46 _).mono ?_; rintro e w0 ⟨rfl, h0⟩; rw [h0, PE.out]; clear h0)
                    go_round
                    case rel => exact ⟨i + 1, by omega, by go_num, by rw [SU.out, HB.out, RV.out]; rfl⟩
                    case measure => simp [intOf]; omega
                  · have RV : Hid (rin n c i = false) := RI.trans (decide_eq_false (by omega))
                    have J4 : ¬ ((c : Int) = 45) := by omega
                    have J6 : ¬ ((c : Int) = 46) := by omega
                    clear RI j3 j4 j5
                    go_wp2_with (go_at_call 59; refine (plain_n c _).mono ?_; rintro e w0 ⟨rfl, h0⟩; rw [h0, PE.out]; clear h0)
                    go_round
                    case rel => exact ⟨i + 1, by omega, by go_num, by rw [SU.out, HB.out, RV.out]; simp [J4, J6]⟩
                    case measure => simp [intOf]; omega
              · have RV : Hid (rin n c i = false) := RI.trans (decide_eq_false (by have e : (s.size : Int) = (n : Int) := by rw [Hn.out]
                                                                                   omega))
                clear RI
                go_wp2_with (go_at_call 59; refine (plain_n c _).mono ?_; rintro e w0 ⟨rfl, h0⟩; rw [h0, PE.out]; clear h0)
                go_round
                case rel => exact ⟨i + 1, by omega, by go_num, by rw [SU.out, HB.out, RV.out]; rfl⟩
                case measure => simp [intOf]; omega
            · have RV : Hid (rin n c i = false) := RI.trans (decide_eq_false (by omega))
              clear RI
              go_wp2_with (go_at_call 59; refine (plain_n c _).mono ?_; rintro e w0 ⟨rfl, h0⟩; rw [h0, PE.out]; clear h0)
              go_round
              case rel => exact ⟨i + 1, by omega, by go_num, by rw [SU.out, HB.out, RV.out]; rfl⟩
              case measure => simp [intOf]; omega
        · have HB : Hid (rbk s i = false) := hb
          clear hb
          rw [HB.out]
          go_wp2
          go_round
          case rel => exact ⟨i + 1, by omega, by go_num, by rw [SU.out, HB.out, Bool.false_and]⟩
          case measure => simp [intOf]; omega
      · obtain rfl : i = n := by omega
        have i1 : ¬ ((i : Int) < (s.size : Int)) := by rw [Hn.out]; omega
        go_wp2
        go_ret
        rw [← rbk_end, Hn.out]
        exact ⟨rfl, rfl⟩
theorem refKey_n (s : ByteArray) (hs : s.size ≤ 281474976710656) (w : World) : Calls Tryd.prog 29 #[.string s] w fun e w' => e = .returned (.bool (gdK s)) ∧ w' = w := by
  obtain ⟨n, Hn⟩ : ∃ n, Hid (s.size = n) := ⟨_, rfl⟩
  have hs0 : (s.size : Int) ≤ 281474976710656 := by omega
  rw [Hn.out] at hs
  have ST : rky s 0 = decide (1 ≤ n ∧ n ≤ 200) := by simp [rky, evB_zero, Hn.out]
  rcases (show ¬ ((1 : Int) ≤ (n : Int)) ∨ ((1 : Int) ≤ (n : Int) ∧ ¬ ((n : Int) ≤ 200)) ∨ ((1 : Int) ≤ (n : Int) ∧ (n : Int) ≤ 200) by omega) with h1 | ⟨h1, h2⟩ | ⟨h1, h2⟩
  all_goals
    first
      | have S0 : Hid (rky s 0 = true) := ST.trans (decide_eq_true (by omega))
      | have S0 : Hid (rky s 0 = false) := ST.trans (decide_eq_false (by omega))
    rw [← Hn.out] at h1
    try rw [← Hn.out] at h2
    clear ST
    go_enter Tryd.func29, Tryd.ntmps29
    go_upto_region 2 with (fail)
    clear h1
    try clear h2
    go_wp2
    go_loop [3, 4] (fun t3 t4 => ∃ i : Nat, i ≤ n ∧ t4 = .int .i64 (i : Int) ∧ t3 = .bool (rky s i)) (fun _ t4 => n - (intOf t4).toNat)
    case atStart => exact ⟨0, by omega, rfl, by rw [S0.out]⟩
    case round =>
      obtain ⟨i, hi, rfl, rfl⟩ := hrel
      clear S0
      have LN : (s.size : Int) = (n : Int) := by rw [Hn.out]
      by_cases hlt : i < n
      · have i1 : (i : Int) < (s.size : Int) := by rw [Hn.out]; omega
        have i2 : i < n := hlt
        obtain ⟨c, Hc⟩ : ∃ c, Hid (sb s i = c) := ⟨_, rfl⟩
        have ix : ∀ w, (Instr.index 9 (.string s) (.int .i64 (i : Int))).run Tryd.prog w = .ok (.int .u8 (c : Int)) w := fun w => by rw [← Hc.out]; exact sb_ix s i _ rfl (by rw [Hn.out]; exact hlt) w
        have SU : Hid (rky s (i + 1) = (rky s i && kyB c)) := by rw [← Hc.out]; exact rky_succ s i
        clear LN
        rcases Bool.eq_false_or_eq_true (rky s i) with hb | hb
        · have HB : Hid (rky s i = true) := hb
          clear hb
          rw [HB.out]
          by_cases j1 : (32 : Int) ≤ (c : Int)
          · by_cases j2 : (c : Int) ≤ 126
            · have RV : Hid (kyB c = true) := decide_eq_true (by omega)
              go_wp2
              go_round
              case rel => exact ⟨i + 1, by omega, by go_num, by rw [SU.out, HB.out, RV.out]; rfl⟩
              case measure => simp [intOf]; omega
            · have RV : Hid (kyB c = false) := decide_eq_false (by omega)
              go_wp2
              go_round
              case rel => exact ⟨i + 1, by omega, by go_num, by rw [SU.out, HB.out, RV.out]; rfl⟩
              case measure => simp [intOf]; omega
          · have RV : Hid (kyB c = false) := decide_eq_false (by omega)
            go_wp2
            go_round
            case rel => exact ⟨i + 1, by omega, by go_num, by rw [SU.out, HB.out, RV.out]; rfl⟩
            case measure => simp [intOf]; omega
        · have HB : Hid (rky s i = false) := hb
          clear hb
          rw [HB.out]
          go_wp2
          go_round
          case rel => exact ⟨i + 1, by omega, by go_num, by rw [SU.out, HB.out, Bool.false_and]⟩
          case measure => simp [intOf]; omega
      · obtain rfl : i = n := by omega
        have i1 : ¬ ((i : Int) < (s.size : Int)) := by rw [Hn.out]; omega
        go_wp2
        go_ret
        rw [show gdK s = rky s s.size from rfl, Hn.out]
        exact ⟨rfl, rfl⟩
end Go.Proofs.YtoegfckafnlknaaDoor
