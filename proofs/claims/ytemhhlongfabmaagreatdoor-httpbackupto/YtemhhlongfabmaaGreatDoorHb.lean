/- Methods, targets, names, values and numbers. -/
import Derived.Test.YtemhhlongfabmaaGreatDoorHa
import Derived.Test.YtemhhlongfabmaaGreatDoorSb
namespace Go.Proofs.YtemhhlongfabmaaGreatDoor
open Go.ChangeShapes Go.WideShapes Go.ChangeAt Go.RowKit
set_option maxRecDepth 20000
set_option linter.unusedVariables false
set_option linter.unusedSimpArgs false
theorem ba_ext {s t : ByteArray} (h : s.toList = t.toList) : s = t := by
  rw [ByteArray.toList_eq, ByteArray.toList_eq] at h
  exact ByteArray.ext (Array.toList_inj.1 h)
theorem no_str {s : ByteArray} (h : decide (s = ⟨#[]⟩) = true) : s.toList = [] := by rw [of_decide_eq_true h, ByteArray.toList_eq]
theorem is_strE {s : ByteArray} (h : decide (s = ⟨#[]⟩) = false) : s.toList.isEmpty = false := by
  rcases Bool.eq_false_or_eq_true s.toList.isEmpty with e | e
  · exact absurd (ba_ext (s := s) (t := ⟨#[]⟩) (by rw [List.isEmpty_iff.1 e, ByteArray.toList_eq])) (of_decide_eq_false h)
  · exact e
theorem is_str {s : ByteArray} (h : decide (s = ⟨#[]⟩) = false) : ¬ (s.toList = []) := fun e => of_decide_eq_false h (ba_ext (t := ⟨#[]⟩) (by rw [e, ByteArray.toList_eq]))
def gdM (s : ByteArray) : Bool := !decide (s = ⟨#[]⟩) && (decide (s.size ≤ 16) && evB grB s s.size)
def gdT (s : ByteArray) : Bool := Lib.hasPrefix s.data.toList [47] && evB tgB s s.size
def gdN (s : ByteArray) : Bool := !decide (s = ⟨#[]⟩) && evB nmB s s.size
def gdV (s : ByteArray) : Bool := evB vlB s s.size
theorem goodMethod_n (s : ByteArray) (hs : s.size ≤ 281474976710656) (w : World) : Calls Tryz.prog 53 #[.string s] w fun e w' => e = .returned (.bool (gdM s)) ∧ w' = w := by
  obtain ⟨b0, E0⟩ : ∃ b, Hid (decide (s = ⟨#[]⟩) = b) := ⟨_, rfl⟩
  obtain ⟨b1, E1⟩ : ∃ b, Hid (decide (s.size ≤ 16) = b) := ⟨_, rfl⟩
  obtain ⟨b2, E2⟩ : ∃ b, Hid (evB grB s s.size = b) := ⟨_, rfl⟩
  have EV : Hid (gdM s = (!b0 && (b1 && b2))) := by unfold gdM; rw [E0.out, E1.out, E2.out]; exact (rfl : (_ : Bool) = _)
  rw [EV.out]
  cases b0 with
  | true =>
    have q0 := no_str E0.out
    go_enter Tryz.func53, Tryz.ntmps53
    go_wp2
    go_ret
    exact ⟨rfl, rfl⟩
  | false =>
    have q0 := is_str E0.out
    have q1 := is_strE E0.out
    cases b1 with
    | false =>
      have i1 : ¬ ((s.size : Int) ≤ 16) := by have := of_decide_eq_false E1.out; omega
      go_enter Tryz.func53, Tryz.ntmps53
      go_wp2
      go_ret
      exact ⟨rfl, rfl⟩
    | true =>
      have i1 : (s.size : Int) ≤ 16 := by have := of_decide_eq_true E1.out; omega
      go_enter Tryz.func53, Tryz.ntmps53
      go_wp2_with (go_at_call 65; refine (all66_n s hs _).mono ?_; rintro e w0 ⟨rfl, h0⟩; rw [h0, E2.out]; clear h0)
      go_ret
      refine ⟨?_, rfl⟩
      simp [q0, q1]
theorem goodTarget_n (s : ByteArray) (hs : s.size ≤ 281474976710656) (w : World) : Calls Tryz.prog 54 #[.string s] w fun e w' => e = .returned (.bool (gdT s)) ∧ w' = w := by
  obtain ⟨b0, E0⟩ : ∃ b, Hid (Lib.hasPrefix s.data.toList [47] = b) := ⟨_, rfl⟩
  obtain ⟨b2, E2⟩ : ∃ b, Hid (evB tgB s s.size = b) := ⟨_, rfl⟩
  have EV : Hid (gdT s = (b0 && b2)) := by unfold gdT; rw [E0.out, E2.out]; exact (rfl : (_ : Bool) = _)
  have c0 : ∀ w, Calls Tryz.prog 67 #[.string s, .string { data := #[47] }] w fun e w' => e = .returned (.bool b0) ∧ w' = w := fun w => (Tryz.strings_HasPrefix s ⟨#[47]⟩ w).mono fun e w' h => ⟨by rw [h.1]; exact retB E0.out.symm, h.2⟩
  have C0 : Hid (∀ w, Calls Tryz.prog 67 #[.string s, .string { data := #[47] }] w fun e w' => e = .returned (.bool b0) ∧ w' = w) := c0
  clear c0
  rw [EV.out]
  cases b0 with
  | false =>
    go_enter Tryz.func54, Tryz.ntmps54
    go_wp2_with (go_at_call 67; refine (C0.out _).mono ?_; rintro e w0 ⟨rfl, h0⟩; rw [h0]; clear h0)
    go_ret
    exact ⟨rfl, rfl⟩
  | true =>
    go_enter Tryz.func54, Tryz.ntmps54
    go_wp2_with (first | (go_at_call 67; refine (C0.out _).mono ?_; rintro e w0 ⟨rfl, h0⟩; rw [h0]; clear h0) | (go_at_call 65; refine (all68_n s hs _).mono ?_; rintro e w0 ⟨rfl, h0⟩; rw [h0, E2.out]; clear h0))
    go_ret
    exact ⟨rfl, rfl⟩
theorem goodName_n (s : ByteArray) (hs : s.size ≤ 281474976710656) (w : World) : Calls Tryz.prog 55 #[.string s] w fun e w' => e = .returned (.bool (gdN s)) ∧ w' = w := by
  obtain ⟨b0, E0⟩ : ∃ b, Hid (decide (s = ⟨#[]⟩) = b) := ⟨_, rfl⟩
  obtain ⟨b2, E2⟩ : ∃ b, Hid (evB nmB s s.size = b) := ⟨_, rfl⟩
  have EV : Hid (gdN s = (!b0 && b2)) := by unfold gdN; rw [E0.out, E2.out]; exact (rfl : (_ : Bool) = _)
  rw [EV.out]
  cases b0 with
  | true =>
    have q0 := no_str E0.out
    go_enter Tryz.func55, Tryz.ntmps55
    go_wp2
    go_ret
    exact ⟨rfl, rfl⟩
  | false =>
    have q0 := is_str E0.out
    have q1 := is_strE E0.out
    go_enter Tryz.func55, Tryz.ntmps55
    go_wp2_with (go_at_call 65; refine (all69_n s hs _).mono ?_; rintro e w0 ⟨rfl, h0⟩; rw [h0, E2.out]; clear h0)
    go_ret
    refine ⟨?_, rfl⟩
    simp [q0, q1]
theorem goodValue_n (s : ByteArray) (hs : s.size ≤ 281474976710656) (w : World) : Calls Tryz.prog 56 #[.string s] w fun e w' => e = .returned (.bool (gdV s)) ∧ w' = w := by
  obtain ⟨b2, E2⟩ : ∃ b, Hid (evB vlB s s.size = b) := ⟨_, rfl⟩
  have EV : Hid (gdV s = b2) := by unfold gdV; exact E2.out
  rw [EV.out]
  go_enter Tryz.func56, Tryz.ntmps56
  go_wp2_with (go_at_call 65; refine (all72_n s hs _).mono ?_; rintro e w0 ⟨rfl, h0⟩; rw [h0, E2.out]; clear h0)
  go_ret
  exact ⟨rfl, rfl⟩
/- the number of the first i digits -/
def numB (s : ByteArray) : Nat → Nat
  | 0 => 0
  | i + 1 => 10 * numB s i + (sb s i - 48)
theorem numB_lt (s : ByteArray) : ∀ i, (∀ j, j < i → dgB (sb s j) = true) → numB s i < 10 ^ i
  | 0, _ => by simp [numB]
  | i + 1, h => by
    have h1 := numB_lt s i (fun j hj => h j (by omega))
    have h2 : 48 ≤ sb s i ∧ sb s i ≤ 57 := of_decide_eq_true (h i (by omega))
    simp only [numB, Nat.pow_succ]
    omega
def okD (s : ByteArray) : Bool := !decide (s = ⟨#[]⟩) && (decide (s.size ≤ 9) && evB dgB s s.size)
def nbS (s : ByteArray) : Nat := if okD s then numB s s.size else 0
theorem number_no (s : ByteArray) (hs : s.size ≤ 281474976710656) (h : Hid (okD s = false)) (w : World) : Calls Tryz.prog 59 #[.string s] w fun e w' => e = .returned (.tuple #[.int .i64 0, .bool false]) ∧ w' = w := by
  obtain ⟨b0, E0⟩ : ∃ b, Hid (decide (s = ⟨#[]⟩) = b) := ⟨_, rfl⟩
  obtain ⟨b1, E1⟩ : ∃ b, Hid (decide (s.size ≤ 9) = b) := ⟨_, rfl⟩
  obtain ⟨b2, E2⟩ : ∃ b, Hid (evB dgB s s.size = b) := ⟨_, rfl⟩
  have EV : Hid ((!b0 && (b1 && b2)) = false) := by have := h.out; unfold okD at this; rw [E0.out, E1.out, E2.out] at this; exact this
  cases b0 with
  | true =>
    have q0 := no_str E0.out
    go_enter Tryz.func59, Tryz.ntmps59
    go_wp2
    go_ret2
    exact ⟨rfl, rfl⟩
  | false =>
    have q0 := is_str E0.out
    have q1 := is_strE E0.out
    cases b1 with
    | false =>
      have i1 : (9 : Int) < (s.size : Int) := by have := of_decide_eq_false E1.out; omega
      go_enter Tryz.func59, Tryz.ntmps59
      go_wp2
      go_ret2
      exact ⟨rfl, rfl⟩
    | true =>
      have i1 : ¬ ((9 : Int) < (s.size : Int)) := by have := of_decide_eq_true E1.out; omega
      cases b2 with
      | true => exact absurd EV.out (by decide)
      | false =>
        go_enter Tryz.func59, Tryz.ntmps59
        go_wp2_with (go_at_call 65; refine (all71_n s hs _).mono ?_; rintro e w0 ⟨rfl, h0⟩; rw [h0, E2.out]; clear h0)
        go_ret2
        exact ⟨rfl, rfl⟩
theorem number_yes (s : ByteArray) (h : Hid (okD s = true)) (w : World) : Calls Tryz.prog 59 #[.string s] w fun e w' => e = .returned (.tuple #[.int .i64 (numB s s.size : Nat), .bool true]) ∧ w' = w := by
  obtain ⟨b0, E0⟩ : ∃ b, Hid (decide (s = ⟨#[]⟩) = b) := ⟨_, rfl⟩
  obtain ⟨b1, E1⟩ : ∃ b, Hid (decide (s.size ≤ 9) = b) := ⟨_, rfl⟩
  obtain ⟨b2, E2⟩ : ∃ b, Hid (evB dgB s s.size = b) := ⟨_, rfl⟩
  have EV : Hid ((!b0 && (b1 && b2)) = true) := by have := h.out; unfold okD at this; rw [E0.out, E1.out, E2.out] at this; exact this
  cases b0 with
  | true => exact absurd EV.out (by simp)
  | false =>
    have q0 := is_str E0.out
    have q1 := is_strE E0.out
    cases b1 with
    | false => exact absurd EV.out (by simp)
    | true =>
      cases b2 with
      | false => exact absurd EV.out (by simp)
      | true =>
        clear EV
        have hn9 : s.size ≤ 9 := of_decide_eq_true E1.out
        have i1 : ¬ ((9 : Int) < (s.size : Int)) := by omega
        have hs : s.size ≤ 281474976710656 := by omega
        have AD : Hid (∀ j, j < s.size → dgB (sb s j) = true) := (evB_iff _ _ _).1 E2.out
        have N9 : Hid (s.size ≤ 9) := hn9
        clear hn9
        go_enter Tryz.func59, Tryz.ntmps59
        go_wp2_with (go_at_call 65; refine (all71_n s hs _).mono ?_; rintro e w0 ⟨rfl, h0⟩; rw [h0, E2.out]; clear h0)
        clear i1
        obtain ⟨n, Hn⟩ : ∃ n, Hid (s.size = n) := ⟨_, rfl⟩
        rw [Hn.out]
        rw [Hn.out] at hs
        go_loop [20, 4] (fun ti tn => ∃ i : Nat, i ≤ n ∧ ti = .int .i64 (i : Int) ∧ tn = .int .i64 (numB s i : Nat)) (fun ti _ => n - (intOf ti).toNat)
        case atStart => exact ⟨0, by omega, rfl, rfl⟩
        case round =>
          obtain ⟨i, hi, rfl, rfl⟩ := hrel
          by_cases hlt : i < n
          · have i1 : (i : Int) < (n : Int) := by omega
            have hd : 48 ≤ sb s i ∧ sb s i ≤ 57 := of_decide_eq_true (AD.out i (by rw [Hn.out]; exact hlt))
            have hb : numB s i < 10 ^ i := numB_lt s i (fun j hj => AD.out j (by rw [Hn.out]; omega))
            have hb2 : 10 ^ i ≤ 10 ^ 9 := Nat.pow_le_pow_right (by decide) (by have := N9.out; rw [Hn.out] at this; omega)
            have h9 : (10 : Nat) ^ 9 = 1000000000 := by decide
            have NX : Hid (numB s (i + 1) = 10 * numB s i + (sb s i - 48)) := rfl
            obtain ⟨d, Hd⟩ : ∃ d, Hid (sb s i = 48 + d) := ⟨sb s i - 48, (by omega : sb s i = 48 + (sb s i - 48))⟩
            have d9 : d ≤ 9 := by have := Hd.out; omega
            obtain ⟨x, Hx⟩ : ∃ x, Hid (numB s i = x) := ⟨_, rfl⟩
            have x9 : x < 1000000000 := by have := Hx.out; omega
            have ix : ∀ w, (Instr.index 9 (.string s) (.int .i64 (i : Int))).run Tryz.prog w = .ok (.int .u8 ((48 + d : Nat) : Int)) w := fun w => by rw [← Hd.out]; exact sb_ix s i _ rfl (by rw [Hn.out]; exact hlt) w
            rw [Hx.out]
            clear hd hb hb2 h9
            go_wp2
            go_round
            case rel => exact ⟨i + 1, by omega, by go_num, by rw [NX.out, Hx.out, Hd.out]; go_num⟩
            case measure => simp [intOf]; omega
          · obtain rfl : i = n := by omega
            go_wp2
            go_ret2
            rw [Hn.out]
            exact ⟨rfl, rfl⟩
theorem clone_n (s : ByteArray) (hs : s.size ≤ 281474976710656) (w : World) : Calls Tryz.prog 34 #[.string s] w fun e w' => e = .returned (.string s) ∧ Hid (Below w.heap.size w w') := by
  have C0 : Hid (∀ w, Calls Tryz.prog 47 #[.string s] w fun e w' => e = .returned (.string s) ∧ Below w.heap.size w w') := fun w => Tryz.stringslite_Clone s w hs
  go_enter Tryz.func34, Tryz.ntmps34
  go_wp2_with (go_at_call 47; refine (C0.out _).mono ?_; rintro e w0 ⟨rfl, h0⟩; have B0 : Hid (Below w.heap.size w w0) := h0; clear h0)
  go_ret
  exact ⟨rfl, B0.out⟩
end Go.Proofs.YtemhhlongfabmaaGreatDoor
