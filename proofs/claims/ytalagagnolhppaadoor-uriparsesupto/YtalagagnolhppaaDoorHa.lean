/- Which bytes are good, and whether all of a text are. -/
import Derived.Test.YtalagagnolhppaaDoorVc
namespace Go.Proofs.YtalagagnolhppaaDoor
open Go.ChangeShapes Go.WideShapes Go.ChangeAt Go.RowKit
set_option maxRecDepth 20000
set_option linter.unusedVariables false
set_option linter.unusedSimpArgs false
/- a string's byte -/
def sb (s : ByteArray) (i : Nat) : Nat := (s.data.toList.getD i 0).toNat
theorem sb_lt (s : ByteArray) (i : Nat) : sb s i < 256 := UInt8.toNat_lt _
theorem sb_ix (s : ByteArray) (i : Nat) (z : Int) (hz : z = (i : Int)) (h : i < s.size) (w : World) : (Instr.index 9 (.string s) (.int .i64 z)).run Tryd.prog w = .ok (.int .u8 (sb s i : Nat)) w := by
  subst hz
  rw [run_index_string w _ _ _ _ Tryd.underlying9, dif_pos ⟨by omega, by omega⟩]
  have e : (s[((i : Int)).toNat]'(by simpa using h)).toNat = sb s i := by
    have h3 : i < s.data.size := h
    have e2 : s.data.toList.getD i 0 = s.data[i] := by
      rw [List.getD, Array.getElem?_toList, Array.getElem?_eq_getElem h3]
      rfl
    unfold sb
    rw [e2]
    rfl
  rw [e]
def grB (c : Nat) : Bool := decide (65 ≤ c ∧ c ≤ 90)
def smB (c : Nat) : Bool := decide (97 ≤ c ∧ c ≤ 122)
def dgB (c : Nat) : Bool := decide (48 ≤ c ∧ c ≤ 57)
def tgB (c : Nat) : Bool := decide (32 < c ∧ c ≤ 126)
def nmB (c : Nat) : Bool := grB c || (smB c || (dgB c || decide (c = 45)))
def vlB (c : Nat) : Bool := decide ((32 ≤ c ∧ c ≤ 126) ∨ c = 9)
/- all the first i bytes -/
def evB (p : Nat → Bool) (s : ByteArray) (i : Nat) : Bool := (List.range i).all (fun j => p (sb s j))
theorem evB_zero (p : Nat → Bool) (s : ByteArray) : evB p s 0 = true := rfl
theorem evB_succ (p : Nat → Bool) (s : ByteArray) (i : Nat) : evB p s (i + 1) = (evB p s i && p (sb s i)) := by simp [evB, List.range_succ]
theorem evB_iff (p : Nat → Bool) (s : ByteArray) (i : Nat) : evB p s i = true ↔ ∀ j, j < i → p (sb s j) = true := by simp [evB]
theorem evB_false {p : Nat → Bool} {s : ByteArray} {i n : Nat} (hi : i < n) (h : p (sb s i) = false) : evB p s n = false := by
  rw [Bool.eq_false_iff]
  intro e
  have := (evB_iff p s n).1 e i hi
  rw [h] at this
  cases this
/- two strings compared -/
theorem eqS (d : Nat) (x y : ByteArray) (w : World) : (Op.equalIn (d + 1) 9 (.string x) (.string y)).run Tryd.prog w = .ok (decide (x = y)) w := by
  rw [run_equalIn_string w d 9 x y Tryd.underlying9]
  have e : (x.toList == y.toList) = decide (x = y) := by
    rw [ByteArray.toList_eq, ByteArray.toList_eq]
    by_cases h : x = y
    · subst h; simp
    · have h2 : ¬ (x.data.toList = y.data.toList) := fun e => h (ByteArray.ext (Array.toList_inj.1 e))
      rw [decide_eq_false h]
      simpa using h2
  rw [e]
theorem eq_strb {b : Bool} {s t : ByteArray} (h : decide (s = t) = b) (d : Nat) (w : World) : (Op.equalIn (d + 1) 9 (.string s) (.string t)).run Tryd.prog w = .ok b w := by rw [eqS, h]
end Go.Proofs.YtalagagnolhppaaDoor
