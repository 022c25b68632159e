/- What a field's line is, in plain words. -/
import Derived.Test.YtemhhlongfabmaaGreatDoorIg
import Derived.Test.YtemhhlongfabmaaGreatDoorHd
namespace Go.Proofs.YtemhhlongfabmaaGreatDoor
open Go.ChangeShapes Go.WideShapes Go.ChangeAt Go.RowKit
set_option maxRecDepth 20000
set_option linter.unusedVariables false
set_option linter.unusedSimpArgs false
theorem nm58 : nmB 58 = false := rfl
theorem colL : col.data.toList = [58] := rfl
theorem toBA (b : ByteArray) : (⟨b.data.toList.toArray⟩ : ByteArray) = b := by simp
theorem gdN_iff {n : ByteArray} : gdN n = true ↔ 1 ≤ n.size ∧ ∀ j, j < n.size → nmB (sb n j) = true := by
  unfold gdN
  rw [Bool.and_eq_true, evB_iff]
  have h0 : (!decide (n = ⟨#[]⟩)) = true ↔ 1 ≤ n.size := by
    rw [Bool.not_eq_true', decide_eq_false_iff_not]
    constructor
    · intro h
      rcases Nat.eq_zero_or_pos n.size with e | e
      · exact absurd (ba_extD (by rw [List.eq_nil_of_length_eq_zero ((Lib.size_eq n).symm.trans e)])) h
      · exact e
    · intro h e
      rw [e] at h
      exact absurd h (by decide)
  rw [h0]
/- a colon at i, none before -/
theorem cut_col {s : ByteArray} {i : Nat} (hi : i < s.size) (h58 : sb s i = 58) (hn : ∀ j, j < i → sb s j ≠ 58) : cutA s col = (s.extract 0 i, s.extract (i + 1) s.size, true) := by
  have hl : i < s.data.toList.length := by rw [← Lib.size_eq]; exact hi
  have e : s.data.toList = s.data.toList.take i ++ 58 :: s.data.toList.drop (i + 1) := by
    conv => lhs; rw [← List.take_append_drop i s.data.toList, List.drop_eq_getElem_cons hl, get_sb (c := 58) hi h58]
  have hx : ∀ b ∈ s.data.toList.take i, b ≠ 58 := fun b hb e2 => by
    obtain ⟨j, hj, rfl⟩ := List.mem_iff_getElem.1 hb
    rw [List.length_take] at hj
    have hj2 : j < s.data.toList.length := by omega
    refine hn j (by omega) ?_
    unfold sb
    rw [List.getD, List.getElem?_eq_getElem hj2]
    rw [List.getElem_take] at e2
    rw [Option.getD_some, e2]
    rfl
  have hc := cut1_hit e hx
  unfold cutA
  rw [colL, hc]
  have e1 : (⟨(s.data.toList.take i).toArray⟩ : ByteArray) = s.extract 0 i := ba_extD (by rw [ext_list, List.drop_zero, Nat.sub_zero])
  have e2 : (⟨(s.data.toList.drop (i + 1)).toArray⟩ : ByteArray) = s.extract (i + 1) s.size := ba_extD (by rw [ext_list, List.take_of_length_le (by rw [List.length_drop, ← Lib.size_eq]; exact Nat.le_refl _)])
  simp only [e1, e2]
theorem cut_nocol {s : ByteArray} (hn : ∀ j, j < s.size → sb s j ≠ 58) : (cutA s col).2.2 = false := by
  have hx : ∀ b ∈ s.data.toList, b ≠ 58 := fun b hb e2 => by
    obtain ⟨j, hj, rfl⟩ := List.mem_iff_getElem.1 hb
    refine hn j (by rw [Lib.size_eq]; exact hj) ?_
    unfold sb
    rw [List.getD, List.getElem?_eq_getElem hj, Option.getD_some, e2]
    rfl
  unfold cutA
  rw [colL, cut1_miss hx]
theorem nm_ne {x : Nat} (h : nmB x = true) : x ≠ 58 := fun e => by rw [e, nm58] at h; cases h
theorem rdL_at {s : ByteArray} {i : Nat} (hi : i < s.size) (h58 : sb s i = 58) (hn : ∀ j, j < i → nmB (sb s j) = true) : rdL s = if 1 ≤ i ∧ gdV (s.extract (i + 1) s.size) = true then some (lowA (s.extract 0 i), triA (s.extract (i + 1) s.size)) else none := by
  unfold rdL
  rw [cut_col hi h58 (fun j hj => nm_ne (hn j hj))]
  simp only [Bool.true_and]
  have hz : (s.extract 0 i).size = i := by rw [ByteArray.size_extract]; omega
  have hg : gdN (s.extract 0 i) = decide (1 ≤ i) := by
    by_cases h1 : 1 ≤ i
    · rw [decide_eq_true h1]
      exact gdN_iff.2 ⟨by rw [hz]; exact h1, fun j hj => by rw [hz] at hj; rw [sb_ext (by omega) (by omega), Nat.zero_add]; exact hn j hj⟩
    · rw [decide_eq_false h1]
      rw [Bool.eq_false_iff]
      intro e
      have := (gdN_iff.1 e).1
      rw [hz] at this
      exact h1 this
  rw [hg]
  by_cases h1 : 1 ≤ i <;> simp [h1]
/- a byte that is no colon and stands in no name -/
theorem rdL_bad {s : ByteArray} {i : Nat} (hi : i < s.size) (h58 : sb s i ≠ 58) (hb : nmB (sb s i) = false) (hn : ∀ j, j < i → nmB (sb s j) = true) : rdL s = none := by
  by_cases hc : ∃ k, k < s.size ∧ sb s k = 58 ∧ ∀ j, j < k → sb s j ≠ 58
  · obtain ⟨k, hk, k58, kn⟩ := hc
    have hik : i < k := by
      rcases Nat.lt_trichotomy i k with h | h | h
      · exact h
      · rw [h] at h58; exact absurd k58 h58
      · have := hn k h
        rw [k58, nm58] at this
        cases this
    unfold rdL
    rw [cut_col hk k58 kn]
    have hz : (s.extract 0 k).size = k := by rw [ByteArray.size_extract]; omega
    have hg : gdN (s.extract 0 k) = false := by
      rw [Bool.eq_false_iff]
      intro e
      have := (gdN_iff.1 e).2 i (by rw [hz]; exact hik)
      rw [sb_ext (by omega) (by omega), Nat.zero_add, hb] at this
      cases this
    simp [hg]
  · have hno : ∀ j, j < s.size → sb s j ≠ 58 := by
      intro j
      induction j using Nat.strongRecOn with
      | _ j ih =>
        intro hj e
        exact hc ⟨j, hj, e, fun q hq => ih q hq (by omega)⟩
    unfold rdL
    rw [cut_nocol hno]
    rfl
theorem rdL_none {s : ByteArray} (hn : ∀ j, j < s.size → nmB (sb s j) = true) : rdL s = none := by
  unfold rdL
  rw [cut_nocol (fun j hj => nm_ne (hn j hj))]
  rfl
/- blanks and tabs off both ends -/
def ws (b : UInt8) : Bool := [32, 9].contains b
theorem drop_ws {A M : List UInt8} (hA : ∀ b ∈ A, ws b = true) (hM : ∀ b, M.head? = some b → ws b = false) : (A ++ M).dropWhile ws = M := by
  induction A with
  | nil =>
    cases M with
    | nil => rfl
    | cons b r => simp [List.dropWhile, hM b rfl]
  | cons a r ih =>
    rw [List.cons_append, List.dropWhile_cons_of_pos (hA a (by simp))]
    exact ih (fun b hb => hA b (by simp [hb]))
theorem trim_eq {A M B : List UInt8} (hA : ∀ b ∈ A, ws b = true) (hB : ∀ b ∈ B, ws b = true) (h1 : ∀ b, M.head? = some b → ws b = false) (h2 : ∀ b, M.getLast? = some b → ws b = false) : Lib.trimS (A ++ M ++ B) [32, 9] = M := by
  show ((((A ++ M ++ B).reverse.dropWhile ws).reverse).dropWhile ws) = M
  have e : (A ++ M ++ B).reverse = B.reverse ++ (M.reverse ++ A.reverse) := by simp
  rw [e]
  cases hM : M with
  | nil =>
    have hall : ∀ b ∈ B.reverse ++ A.reverse, ws b = true := fun b hb => by
      rcases List.mem_append.1 hb with hb | hb
      · exact hB b (List.mem_reverse.1 hb)
      · exact hA b (List.mem_reverse.1 hb)
    have := drop_ws (M := []) hall (fun b hb => by cases hb)
    rw [List.append_nil] at this
    simp only [List.reverse_nil, List.nil_append]
    rw [this]
    rfl
  | cons m r =>
    rw [← hM]
    have hh : ∀ b, (M.reverse ++ A.reverse).head? = some b → ws b = false := fun b hb => by
      have hr : M.reverse ≠ [] := by rw [hM]; simp
      rw [List.head?_append, List.head?_reverse] at hb
      cases hg : M.getLast? with
      | none =>
        rw [List.getLast?_eq_none_iff] at hg
        rw [hg] at hr
        exact absurd rfl hr
      | some c =>
        rw [hg] at hb
        exact h2 b (hg.trans hb)
    rw [drop_ws (fun b hb => hB b (List.mem_reverse.1 hb)) hh]
    simp only [List.reverse_append, List.reverse_reverse]
    exact drop_ws hA h1
end Go.Proofs.YtemhhlongfabmaaGreatDoor
