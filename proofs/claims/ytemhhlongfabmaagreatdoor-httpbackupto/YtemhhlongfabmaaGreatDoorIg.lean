/- The document's first line. -/
import Derived.Test.YtemhhlongfabmaaGreatDoorIf
namespace Go.Proofs.YtemhhlongfabmaaGreatDoor
open Go.ChangeShapes Go.WideShapes Go.ChangeAt Go.RowKit
set_option maxRecDepth 20000
set_option linter.unusedVariables false
set_option linter.unusedSimpArgs false
def spv : ByteArray := ⟨#[32, 72, 84, 84, 80, 47, 49, 46, 49]⟩
theorem ext_list (s : ByteArray) (i j : Nat) : (s.extract i j).data.toList = (s.data.toList.drop i).take (j - i) := by simp [ByteArray.data_extract, Array.toList_extract, List.extract_eq_take_drop]
theorem sb_ext {s : ByteArray} {i j k : Nat} (h : k < j - i) (hj : j ≤ s.size) : sb (s.extract i j) k = sb s (i + k) := by
  unfold sb
  rw [ext_list, List.getD, List.getD, List.getElem?_take_of_lt h, List.getElem?_drop]
theorem ba_extD {s t : ByteArray} (h : s.data.toList = t.data.toList) : s = t := ByteArray.ext (Array.toList_inj.1 h)
theorem get_sb {s : ByteArray} {i : Nat} {c : UInt8} (h : i < s.size) (hc : sb s i = c.toNat) : s.data.toList[i]'(by rw [← Lib.size_eq]; exact h) = c := by
  have h2 : i < s.data.toList.length := by rw [← Lib.size_eq]; exact h
  apply UInt8.toNat_inj.1
  rw [← hc]
  unfold sb
  rw [List.getD, List.getElem?_eq_getElem h2]
  rfl
theorem rdF_yes {s : ByteArray} {a z : Nat} (h1 : ∀ j, j < a → grB (sb s j) = true) (a1 : 1 ≤ a) (a16 : a ≤ 16) (asz : a < s.size) (h32 : sb s a = 32) (hz : z ≤ s.size) (h2 : ∀ j, a + 1 ≤ j → j < z → tgB (sb s j) = true) (hne : a + 1 < z) (h47 : sb s (a + 1) = 47) (hv : s.extract z s.size = spv) : rdF s = some (s.extract 0 a, s.extract (a + 1) z) := by
  have hl : s.data.toList.length = s.size := (Lib.size_eq s).symm
  refine rdF_iff.2 ⟨?_, ?_, ?_⟩
  · have ha : a < s.data.toList.length := by omega
    have e1 := get_sb (c := 32) asz h32
    have e2 : s.data.toList.drop z = 32 :: vrL := by
      have h := congrArg (fun b : ByteArray => b.data.toList) hv
      simp only [ext_list] at h
      rw [List.take_of_length_le (by rw [List.length_drop]; omega)] at h
      exact h
    rw [ext_list, ext_list, List.drop_zero, Nat.sub_zero]
    have e3 : s.data.toList.drop (a + 1) = (s.data.toList.drop (a + 1)).take (z - (a + 1)) ++ s.data.toList.drop z := by
      conv => lhs; rw [← List.take_append_drop (z - (a + 1)) (s.data.toList.drop (a + 1))]
      rw [List.drop_drop, (by omega : a + 1 + (z - (a + 1)) = z)]
    rw [← e2, ← e3]
    conv => lhs; rw [← List.take_append_drop a s.data.toList, List.drop_eq_getElem_cons ha, e1]
  · have hs : (s.extract 0 a).size = a := by rw [ByteArray.size_extract]; omega
    unfold gdM
    have n0 : s.extract 0 a ≠ ⟨#[]⟩ := fun e => by
      rw [e] at hs
      have : (⟨#[]⟩ : ByteArray).size = 0 := rfl
      omega
    rw [decide_eq_false n0, hs, decide_eq_true a16, (evB_iff grB _ a).2 (fun j hj => by rw [sb_ext (by omega) (by omega), Nat.zero_add]; exact h1 j hj)]
    rfl
  · have hs : (s.extract (a + 1) z).size = z - (a + 1) := by rw [ByteArray.size_extract]; omega
    unfold gdT
    have hp : Lib.hasPrefix (s.extract (a + 1) z).data.toList [47] = true := by
      have ha : a + 1 < s.data.toList.length := by omega
      have e1 := get_sb (c := 47) (by omega) h47
      unfold Lib.hasPrefix
      obtain ⟨q, hq⟩ : ∃ q, z - (a + 1) = q + 1 := ⟨z - (a + 1) - 1, by omega⟩
      rw [ext_list, hq, List.drop_eq_getElem_cons ha, e1, List.take_succ_cons]
      simp [List.isPrefixOf]
    rw [hp, hs, (evB_iff tgB _ _).2 (fun j hj => by rw [sb_ext (by omega) hz]; exact h2 _ (by omega) (by omega))]
    rfl
theorem rdF_some {s m t : ByteArray} (h : rdF s = some (m, t)) : ∃ M Z, (1 ≤ M ∧ M ≤ 16 ∧ M < s.size ∧ sb s M = 32 ∧ ∀ j, j < M → grB (sb s j) = true) ∧ (M + 1 < Z ∧ Z < s.size ∧ sb s (M + 1) = 47 ∧ (∀ j, M + 1 ≤ j → j < Z → tgB (sb s j) = true) ∧ sb s Z = 32 ∧ s.extract Z s.size = spv) := by
  obtain ⟨hl, gm, gt⟩ := rdF_iff.1 h
  obtain ⟨m1, m16, me⟩ := gdM_ev gm
  obtain ⟨⟨r, hr⟩, te⟩ := gdT_ev gt
  have lm : m.data.toList.length = m.size := (Lib.size_eq m).symm
  have lt : t.data.toList.length = t.size := (Lib.size_eq t).symm
  have t1 : 1 ≤ t.size := by rw [← lt, hr]; simp
  have mp : 1 ≤ m.size := by
    rcases Nat.eq_zero_or_pos m.size with h0 | h0
    · exact absurd (ba_extD (by rw [List.eq_nil_of_length_eq_zero (lm.trans h0)])) m1
    · exact h0
  have ls : s.size = m.size + (t.size + 9 + 1) := by
    rw [Lib.size_eq s, hl]
    simp [lm, lt, vrL]
  have gM : ∀ j, j < m.size → sb s j = sb m j := fun j hj => by
    unfold sb
    rw [hl, List.getD, List.getD, List.getElem?_append_left (by omega)]
  have g32 : sb s m.size = 32 := by
    unfold sb
    rw [hl, List.getD, List.getElem?_append_right (by omega), lm, Nat.sub_self]
    rfl
  have gT : ∀ j, j < t.size → sb s (m.size + 1 + j) = sb t j := fun j hj => by
    unfold sb
    rw [hl, List.getD, List.getD, List.getElem?_append_right (by omega), lm, (by omega : m.size + 1 + j - m.size = j + 1), List.getElem?_cons_succ, List.getElem?_append_left (by omega)]
  have gZ : sb s (m.size + 1 + t.size) = 32 := by
    unfold sb
    rw [hl, List.getD, List.getElem?_append_right (by omega), lm, (by omega : m.size + 1 + t.size - m.size = t.size + 1), List.getElem?_cons_succ, List.getElem?_append_right (by omega), lt, Nat.sub_self]
    rfl
  refine ⟨m.size, m.size + 1 + t.size, ⟨mp, m16, by omega, g32, fun j hj => by rw [gM j hj]; exact (evB_iff grB m m.size).1 me j hj⟩, ⟨by omega, by omega, ?_, fun j h1 h2 => ?_, gZ, ?_⟩⟩
  · have := gT 0 (by omega)
    rw [Nat.add_zero] at this
    rw [this]
    unfold sb
    rw [hr]
    rfl
  · obtain ⟨k, rfl⟩ : ∃ k, j = m.size + 1 + k := ⟨j - (m.size + 1), by omega⟩
    rw [gT k (by omega)]
    exact (evB_iff tgB t t.size).1 te k (by omega)
  · apply ba_extD
    rw [ext_list, List.take_of_length_le (by rw [List.length_drop, ← Lib.size_eq]; exact Nat.le_refl _), hl, (by omega : m.size + 1 + t.size = m.data.toList.length + (1 + t.size)), ← List.drop_drop, List.drop_left, (by omega : 1 + t.size = t.size + 1), List.drop_succ_cons, ← lt, List.drop_left]
    rfl
theorem gr32 : grB 32 = false := rfl
theorem tg32 : tgB 32 = false := rfl
theorem rdF_a {s : ByteArray} {a M : Nat} (h1 : ∀ j, j < a → grB (sb s j) = true) (hst : a < s.size → grB (sb s a) = false) (hM : M < s.size) (h32 : sb s M = 32) (h2 : ∀ j, j < M → grB (sb s j) = true) : a = M := by
  rcases Nat.lt_trichotomy a M with h | h | h
  · have := hst (by omega)
    rw [h2 a h] at this
    cases this
  · exact h
  · have := h1 M h
    rw [h32, gr32] at this
    cases this
theorem rdF_no1 {s : ByteArray} {a : Nat} (h1 : ∀ j, j < a → grB (sb s j) = true) (hst : a < s.size → grB (sb s a) = false) (hf : ¬ (1 ≤ a ∧ a ≤ 16 ∧ a < s.size ∧ sb s a = 32)) : rdF s = none := by
  cases h : rdF s with
  | none => rfl
  | some mt =>
    obtain ⟨m, t⟩ := mt
    obtain ⟨M, Z, ⟨p1, p2, p3, p4, p5⟩, _⟩ := rdF_some h
    obtain rfl := rdF_a h1 hst p3 p4 p5
    exact absurd ⟨p1, p2, p3, p4⟩ hf
theorem rdF_no2 {s : ByteArray} {a z : Nat} (h1 : ∀ j, j < a → grB (sb s j) = true) (hst : a < s.size → grB (sb s a) = false) (az : a + 1 ≤ z) (h2 : ∀ j, a + 1 ≤ j → j < z → tgB (sb s j) = true) (hsz : z < s.size → tgB (sb s z) = false) (hf : ¬ (a + 1 < z ∧ sb s (a + 1) = 47 ∧ s.extract z s.size = spv)) : rdF s = none := by
  cases h : rdF s with
  | none => rfl
  | some mt =>
    obtain ⟨m, t⟩ := mt
    obtain ⟨M, Z, ⟨p1, p2, p3, p4, p5⟩, ⟨z1, z2, z3, z4, z5, z6⟩⟩ := rdF_some h
    obtain rfl := rdF_a h1 hst p3 p4 p5
    have e : z = Z := by
      rcases Nat.lt_trichotomy z Z with h | h | h
      · have := hsz (by omega)
        rw [z4 z az h] at this
        cases this
      · exact h
      · have := h2 Z (by omega) h
        rw [z5, tg32] at this
        cases this
    subst e
    exact absurd ⟨z1, z3, z6⟩ hf
end Go.Proofs.YtemhhlongfabmaaGreatDoor
