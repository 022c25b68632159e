/- What a first line is, in plain words. -/
import Derived.Test.YtemhhlongfabmaaGreatDoorHc
import Derived.Lib.IndexLaws
import Derived.Lib.IndexMore
namespace Go.Proofs.YtemhhlongfabmaaGreatDoor
open Go.ChangeShapes Go.WideShapes Go.ChangeAt Go.RowKit
set_option maxRecDepth 20000
set_option linter.unusedVariables false
set_option linter.unusedSimpArgs false
theorem occ1 {l : List UInt8} {c : UInt8} {j : Nat} (h : l[j]? ≠ some c) : Lib.occAt l [c] j = false := by
  unfold Lib.occAt
  rcases Nat.lt_or_ge j l.length with hj | hj
  · rw [List.drop_eq_getElem_cons hj]
    rw [List.getElem?_eq_getElem hj] at h
    simp only [List.isPrefixOf]
    rw [beq_eq_false_iff_ne.2 (fun e => h (by rw [← e]))]
    rfl
  · rw [List.drop_eq_nil_of_le hj]
    rfl
theorem cut1_hit {l x y : List UInt8} {c : UInt8} (h : l = x ++ c :: y) (hx : ∀ b ∈ x, b ≠ c) : Lib.cut l [c] = (x, y, true) := by
  have hi : Lib.index l [c] = (x.length : Nat) := by
    refine Lib.index_hit (fun j hj => occ1 ?_) (by rw [h]; simp) ?_
    · rw [h, List.getElem?_append_left hj, List.getElem?_eq_getElem hj]
      intro e
      exact hx _ (List.getElem_mem hj) (Option.some.inj e)
    · unfold Lib.occAt
      rw [h, List.drop_left]
      simp [List.isPrefixOf]
  unfold Lib.cut
  rw [hi, if_pos (by omega)]
  simp only [Int.toNat_natCast, List.length_cons, List.length_nil]
  rw [h, List.take_left]
  have : (x ++ c :: y).drop (x.length + (0 + 1)) = y := by
    rw [← List.drop_drop, List.drop_left]
    rfl
  rw [this]
theorem cut1_miss {l : List UInt8} {c : UInt8} (h : ∀ b ∈ l, b ≠ c) : Lib.cut l [c] = (l, [], false) := by
  have hi : Lib.index l [c] = -1 := Lib.index_none fun j _ => occ1 fun e => h c (List.mem_of_getElem? e) rfl
  unfold Lib.cut
  rw [hi, if_neg (by omega)]
theorem cut1_inv (c : UInt8) : ∀ l : List UInt8, (∃ x y, l = x ++ c :: y ∧ (∀ b ∈ x, b ≠ c) ∧ Lib.cut l [c] = (x, y, true)) ∨ ((∀ b ∈ l, b ≠ c) ∧ Lib.cut l [c] = (l, [], false))
  | [] => .inr ⟨(fun b hb => by cases hb), cut1_miss (fun b hb => by cases hb)⟩
  | b :: r => by
    by_cases hb : b = c
    · subst hb
      exact .inl ⟨[], r, rfl, (fun b hb => by cases hb), cut1_hit rfl (fun b hb => by cases hb)⟩
    · rcases cut1_inv c r with ⟨x, y, h1, h2, _⟩ | ⟨h1, _⟩
      · have h3 : ∀ q ∈ b :: x, q ≠ c := fun q hq => by
          rcases List.mem_cons.1 hq with rfl | hq
          · exact hb
          · exact h2 q hq
        exact .inl ⟨b :: x, y, by rw [h1]; rfl, h3, cut1_hit (by rw [h1]; rfl) h3⟩
      · have h3 : ∀ q ∈ b :: r, q ≠ c := fun q hq => by
          rcases List.mem_cons.1 hq with rfl | hq
          · exact hb
          · exact h1 q hq
        exact .inr ⟨h3, cut1_miss h3⟩
theorem sb_mem {p : Nat → Bool} {s : ByteArray} (h : evB p s s.size = true) : ∀ b ∈ s.data.toList, p b.toNat = true := fun b hb => by
  obtain ⟨j, hj, rfl⟩ := List.mem_iff_getElem.1 hb
  have h2 := (evB_iff p s s.size).1 h j (by rw [Lib.size_eq]; exact hj)
  have e : sb s j = s.data.toList[j].toNat := by
    unfold sb
    rw [List.getD, List.getElem?_eq_getElem hj]
    rfl
  rw [← e]
  exact h2
theorem gdM_ev {m : ByteArray} (h : gdM m = true) : m ≠ ⟨#[]⟩ ∧ m.size ≤ 16 ∧ evB grB m m.size = true := by
  unfold gdM at h
  simp only [Bool.and_eq_true, Bool.not_eq_true', decide_eq_true_eq, decide_eq_false_iff_not] at h
  exact h
theorem gdT_ev {t : ByteArray} (h : gdT t = true) : (∃ r, t.data.toList = 47 :: r) ∧ evB tgB t t.size = true := by
  unfold gdT at h
  rw [Bool.and_eq_true] at h
  refine ⟨?_, h.2⟩
  have h1 : [47].isPrefixOf t.data.toList = true := h.1
  cases hl : t.data.toList with
  | nil => rw [hl] at h1; simp at h1
  | cons a r =>
    rw [hl] at h1
    simp only [List.isPrefixOf, Bool.and_true, beq_iff_eq] at h1
    exact ⟨r, by rw [h1]⟩
def vrL : List UInt8 := [72, 84, 84, 80, 47, 49, 46, 49]
theorem rdF_iff {s m t : ByteArray} : rdF s = some (m, t) ↔ s.data.toList = m.data.toList ++ 32 :: (t.data.toList ++ 32 :: vrL) ∧ gdM m = true ∧ gdT t = true := by
  have es : sp.data.toList = [32] := rfl
  have hv : ∀ x : List UInt8, (⟨x.toArray⟩ : ByteArray) = ver → x = vrL := fun x h => by
    have h2 := congrArg (fun z : ByteArray => z.data.toList) h
    simpa [ver, vrL] using h2
  have bk : ∀ b : ByteArray, (⟨b.data.toList.toArray⟩ : ByteArray) = b := fun b => by simp
  constructor
  · intro h
    unfold rdF cutA at h
    simp only [es] at h
    split at h
    · rename_i hc
      simp only [Option.some.injEq, Prod.mk.injEq] at h
      obtain ⟨h1, h2⟩ := h
      simp only [Bool.and_eq_true, decide_eq_true_eq] at hc
      obtain ⟨g1, g2, g3⟩ := hc
      rcases cut1_inv 32 s.data.toList with ⟨x, y, e1, _, e2⟩ | ⟨_, e2⟩
      · rw [e2] at h1 h2 g1 g2 g3
        simp only at h1 h2 g1 g2 g3
        rcases cut1_inv 32 y with ⟨x2, y2, e3, _, e4⟩ | ⟨_, e4⟩
        · rw [e4] at h2 g2 g3
          simp only at h2 g2 g3
          refine ⟨?_, by rw [← h1]; exact g1, by rw [← h2]; exact g2⟩
          rw [← h1, ← h2, e1, e3, hv y2 g3]
        · rw [e4] at g3
          simp only at g3
          cases hv [] g3
      · rw [e2] at g3
        simp only at g3
        have e5 : Lib.cut [] [32] = ([], [], false) := cut1_miss (fun b hb => by cases hb)
        rw [e5] at g3
        cases hv [] g3
    · cases h
  · rintro ⟨h, g1, g2⟩
    have n1 : ∀ b ∈ m.data.toList, b ≠ 32 := fun b hb e => by
      have := sb_mem (gdM_ev g1).2.2 b hb
      rw [e] at this
      exact absurd this (by decide)
    have n2 : ∀ b ∈ t.data.toList, b ≠ 32 := fun b hb e => by
      have := sb_mem (gdT_ev g2).2 b hb
      rw [e] at this
      exact absurd this (by decide)
    have c1 := cut1_hit h n1
    have c2 := cut1_hit (l := t.data.toList ++ 32 :: vrL) rfl n2
    unfold rdF cutA
    simp only [es]
    rw [c1]
    simp only
    rw [c2]
    simp only [bk]
    have e6 : decide ((⟨vrL.toArray⟩ : ByteArray) = ver) = true := decide_eq_true rfl
    rw [if_pos (by rw [g1, g2, e6]; rfl)]
end Go.Proofs.YtemhhlongfabmaaGreatDoor
