/- The length that a request's fields give, by the document's loop: plain facts. -/
import Derived.Test.YtemhhlongfabmaaGreatDoorHf
import Derived.Test.YtemhhlongfabmaaGreatDoorHw
namespace Go.Proofs.YtemhhlongfabmaaGreatDoor
open Go.ChangeShapes Go.WideShapes Go.ChangeAt Go.RowKit
set_option maxRecDepth 20000
set_option linter.unusedVariables false
set_option linter.unusedSimpArgs false
structure SzI (l : List Fl) (i : Nat) (size : Int) (k : Nat) (ok : Bool) : Prop where
  nocod : ∀ j, j < i → (l.getD j fz).1 ≠ cod
  len : k = cntF (l.take i) cln
  okk : ok = true → ∀ v, fst? (l.take i) cln = some v → k = 1 → okD v = true
  bad : ok = false → k = 1 → ∀ v, fst? (l.take i) cln = some v → okD v = false
  sz0 : k = 0 → size = 0 ∧ ok = true
  sz1 : k = 1 → ok = true → ∀ v, fst? (l.take i) cln = some v → size = (numB v v.size : Nat)
theorem SzI.zero (l : List Fl) : SzI l 0 0 0 true := ⟨(fun j hj => by omega), rfl, (fun _ v hv => by cases hv), (fun h => by cases h), (fun _ => ⟨rfl, rfl⟩), (fun h => by cases h)⟩
theorem fst_cnt0 {nm : ByteArray} : ∀ {l : List Fl}, cntF l nm = 0 → fst? l nm = none
  | [], _ => rfl
  | f :: r, h => by
    unfold cntF at h
    rw [List.filter_cons] at h
    by_cases h0 : f.1 = nm
    · rw [if_pos (by simp [h0])] at h
      simp at h
    · rw [if_neg (by simp [h0])] at h
      rw [fst?, if_neg h0]
      exact fst_cnt0 h
theorem fst_cnt1 {nm : ByteArray} : ∀ {l : List Fl}, 0 < cntF l nm → ∃ v, fst? l nm = some v
  | [], h => by simp [cntF] at h
  | f :: r, h => by
    by_cases h0 : f.1 = nm
    · exact ⟨f.2, by rw [fst?, if_pos h0]⟩
    · unfold cntF at h
      rw [List.filter_cons, if_neg (by simp [h0])] at h
      obtain ⟨v, hv⟩ := fst_cnt1 (l := r) h
      exact ⟨v, by rw [fst?, if_neg h0]; exact hv⟩
theorem cod_cln : cod ≠ cln := by decide
/- a field of another name -/
theorem SzI.skip {l : List Fl} {i : Nat} {size : Int} {k : Nat} {ok : Bool} (h : SzI l i size k ok) (hi : i < l.length) (h1 : (l.getD i fz).1 ≠ cod) (h2 : (l.getD i fz).1 ≠ cln) : SzI l (i + 1) size k ok := by
  have ec := cnt_take (nm := cln) hi
  rw [if_neg h2, Nat.add_zero] at ec
  have ef := fst_take (nm := cln) hi
  rw [if_neg h2, Option.or_none] at ef
  refine ⟨fun j hj => ?_, by rw [ec]; exact h.len, by rw [ef]; exact h.okk, by rw [ef]; exact h.bad, h.sz0, by rw [ef]; exact h.sz1⟩
  by_cases e : j = i
  · rw [e]; exact h1
  · exact h.nocod j (by omega)
/- a length: its size and whether it is one, as the loop over its bytes leaves them -/
theorem SzI.take {l : List Fl} {i : Nat} {size size' : Int} {k : Nat} {ok ok' : Bool} (h : SzI l i size k ok) (hi : i < l.length) (h2 : (l.getD i fz).1 = cln)
    (hs : k = 0 → ok' = okD (l.getD i fz).2 ∧ (ok' = true → size' = (numB (l.getD i fz).2 (l.getD i fz).2.size : Nat))) : SzI l (i + 1) size' (k + 1) ok' := by
  have ec := cnt_take (nm := cln) hi
  rw [if_pos h2] at ec
  have ef := fst_take (nm := cln) hi
  rw [if_pos h2] at ef
  have one : k + 1 = 1 → k = 0 ∧ fst? (l.take (i + 1)) cln = some (l.getD i fz).2 := fun e => by
    have k0 : k = 0 := by omega
    rw [ef, fst_cnt0 (by rw [← h.len, k0])]
    exact ⟨k0, rfl⟩
  refine ⟨fun j hj => ?_, by rw [ec, ← h.len], fun o v hv e => ?_, fun o e v hv => ?_, fun e => by omega, fun e o v hv => ?_⟩
  · by_cases e : j = i
    · rw [e, h2]; exact fun e2 => cod_cln e2.symm
    · exact h.nocod j (by omega)
  · obtain ⟨k0, hf⟩ := one e
    rw [hf] at hv
    cases hv
    rw [← (hs k0).1]; exact o
  · obtain ⟨k0, hf⟩ := one e
    rw [hf] at hv
    cases hv
    rw [← (hs k0).1]; exact o
  · obtain ⟨k0, hf⟩ := one e
    rw [hf] at hv
    cases hv
    exact (hs k0).2 o
theorem bsz_cod {l : List Fl} {i : Nat} (hi : i < l.length) (h : (l.getD i fz).1 = cod) : bsz l = (0, some 12) := by
  have hc : 0 < cntF l cod := by
    unfold cntF
    refine List.length_pos_of_mem (a := l.getD i fz) (List.mem_filter.2 ⟨?_, decide_eq_true h⟩)
    simp [List.getD, hi]
  unfold bsz
  rw [if_pos hc]
theorem SzI.noc {l : List Fl} {size : Int} {k : Nat} {ok : Bool} (h : SzI l l.length size k ok) : cntF l cod = 0 := by
  unfold cntF
  rw [List.length_eq_zero_iff, List.filter_eq_nil_iff]
  intro f hf
  obtain ⟨j, hj, rfl⟩ := List.mem_iff_getElem.1 hf
  have := h.nocod j hj
  simpa [List.getD, hj] using this
theorem SzI.two {l : List Fl} {size : Int} {k : Nat} {ok : Bool} (h : SzI l l.length size k ok) (hk : 1 < k) : bsz l = (0, some 12) := by
  have e := h.len
  rw [List.take_length] at e
  unfold bsz
  rw [if_neg (by rw [h.noc]; omega), if_pos (by rw [← e]; exact hk)]
theorem SzI.no {l : List Fl} {size : Int} {k : Nat} (h : SzI l l.length size k false) : bsz l = (0, some 12) := by
  have e := h.len
  rw [List.take_length] at e
  by_cases hk : 1 < k
  · exact h.two hk
  · have k1 : k = 1 := by
      rcases Nat.eq_zero_or_pos k with h0 | h0
      · have := (h.sz0 h0).2
        cases this
      · omega
    obtain ⟨v, hv⟩ := fst_cnt1 (l := l) (nm := cln) (by rw [← e]; omega)
    have hb := h.bad rfl k1 v (by rw [List.take_length]; exact hv)
    unfold bsz
    rw [if_neg (by rw [h.noc]; omega), if_neg (by rw [← e]; exact hk), hv]
    simp [bszO, hb]
theorem SzI.yes {l : List Fl} {size : Int} {k : Nat} (h : SzI l l.length size k true) (hk : ¬ 1 < k) : 0 ≤ size ∧ bsz l = if 1024 < size then (0, some 0) else (size.toNat, none) := by
  have e := h.len
  rw [List.take_length] at e
  rcases Nat.eq_zero_or_pos k with h0 | h0
  · obtain ⟨s0, _⟩ := h.sz0 h0
    subst s0
    refine ⟨by omega, ?_⟩
    unfold bsz
    rw [if_neg (by rw [h.noc]; omega), if_neg (by rw [← e]; exact hk), fst_cnt0 (by rw [← e, h0])]
    rfl
  · have k1 : k = 1 := by omega
    obtain ⟨v, hv⟩ := fst_cnt1 (l := l) (nm := cln) (by rw [← e]; omega)
    have ho := h.okk rfl v (by rw [List.take_length]; exact hv) k1
    have hz := h.sz1 k1 rfl v (by rw [List.take_length]; exact hv)
    subst hz
    refine ⟨by omega, ?_⟩
    unfold bsz
    rw [if_neg (by rw [h.noc]; omega), if_neg (by rw [← e]; exact hk), hv]
    simp only [bszO, ho, if_true]
    by_cases h2 : 1024 < numB v v.size
    · rw [if_pos h2, if_pos (by omega)]
    · rw [if_neg h2, if_neg (by omega)]
      rfl
end Go.Proofs.YtemhhlongfabmaaGreatDoor
