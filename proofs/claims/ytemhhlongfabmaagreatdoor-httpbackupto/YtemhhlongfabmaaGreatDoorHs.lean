/- Bytes behind a request, and strict beginnings of one, on plain lists. -/
import Derived.Test.YtemhhlongfabmaaGreatDoorHr
namespace Go.Proofs.YtemhhlongfabmaaGreatDoor
open Go.ChangeShapes Go.WideShapes Go.ChangeAt Go.RowKit
set_option maxRecDepth 20000
set_option linter.unusedVariables false
set_option linter.unusedSimpArgs false
def hE : List UInt8 := [13, 10, 13, 10]
theorem pre_take {sub s : List UInt8} : sub.isPrefixOf s = true ↔ s.take sub.length = sub := by
  rw [List.isPrefixOf_iff_prefix]
  constructor
  · rintro ⟨t, rfl⟩
    exact List.take_left
  · intro h
    have h2 := List.take_append_drop sub.length s
    rw [h] at h2
    exact ⟨_, h2⟩
theorem occ_iff (s : List UInt8) (j : Nat) : Lib.occAt s hE j = true ↔ (s.drop j).take 4 = hE := by
  unfold Lib.occAt
  exact pre_take
theorem occ_eq {s s' : List UInt8} {m j : Nat} (h : s.take m = s'.take m) (hj : j + 4 ≤ m) : Lib.occAt s hE j = Lib.occAt s' hE j := by
  have e : ∀ u : List UInt8, (u.drop j).take 4 = ((u.take m).drop j).take 4 := fun u => by
    rw [List.drop_take, List.take_take, Nat.min_eq_left (by omega)]
  rw [Bool.eq_iff_iff, occ_iff, occ_iff, e s, e s', h]
theorem occ_len {s : List UInt8} {j : Nat} (h : Lib.occAt s hE j = true) : j + 4 ≤ s.length := by
  rw [occ_iff] at h
  have := congrArg List.length h
  simp only [List.length_take, List.length_drop] at this
  have e : hE.length = 4 := rfl
  omega
theorem ix_hit {l : List Nat} {e : Nat} (h : ixH l = (e : Int)) : e + 4 ≤ l.length ∧ Lib.occAt (l.map UInt8.ofNat) hE e = true ∧ ∀ j, j < e → Lib.occAt (l.map UInt8.ofNat) hE j = false := by
  unfold ixH at h
  rcases Lib.index_spec (l.map UInt8.ofNat) hE with ⟨h1, _⟩ | ⟨i, h1, h2, h3, h4⟩
  · rw [show ([13, 10, 13, 10] : List UInt8) = hE from rfl, h1] at h
    omega
  · rw [show ([13, 10, 13, 10] : List UInt8) = hE from rfl, h1] at h
    obtain rfl : i = e := by omega
    refine ⟨?_, h3, h4⟩
    have := occ_len h3
    simpa using this
theorem ix_of {l : List Nat} {e : Nat} (h1 : Lib.occAt (l.map UInt8.ofNat) hE e = true) (h2 : ∀ j, j < e → Lib.occAt (l.map UInt8.ofNat) hE j = false) : ixH l = (e : Int) := by
  have hl := occ_len h1
  exact Lib.index_first (by omega) h1 h2
theorem ix_no {l : List Nat} (h : ∀ j, Lib.occAt (l.map UInt8.ofNat) hE j = false) : ixH l = -1 := Lib.index_none (fun j _ => h j)
/- the same index where the first m are the same -/
theorem ix_same {l l' : List Nat} {e : Nat} (h : ixH l = (e : Int)) (ht : l.take (e + 4) = l'.take (e + 4)) : ixH l' = (e : Int) := by
  obtain ⟨h1, h2, h3⟩ := ix_hit h
  have hm : (l.map UInt8.ofNat).take (e + 4) = (l'.map UInt8.ofNat).take (e + 4) := by rw [← List.map_take, ← List.map_take, ht]
  exact ix_of (by rw [← occ_eq hm (Nat.le_refl _)]; exact h2) (fun j hj => by rw [← occ_eq hm (by omega)]; exact h3 j hj)
structure Got (l : List Nat) (m t : ByteArray) (fs : List Fl) (body : List Nat) (num e z : Nat) : Prop where
  ix : ixH (l.take 2048) = (e : Int)
  hd : rdH (spell (l.take e)) = .ok m t fs z
  z1 : z ≤ 1024
  e1 : e + 4 ≤ 2048
  len : num = e + 4 + z
  le : num ≤ l.length
  bd : body = (l.drop (e + 4)).take z
theorem got_of {l : List Nat} {m t : ByteArray} {fs : List Fl} {body : List Nat} {num : Nat} (h : prs l = .got m t fs body num) : ∃ e z, Got l m t fs body num e z := by
  unfold prs at h
  split at h
  · split at h <;> cases h
  · rename_i hx
    have hr := ix_room hx
    generalize hd : rdH (spell (l.take (ixH (l.take 2048)).toNat)) = r at h
    cases r with
    | bad g => cases h
    | ok m' t' fs' z =>
      simp only [prs2] at h
      split at h
      · cases h
      · rename_i hz
        simp only [PR.got.injEq] at h
        obtain ⟨rfl, rfl, rfl, h1, h2⟩ := h
        have hl : (l.take 2048).length ≤ l.length ∧ (l.take 2048).length ≤ 2048 := by simp; omega
        exact ⟨_, z, (by omega : ixH (l.take 2048) = _), hd, rdH_le hd, by omega, h2.symm, by omega, h1.symm⟩
theorem Got.prs {l : List Nat} {m t : ByteArray} {fs : List Fl} {body : List Nat} {num e z : Nat} (h : Got l m t fs body num e z) : prs l = .got m t fs body num := by
  unfold Proofs.YtemhhlongfabmaaGreatDoor.prs
  rw [h.ix, if_neg (by omega), Int.toNat_natCast, h.hd]
  unfold prs2
  dsimp only
  rw [if_neg (by have := h.le; have := h.len; omega), h.bd, h.len]
theorem take_app {l bh : List Nat} {k n : Nat} (h : k ≤ n) (hn : n ≤ l.length) : (l.take n ++ bh).take k = l.take k := by
  rw [List.take_append_of_le_length (by rw [List.length_take]; omega), List.take_take, Nat.min_eq_left h]
theorem got_behind {l : List Nat} {m t : ByteArray} {fs : List Fl} {body : List Nat} {num e z : Nat} (h : Got l m t fs body num e z) (bh : List Nat) : Got (l.take num ++ bh) m t fs body num e z := by
  have h1 := h.le
  have h2 := h.len
  have h3 := h.e1
  refine ⟨?_, ?_, h.z1, h.e1, h.len, by rw [List.length_append, List.length_take]; omega, ?_⟩
  · refine ix_same h.ix ?_
    rw [List.take_take, List.take_take, Nat.min_eq_left (by omega), take_app (by omega) h1]
  · rw [take_app (by omega) h1]
    exact h.hd
  · rw [h.bd]
    have e1 : (l.drop (e + 4)).take z = ((l.take num).drop (e + 4)).take z := by
      rw [List.drop_take, List.take_take, Nat.min_eq_left (by omega)]
    have e2 : ((l.take num ++ bh).drop (e + 4)).take z = ((l.take num).drop (e + 4)).take z := by
      rw [List.drop_append_of_le_length (by rw [List.length_take]; omega), List.take_append_of_le_length (by rw [List.length_drop, List.length_take]; omega)]
    rw [e1, e2]
theorem got_cut {l : List Nat} {m t : ByteArray} {fs : List Fl} {body : List Nat} {num e z : Nat} (h : Got l m t fs body num e z) {k : Nat} (hk : k < num) : prs (l.take k) = .wait := by
  have h1 := h.le
  have h2 := h.len
  have h3 := h.e1
  have kl : (l.take k).length = k := by rw [List.length_take]; omega
  unfold prs
  by_cases hk2 : k < e + 4
  · have hx : ixH ((l.take k).take 2048) = -1 := by
      refine ix_no (fun j => ?_)
      rw [Bool.eq_false_iff]
      intro ho
      have hj := occ_len ho
      rw [List.length_map, List.take_take, List.length_take] at hj
      obtain ⟨_, _, h6⟩ := ix_hit h.ix
      have hm : (((l.take k).take 2048).map UInt8.ofNat).take k = ((l.take 2048).map UInt8.ofNat).take k := by
        rw [← List.map_take, ← List.map_take, List.take_take, List.take_take, List.take_take]
        congr 2
        omega
      rw [occ_eq hm (by omega), h6 j (by omega)] at ho
      cases ho
    rw [hx, if_pos (by omega), if_neg (by omega)]
  · have hx : ixH ((l.take k).take 2048) = (e : Int) := by
      refine ix_same h.ix ?_
      rw [List.take_take, List.take_take, List.take_take]
      congr 1
      omega
    have ht : (l.take k).take e = l.take e := by rw [List.take_take, Nat.min_eq_left (by omega)]
    rw [hx, if_neg (by omega), Int.toNat_natCast, ht, h.hd]
    unfold prs2
    dsimp only
    rw [if_pos (by omega)]
end Go.Proofs.YtemhhlongfabmaaGreatDoor
