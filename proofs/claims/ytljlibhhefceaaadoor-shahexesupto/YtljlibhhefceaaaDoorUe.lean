/- Hexadecimal texts and bytes, there and back. -/
import Derived.Test.YtljlibhhefceaaaDoorUc
import Derived.Test.YtljlibhhefceaaaDoorUd
namespace Go.Proofs.YtljlibhhefceaaaDoor
open Go.ChangeShapes Go.WideShapes Go.ChangeAt Go.RowKit
set_option linter.unusedVariables false
set_option linter.unusedSimpArgs false
theorem spell_go (l : List Nat) : ∀ r : ByteArray, ((l.map fun x : Nat => (x : Int)).foldl (fun r n => r.push (UInt8.ofNat n.toNat)) r).data.toList = r.data.toList ++ l.map UInt8.ofNat := by
  induction l with
  | nil => intro r; simp
  | cons x l ih =>
    intro r
    simp only [List.map_cons, List.foldl_cons]
    rw [ih]
    simp [ByteArray.push]
theorem spell_data (l : List Nat) : (spell l).data.toList = l.map UInt8.ofNat := by
  have h := spell_go l ByteArray.empty
  have e : ByteArray.empty.data.toList = [] := rfl
  rw [e, List.nil_append] at h
  exact h
theorem spell_size (l : List Nat) : (spell l).size = l.length := by
  have h := congrArg List.length (spell_data l)
  simpa using h
theorem sb_spell {l : List Nat} (h : ∀ x ∈ l, x < 256) (i : Nat) : sb (spell l) i = l.getD i 0 := by
  unfold sb
  rw [spell_data]
  by_cases hi : i < l.length
  · have h2 := h l[i] (List.getElem_mem hi)
    simp [List.getD, hi]
    omega
  · simp [List.getD, hi]
theorem hexL_at (l : List Nat) (j : Nat) (hj : j < l.length) : (hexL l).getD (2 * j) 0 = hexd (l.getD j 0 / 16) ∧ (hexL l).getD (2 * j + 1) 0 = hexd (l.getD j 0 % 16) := by
  induction l generalizing j with
  | nil => simp at hj
  | cons c r ih =>
    cases j with
    | zero => simp [hexL]
    | succ j =>
      have h := ih j (by simpa using hj)
      have e1 : 2 * (j + 1) = 2 * j + 1 + 1 := by omega
      rw [e1]
      simp only [hexL, List.getD_cons_succ]
      exact h
theorem dig_hexd : ∀ x : Nat, x < 16 → dig (hexd x) = some x := by decide
theorem hexd_dig {c x : Nat} (h : dig c = some x) : hexd x = c := by
  unfold dig at h
  unfold hexd
  split at h
  · simp at h
    rw [if_pos (by omega)]
    omega
  · split at h
    · simp at h
      rw [if_neg (by omega)]
      omega
    · cases h
theorem hex_digits {l : List Nat} (h : ∀ x ∈ l, x < 256) : ∀ j, j < 2 * l.length → ∃ x, dig (sb (spell (hexL l)) j) = some x := by
  intro j hj
  rw [sb_spell (hexL_lt h)]
  have hb := getD_lt h (j / 2)
  obtain ⟨h1, h2⟩ := hexL_at l (j / 2) (by omega)
  by_cases he : j % 2 = 0
  · have e : 2 * (j / 2) = j := by omega
    rw [e] at h1
    rw [h1]
    exact ⟨_, dig_hexd _ (by omega)⟩
  · have e : 2 * (j / 2) + 1 = j := by omega
    rw [e] at h2
    rw [h2]
    exact ⟨_, dig_hexd _ (by omega)⟩
theorem unL_hex {l : List Nat} (h : ∀ x ∈ l, x < 256) : unL (spell (hexL l)) l.length = l := by
  apply List.ext_getElem
  · simp [unL]
  · intro j h1 h2
    have hb := h l[j] (List.getElem_mem h2)
    obtain ⟨a, b⟩ := hexL_at l j h2
    have e : l.getD j 0 = l[j] := by simp [List.getD, h2]
    rw [e] at a b
    have d1 : dg (sb (spell (hexL l)) (2 * j)) = l[j] / 16 := by rw [sb_spell (hexL_lt h), a]; unfold dg; rw [dig_hexd _ (by omega)]; rfl
    have d2 : dg (sb (spell (hexL l)) (2 * j + 1)) = l[j] % 16 := by rw [sb_spell (hexL_lt h), b]; unfold dg; rw [dig_hexd _ (by omega)]; rfl
    have e3 : (unL (spell (hexL l)) l.length)[j] = 16 * dg (sb (spell (hexL l)) (2 * j)) + dg (sb (spell (hexL l)) (2 * j + 1)) := by simp [unL]
    rw [e3, d1, d2]
    omega
theorem hex_back {s : ByteArray} {m : Nat} (hm : s.size = 2 * m) (hD : ∀ j, j < 2 * m → ∃ x, dig (sb s j) = some x) : spell (hexL (unL s m)) = s := by
  have key : (spell (hexL (unL s m))).data.toList = s.data.toList := by
    rw [spell_data]
    have hs : s.data.toList.length = 2 * m := by rw [← hm]; rfl
    apply List.ext_getElem
    · simp [hexL_length, unL_length]
      rw [← hm]
    · intro t h1 h2
      have ht : t < 2 * m := by omega
      have hl : t < (hexL (unL s m)).length := by rw [hexL_length, unL_length]; exact ht
      have hx : (hexL (unL s m)).getD t 0 = sb s t := by
        have hj : t / 2 < (unL s m).length := by rw [unL_length]; omega
        obtain ⟨a, b⟩ := hexL_at (unL s m) (t / 2) hj
        obtain ⟨x, hx⟩ := hD (2 * (t / 2)) (by omega)
        obtain ⟨y, hy⟩ := hD (2 * (t / 2) + 1) (by omega)
        have e : (unL s m).getD (t / 2) 0 = 16 * x + y := by
          have hjm : t / 2 < m := by omega
          simp [unL, List.getD, hjm, dg, hx, hy]
        have x16 := dig_lt hx
        have y16 := dig_lt hy
        rw [e] at a b
        by_cases he : t % 2 = 0
        · have e2 : 2 * (t / 2) = t := by omega
          rw [e2] at a hx
          have e3 : (16 * x + y) / 16 = x := by omega
          rw [a, e3]
          exact hexd_dig hx
        · have e2 : 2 * (t / 2) + 1 = t := by omega
          rw [e2] at b hy
          have e3 : (16 * x + y) % 16 = y := by omega
          rw [b, e3]
          exact hexd_dig hy
      have e5 : (hexL (unL s m))[t] = sb s t := by rw [← hx]; simp [List.getD, hl]
      rw [List.getElem_map, e5]
      unfold sb
      have h3 : t < s.data.size := by simpa using h2
      have e6 : s.data.toList.getD t 0 = s.data.toList[t] := by
        rw [List.getD, List.getElem?_eq_getElem h2]
        rfl
      rw [e6]
      simp
  have k2 : (spell (hexL (unL s m))).data = s.data := Array.toList_inj.1 key
  cases hs : spell (hexL (unL s m)) with
  | mk d =>
    cases s with
    | mk d2 =>
      rw [hs] at k2
      simp only at k2
      rw [k2]
end Go.Proofs.YtljlibhhefceaaaDoor
