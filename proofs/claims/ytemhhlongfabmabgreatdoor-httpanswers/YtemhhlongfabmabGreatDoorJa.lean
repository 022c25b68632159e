/- An answer's head: its beginning, its end, its lines. -/
import Derived.Test.YtemhhlongfabmabGreatDoorHp
namespace Go.Proofs.YtemhhlongfabmabGreatDoor
open Go.ChangeShapes Go.WideShapes Go.ChangeAt Go.RowKit
set_option maxRecDepth 20000
set_option linter.unusedVariables false
set_option linter.unusedSimpArgs false
/- how many places hold CR and LF behind it -/
def cl : List Nat → Nat
  | [] => 0
  | x :: r => (if x = 13 ∧ r.head? = some 10 then 1 else 0) + cl r
theorem cl_skip {l r : List Nat} (h : ∀ x ∈ l, x ≠ 13) : cl (l ++ r) = cl r := by
  induction l with
  | nil => rfl
  | cons x t ih =>
    rw [List.cons_append, cl, if_neg (fun e => h x (by simp) e.1), ih (fun y hy => h y (by simp [hy])), Nat.zero_add]
theorem cl_crlf (r : List Nat) : cl (13 :: 10 :: r) = 1 + cl r := by simp [cl]
theorem cl_line {l r : List Nat} (h : ∀ x ∈ l, x ≠ 13) : cl (l ++ 13 :: 10 :: r) = 1 + cl r := by rw [cl_skip h, cl_crlf]
theorem cl_drop {l : List Nat} {i x y : Nat} (h : i + 1 < l.length) (hx : l.getD i 0 = x) (hy : l.getD (i + 1) 0 = y) : cl (l.drop i) = (if x = 13 ∧ y = 10 then 1 else 0) + cl (l.drop (i + 1)) := by
  rw [List.drop_eq_getElem_cons (by omega : i < l.length), cl, List.head?_drop]
  have e1 : l[i]'(by omega) = x := by rw [← hx]; simp [List.getD, (by omega : i < l.length)]
  have e2 : l[i + 1]? = some y := by rw [← hy]; simp [List.getD, h]
  rw [e1, e2]
  simp
theorem cl_one {l : List Nat} (h : l.length ≤ 1) : cl l = 0 := by
  match l, h with
  | [], _ => rfl
  | [x], _ => simp [cl]
theorem dec_ne (u : Nat) : ∀ x ∈ Lib.decDigits u, x ≠ 13 := by
  induction u using Nat.strongRecOn with
  | _ u ih =>
    rw [Lib.decDigits]
    have hd : ∀ k, k < 10 → UInt8.ofNat (48 + k) ≠ 13 := by decide
    split
    · rename_i h
      intro x hx
      rw [List.mem_singleton] at hx
      rw [hx]
      exact hd u h
    · intro x hx
      rcases List.mem_append.1 hx with hx | hx
      · exact ih (u / 10) (by omega) x hx
      · rw [List.mem_singleton] at hx
        rw [hx]
        exact hd _ (by omega)
theorem ito_ne (n : Int) : ∀ x ∈ bo (itS n), x ≠ 13 := by
  intro x hx
  unfold bo itS at hx
  obtain ⟨y, hy, rfl⟩ := List.mem_map.1 hx
  have hy : y ∈ Lib.itoa n := by simpa using hy
  have hz : y ≠ 13 := by
    unfold Lib.itoa at hy
    split at hy
    · rcases List.mem_cons.1 hy with rfl | hy
      · decide
      · exact dec_ne _ y hy
    · exact dec_ne _ y hy
  intro e
  exact hz (UInt8.toNat_inj.1 e)
theorem rsn_ne (st : Int) : ∀ x ∈ bo (rsn st), x ≠ 13 := by
  unfold rsn
  cases h : rsnL.find? (fun p => decide (p.1 = st)) with
  | none => simp; decide
  | some p =>
    have hp := List.mem_of_find?_eq_some h
    have : ∀ p ∈ rsnL, ∀ x ∈ bo p.2, x ≠ 13 := by decide
    simpa using this p hp
theorem rsn_pos (st : Int) : 0 < (rsn st).size := by
  unfold rsn
  cases h : rsnL.find? (fun p => decide (p.1 = st)) with
  | none => simp; decide
  | some p =>
    have hp := List.mem_of_find?_eq_some h
    have : ∀ p ∈ rsnL, 0 < p.2.size := by decide
    simpa using this p hp
def fA : ByteArray := ⟨#[97]⟩
def fB : ByteArray := ⟨#[98]⟩
/- the head -/
def hed (st : Int) (k : Nat) : List Nat := (bo (hdS st) ++ lnsB ([(fA, fB)] ++ [own k])) ++ [13, 10]
theorem wrt_hed (st : Int) (body : List Nat) : wrt st [(fA, fB)] body = hed st body.length ++ body := rfl
theorem hed_eq (st : Int) (k : Nat) : hed st k = (bo v9 ++ (bo (itS st) ++ ([32] ++ bo (rsn st)))) ++ 13 :: 10 :: ([97, 58, 32, 98] ++ 13 :: 10 :: ((bo cln ++ ([58, 32] ++ bo (itS k))) ++ 13 :: 10 :: ([] ++ [13, 10]))) := by
  unfold hed lnsB hdS lnS own
  simp only [List.flatMap_cons, List.flatMap_nil, List.cons_append, List.nil_append, bo_app, List.append_nil]
  have e1 : bo (⟨#[13, 10]⟩ : ByteArray) = [13, 10] := rfl
  have e2 : bo (⟨#[32]⟩ : ByteArray) = [32] := rfl
  have e3 : bo (⟨#[58, 32]⟩ : ByteArray) = [58, 32] := rfl
  have e4 : bo fA = [97] := rfl
  have e5 : bo fB = [98] := rfl
  rw [e1, e2, e3, e4, e5]
  simp
theorem hed_cl (st : Int) (k : Nat) : cl (hed st k) = 4 := by
  rw [hed_eq, cl_line, cl_line, cl_line]
  · simp [cl]
  · intro x hx
    rcases List.mem_append.1 hx with hx | hx
    · have : ∀ x ∈ bo cln, x ≠ 13 := by decide
      exact this x hx
    · rcases List.mem_append.1 hx with hx | hx
      · have : ∀ x ∈ [58, 32], x ≠ 13 := by decide
        exact this x hx
      · exact ito_ne _ x hx
  · decide
  · intro x hx
    rcases List.mem_append.1 hx with hx | hx
    · have : ∀ x ∈ bo v9, x ≠ 13 := by decide
      exact this x hx
    · rcases List.mem_append.1 hx with hx | hx
      · exact ito_ne _ x hx
      · rcases List.mem_append.1 hx with hx | hx
        · have : ∀ x ∈ [32], x ≠ 13 := by decide
          exact this x hx
        · exact rsn_ne _ x hx
theorem hed_len (st : Int) (k : Nat) : 13 ≤ (hed st k).length := by
  rw [hed_eq]
  have : (bo v9).length = 9 := rfl
  simp only [List.length_append, List.length_cons, List.length_nil]
  omega
theorem hed_beg (st : Int) (k : Nat) : (hed st k).take 9 = bo v9 := by
  rw [hed_eq, List.append_assoc]
  have : (bo v9).length = 9 := rfl
  rw [List.take_append_of_le_length (by omega), List.take_of_length_le (by omega)]
theorem hed_end (st : Int) (k : Nat) : (hed st k).drop ((hed st k).length - 4) = [13, 10, 13, 10] := by
  have e : ∃ p, hed st k = p ++ [13, 10, 13, 10] := by
    rw [hed_eq]
    exact ⟨(bo v9 ++ (bo (itS st) ++ ([32] ++ bo (rsn st)))) ++ 13 :: 10 :: ([97, 58, 32, 98] ++ 13 :: 10 :: (bo cln ++ ([58, 32] ++ bo (itS k)))), by simp⟩
  obtain ⟨p, hp⟩ := e
  rw [hp]
  simp
theorem hed_size (st : Int) (k : Nat) (h0 : -9223372036854775808 ≤ st) (h1 : st ≤ 9223372036854775807) (hk : k ≤ 9223372036854775807) : (hed st k).length ≤ 200 := by
  rw [hed_eq]
  have e1 : (bo v9).length = 9 := rfl
  have e2 : (bo cln).length = 14 := rfl
  have e3 := itS_size st h0 h1
  have e4 := itS_size (k : Int) (by omega) (by omega)
  have e5 := rsn_size st
  simp only [List.length_append, List.length_cons, List.length_nil, bo_len] at *
  omega
end Go.Proofs.YtemhhlongfabmabGreatDoor
