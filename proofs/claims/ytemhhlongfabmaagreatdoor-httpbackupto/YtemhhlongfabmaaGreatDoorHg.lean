/- A head's lines; what a head comes to. -/
import Derived.Test.YtemhhlongfabmaaGreatDoorHf
namespace Go.Proofs.YtemhhlongfabmaaGreatDoor
open Go.ChangeShapes Go.WideShapes Go.ChangeAt Go.RowKit
set_option maxRecDepth 20000
set_option linter.unusedVariables false
set_option linter.unusedSimpArgs false
def crlf : ByteArray := ⟨#[13, 10]⟩
def lns (s : ByteArray) : List ByteArray := Lib.splitB crlf 0 (Lib.countB s crlf) s
theorem lns_len (s : ByteArray) : (lns s).length = Lib.countB s crlf + 1 := Lib.splitB_all crlf (by decide) 0 _ s rfl
theorem ba_extract_size (s : ByteArray) (a b : Nat) : (s.extract a b).size ≤ s.size := by rw [ByteArray.size_extract]; omega
theorem splitB_size (c : ByteArray) (sv : Nat) : ∀ (k : Nat) (s x : ByteArray), x ∈ Lib.splitB c sv k s → x.size ≤ s.size
  | 0, s, x, h => by
    rw [Lib.splitB_zero] at h
    obtain rfl := List.mem_singleton.1 h
    exact Nat.le_refl _
  | k + 1, s, x, h => by
    unfold Lib.splitB at h
    split at h
    · obtain rfl := List.mem_singleton.1 h
      exact Nat.le_refl _
    · rcases List.mem_cons.1 h with rfl | h
      · exact ba_extract_size _ _ _
      · exact Nat.le_trans (splitB_size c sv k _ x h) (ba_extract_size _ _ _)
theorem lns_size {s x : ByteArray} (h : x ∈ lns s) : x.size ≤ s.size := splitB_size _ _ _ _ _ h
theorem lns_le (s : ByteArray) : (lns s).length ≤ s.size + 1 := by
  have := Lib.countB_le crlf (by decide) s.size s (Nat.le_refl _)
  rw [lns_len]
  omega
theorem split_n (s : ByteArray) (hs : s.size < 4294967281) {w : World} (hm : Hid (Mx w)) : Calls Tryz.prog 43 #[.string s, .string { data := #[13, 10] }] w fun e w' => e = .returned (.slice (some ⟨w.heap.size, 0, none⟩) (lns s).length (lns s).length) ∧ w' = w.alloc (.cells ((lns s).map Value.string).toArray 9) := by
  obtain ⟨m, hm⟩ := hm.out
  refine (Tryz.strings_Split s crlf m w hs hm (by decide)).mono ?_
  rintro e w' ⟨h1, h2⟩
  rw [lns_len]
  exact ⟨h1, h2⟩
/- all lines are fields -/
def flds : List ByteArray → Option (List Fl)
  | [] => some []
  | x :: r => match rdL x with
    | none => none
    | some f => match flds r with
      | none => none
      | some fs => some (f :: fs)
theorem flds_snoc : ∀ {l : List ByteArray} {x : ByteArray} {fs : List Fl} {f : Fl}, flds l = some fs → rdL x = some f → flds (l ++ [x]) = some (fs ++ [f])
  | [], x, fs, f, h, hx => by
    simp only [flds, Option.some.injEq] at h
    subst h
    simp [flds, hx]
  | y :: r, x, fs, f, h, hx => by
    simp only [flds] at h
    cases hy : rdL y with
    | none => rw [hy] at h; cases h
    | some g =>
      rw [hy] at h
      cases hr : flds r with
      | none => rw [hr] at h; cases h
      | some gs =>
        rw [hr] at h
        simp only [Option.some.injEq] at h
        subst h
        rw [List.cons_append, flds, hy, flds_snoc hr hx]
        rfl
theorem flds_bad : ∀ {l : List ByteArray} {i : Nat}, i < l.length → rdL (l.getD i ⟨#[]⟩) = none → flds l = none
  | [], i, h, _ => absurd h (by simp)
  | y :: r, 0, _, h => by
    have h1 : rdL y = none := by simpa using h
    simp [flds, h1]
  | y :: r, i + 1, h, hx => by
    rw [flds]
    cases hy : rdL y with
    | none => rfl
    | some g => rw [flds_bad (l := r) (i := i) (by simpa using h) (by simpa using hx)]
theorem flds_len : ∀ {l : List ByteArray} {fs : List Fl}, flds l = some fs → fs.length = l.length
  | [], fs, h => by simp only [flds, Option.some.injEq] at h; subst h; rfl
  | y :: r, fs, h => by
    simp only [flds] at h
    cases hy : rdL y with
    | none => rw [hy] at h; cases h
    | some g =>
      rw [hy] at h
      cases hr : flds r with
      | none => rw [hr] at h; cases h
      | some gs =>
        rw [hr] at h
        simp only [Option.some.injEq] at h
        subst h
        simp [flds_len hr]
theorem tri_size (s : ByteArray) : (triA s).size ≤ s.size := by
  have h : ∀ (l cs : List UInt8), (Lib.trimS l cs).length ≤ l.length := fun l cs => by
    unfold Lib.trimS Lib.trimRightS Lib.trimLeftS
    have h1 := List.dropWhile_sublist (cs.contains ·) (l := l)
    have h2 := h1.length_le
    first
      | (have h3 := (List.dropWhile_sublist (cs.contains ·) (l := (l.dropWhile (cs.contains ·)).reverse)).length_le
         simp only [List.length_reverse] at h3 ⊢
         omega)
      | (have h3 := (List.dropWhile_sublist (cs.contains ·) (l := l.reverse)).length_le
         have h4 := (List.dropWhile_sublist (cs.contains ·) (l := (l.reverse.dropWhile (cs.contains ·)).reverse)).length_le
         simp only [List.length_reverse] at h3 h4 ⊢
         omega)
  unfold triA
  rw [Lib.size_eq, Lib.size_eq]
  simpa using h s.data.toList [32, 9]
theorem rdL_size {s : ByteArray} {f : Fl} (h : rdL s = some f) : f.2.size ≤ s.size := by
  unfold rdL at h
  split at h
  · simp only [Option.some.injEq] at h
    rw [← h]
    exact Nat.le_trans (tri_size _) (cut_size s col).2
  · cases h
theorem flds_size {B : Nat} : ∀ {l : List ByteArray} {fs : List Fl}, flds l = some fs → (∀ x ∈ l, x.size ≤ B) → ∀ f ∈ fs, f.2.size ≤ B
  | [], fs, h, _, f, hf => by simp only [flds, Option.some.injEq] at h; subst h; cases hf
  | y :: r, fs, h, hB, f, hf => by
    simp only [flds] at h
    cases hy : rdL y with
    | none => rw [hy] at h; cases h
    | some g =>
      rw [hy] at h
      cases hr : flds r with
      | none => rw [hr] at h; cases h
      | some gs =>
        rw [hr] at h
        simp only [Option.some.injEq] at h
        subst h
        rcases List.mem_cons.1 hf with rfl | hf
        · exact Nat.le_trans (rdL_size hy) (hB y (by simp))
        · exact flds_size hr (fun x hx => hB x (by simp [hx])) f hf
/- what a head comes to: an error's number, or a request and its body's length -/
inductive HR where
  | bad (g : Nat)
  | ok (m t : ByteArray) (fs : List Fl) (z : Nat)
def rdH2 (m t : ByteArray) : Option (List Fl) → HR
  | none => .bad 12
  | some fs => if 32 < fs.length then .bad 0 else match bsz fs with
    | (z, none) => .ok m t fs z
    | (_, some g) => .bad g
def rdH1 (tl : List ByteArray) : Option (ByteArray × ByteArray) → HR
  | none => .bad 12
  | some (m, t) => rdH2 m t (flds tl)
def rdH (s : ByteArray) : HR := rdH1 (lns s).tail (rdF ((lns s).headD ⟨#[]⟩))
/- a row of fields of the call's own -/
def EF : Enc Fl := ⟨fun f => [.string f.1, .string f.2], 2, fun _ => rfl, fun x v hv => by
  simp only [List.mem_cons, List.not_mem_nil, or_false] at hv
  rcases hv with rfl | rfl <;> rfl⟩
theorem fw_rw {w : World} {lo : Nat} {a : Option Addr} {n c : Nat} {l : List Fl} (h : Rw w lo 41 EF a n c l) (hn : n ≤ 4398046511103) (hv : ∀ f ∈ l, f.2.size ≤ 140737488355328) : Fw w a n l := by
  have e := h.len
  refine ⟨e, hn, fun i hi => ?_, ?_⟩
  · have hi2 : i < l.length := by omega
    have e2 : l.getD i fz = l[i] := by simp [List.getD, hi2]
    rw [e2]
    exact hv _ (List.getElem_mem hi2)
  · by_cases h0 : n = 0
    · exact .inl h0
    · obtain ⟨g, rfl, _, h3, _⟩ := h.at_ (i := 0) (by omega)
      refine .inr ⟨g, 0, rfl, h3, fun i hi => ?_⟩
      have hi2 : i < l.length := by omega
      have e2 : l.getD i fz = l[i] := by simp [List.getD, hi2]
      obtain ⟨g', e3, _, _, r⟩ := h.at_ hi2
      cases e3
      rw [e2]
      have r0 := r 0 (.string l[i].1) rfl
      have r1 := r 1 (.string l[i].2) rfl
      have ez : EF.z = 2 := rfl
      rw [ez] at r0 r1
      simp only [Nat.zero_add, Nat.add_zero] at r0 r1 ⊢
      exact ⟨r0, r1⟩
end Go.Proofs.YtemhhlongfabmaaGreatDoor
