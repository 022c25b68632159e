/- The sum of bytes, on plain numbers. -/
import Derived.Test.YtoegfckafnlknaaDoorProg
namespace Go.Proofs.YtoegfckafnlknaaDoor
set_option maxRecDepth 20000
set_option linter.unusedVariables false
set_option linter.unusedSimpArgs false
def stp (s x : Nat) : Nat := ((s ^^^ x) * 16777619) % 4294967296
def fnv (s : Nat) (l : List Nat) : Nat := l.foldl stp s
theorem fold_snoc {f : Nat → Nat → Nat} (l : List Nat) (s x : Nat) : (l ++ [x]).foldl f s = f (l.foldl f s) x := by simp
theorem fnv_snoc (l : List Nat) (s x : Nat) : fnv s (l ++ [x]) = stp (fnv s l) x := fold_snoc (f := stp) l s x
def fsum (l : List Nat) : Nat := fnv 2166136261 l
def be4 (s : Nat) : List Nat := [s / 16777216 % 256, s / 65536 % 256, s / 256 % 256, s % 256]
def sealL (l : List Nat) : List Nat := l ++ be4 (fsum l)
theorem stp_lt (s x : Nat) : stp s x < 4294967296 := Nat.mod_lt _ (by omega)
theorem fnv_lt (l : List Nat) : ∀ s, s < 4294967296 → fnv s l < 4294967296 := by
  induction l with
  | nil => exact fun s h => h
  | cons x t ih => exact fun s h => ih _ (stp_lt s x)
theorem fsum_lt (l : List Nat) : fsum l < 4294967296 := fnv_lt l _ (by omega)
theorem stp_back {s x : Nat} (hs : s < 4294967296) (hx : x < 4294967296) : (stp s x * 899433627) % 4294967296 = s ^^^ x := by
  have hb : s ^^^ x < 4294967296 := Nat.xor_lt_two_pow (n := 32) hs hx
  unfold stp
  generalize s ^^^ x = y at hb ⊢
  rw [Nat.mod_mul_mod, Nat.mul_assoc, show 16777619 * 899433627 = 3513497 * 4294967296 + 1 from rfl] 
  rw [Nat.mul_add, Nat.mul_one, ← Nat.mul_assoc, Nat.mul_add_mod_self_right, Nat.mod_eq_of_lt hb]
theorem xor_left {s t x : Nat} (h : s ^^^ x = t ^^^ x) : s = t := by
  have := congrArg (· ^^^ x) h
  simpa [Nat.xor_assoc] using this
theorem xor_right {s x y : Nat} (h : s ^^^ x = s ^^^ y) : x = y := by
  have := congrArg (s ^^^ ·) h
  simpa [← Nat.xor_assoc] using this
theorem stp_inj {s t x : Nat} (hs : s < 4294967296) (ht : t < 4294967296) (hx : x < 4294967296) (h : stp s x = stp t x) : s = t := by
  have a := stp_back hs hx
  rw [h, stp_back ht hx] at a
  exact (xor_left a).symm
theorem stp_two {s x y : Nat} (hs : s < 4294967296) (hx : x < 4294967296) (hy : y < 4294967296) (h : stp s x = stp s y) : x = y := by
  have a := stp_back hs hx
  rw [h, stp_back hs hy] at a
  exact (xor_right a).symm
theorem fnv_inj (l : List Nat) (hl : ∀ x ∈ l, x < 256) : ∀ s t, s < 4294967296 → t < 4294967296 → fnv s l = fnv t l → s = t := by
  induction l with
  | nil => exact fun s t _ _ h => h
  | cons x r ih =>
    intro s t hs ht h
    have hx := hl x (List.mem_cons_self ..)
    have := ih (fun y hy => hl y (List.mem_cons_of_mem _ hy)) (stp s x) (stp t x) (stp_lt ..) (stp_lt ..) h
    exact stp_inj hs ht (by omega) this
theorem fnv_set (l : List Nat) (hl : ∀ x ∈ l, x < 256) : ∀ (s i tb : Nat), s < 4294967296 → tb < 256 → i < l.length → fnv s (l.set i tb) = fnv s l → l.getD i 0 = tb := by
  induction l with
  | nil => intro s i tb _ _ hi; simp at hi
  | cons x r ih =>
    intro s i tb hs hto hi h
    have hx := hl x (List.mem_cons_self ..)
    have hr := fun y hy => hl y (List.mem_cons_of_mem x hy)
    cases i with
    | zero =>
      have := fnv_inj r hr (stp s tb) (stp s x) (stp_lt ..) (stp_lt ..) h
      have := stp_two hs (by omega) (by omega) this
      simp [this]
    | succ i =>
      have := ih hr (stp s x) i tb (stp_lt ..) hto (by simpa using hi) h
      simpa using this
theorem be4_inj {s t : Nat} (hs : s < 4294967296) (ht : t < 4294967296) (h : be4 s = be4 t) : s = t := by
  simp only [be4, List.cons.injEq, and_true] at h
  omega
theorem be4_len (s : Nat) : (be4 s).length = 4 := rfl
theorem be4_bytes (s : Nat) : ∀ x ∈ be4 s, x < 256 := by
  intro x hx
  simp only [be4, List.mem_cons, List.not_mem_nil, or_false] at hx
  omega
theorem seal_len (l : List Nat) : (sealL l).length = l.length + 4 := by simp [sealL, be4]
theorem seal_bytes {l : List Nat} (hl : ∀ x ∈ l, x < 256) : ∀ x ∈ sealL l, x < 256 := by
  intro x hx
  rcases List.mem_append.1 hx with h | h
  · exact hl x h
  · exact be4_bytes _ x h
theorem seal_take (l : List Nat) : (sealL l).take ((sealL l).length - 4) = l := by
  rw [seal_len, Nat.add_sub_cancel]
  simp [sealL]
/-- One byte changed: the sum is no longer right. -/
theorem seal_slip {l : List Nat} (hl : ∀ x ∈ l, x < 256) {i tb : Nat} (hi : i < (sealL l).length) (hto : tb < 256) (hne : (sealL l).getD i 0 ≠ tb) :
    sealL (((sealL l).set i tb).take (((sealL l).set i tb).length - 4)) ≠ (sealL l).set i tb := by
  intro h
  rw [List.length_set, seal_len, Nat.add_sub_cancel] at h
  by_cases h1 : i < l.length
  · have e1 : (sealL l).set i tb = l.set i tb ++ be4 (fsum l) := by rw [sealL, List.set_append_left _ _ h1]
    have e2 : (l.set i tb ++ be4 (fsum l)).take l.length = l.set i tb := by rw [List.take_append_of_le_length (by simp)]; exact List.take_of_length_le (by simp)
    rw [e1, e2, sealL] at h
    have := be4_inj (fsum_lt _) (fsum_lt _) (List.append_cancel_left h)
    have := fnv_set l hl 2166136261 i tb (by omega) hto h1 this
    apply hne
    rw [sealL, List.getD_eq_getElem?_getD, List.getElem?_append_left h1, ← List.getD_eq_getElem?_getD]
    exact this
  · have e1 : (sealL l).set i tb = l ++ (be4 (fsum l)).set (i - l.length) tb := by rw [sealL, List.set_append_right _ _ (by omega)]
    have e2 : (l ++ (be4 (fsum l)).set (i - l.length) tb).take l.length = l := by simp
    rw [e1, e2] at h
    rw [sealL] at h
    have h2 := List.append_cancel_left h
    apply hne
    have hi' : i - l.length < (be4 (fsum l)).length := by rw [seal_len] at hi; rw [be4_len]; omega
    have := congrArg (fun q => q.getD (i - l.length) 0) h2
    rw [sealL, List.getD_eq_getElem?_getD, List.getElem?_append_right (by omega), ← List.getD_eq_getElem?_getD, this]
    simp [List.getD_eq_getElem?_getD, hi']
end Go.Proofs.YtoegfckafnlknaaDoor
