/- The whole message laid out, block by block, gives the digest: on plain numbers. -/
import Derived.Test.YtmkknklkdgkbaaaDoorSa
namespace Go.Proofs.YtmkknklkdgkbaaaDoor
set_option linter.unusedVariables false
set_option linter.unusedSimpArgs false
namespace Gs
def cnt8 (c : Nat) : List Nat := [c / 256 ^ 7 % 256, c / 256 ^ 6 % 256, c / 256 ^ 5 % 256, c / 256 ^ 4 % 256, c / 256 ^ 3 % 256, c / 256 ^ 2 % 256, c / 256 ^ 1 % 256, c / 256 ^ 0 % 256]
def gap (n : Nat) : Nat := (119 - n % 64) % 64
def msg (l : List Nat) : List Nat := l ++ ([128] ++ List.replicate (gap l.length) 0 ++ cnt8 (l.length * 8 % 18446744073709551616))
theorem countN_eq (p : List Nat) (hp : p.length = 56) (s0 s1 s2 s3 s4 s5 s6 s7 c : Nat) : countN (p ++ [s0, s1, s2, s3, s4, s5, s6, s7]) c 8 = p ++ cnt8 c := by
  have h : ∀ (k x : Nat) (r : List Nat), (p ++ r).set (56 + k) x = p ++ r.set k x := by
    intro k x r
    rw [List.set_append_right _ _ (by omega)]
    congr 2
    omega
  simp only [countN]
  rw [show (63 - 0 : Nat) = 56 + 7 from rfl, h, show (63 - (0 + 1) : Nat) = 56 + 6 from rfl, h, show (63 - (0 + 1 + 1) : Nat) = 56 + 5 from rfl, h, show (63 - (0 + 1 + 1 + 1) : Nat) = 56 + 4 from rfl, h,
    show (63 - (0 + 1 + 1 + 1 + 1) : Nat) = 56 + 3 from rfl, h, show (63 - (0 + 1 + 1 + 1 + 1 + 1) : Nat) = 56 + 2 from rfl, h, show (63 - (0 + 1 + 1 + 1 + 1 + 1 + 1) : Nat) = 56 + 1 from rfl, h, show (63 - (0 + 1 + 1 + 1 + 1 + 1 + 1 + 1) : Nat) = 56 + 0 from rfl, h]
  rfl
theorem counting_eq (b : List Nat) (hb : b.length = 64) (n : Nat) : counting b n = b.take 56 ++ cnt8 (n * 8 % 18446744073709551616) := by
  have e : b = b.take 56 ++ b.drop 56 := (List.take_append_drop 56 b).symm
  have hd : (b.drop 56).length = 8 := by simp [hb]
  have hp : (b.take 56).length = 56 := by simp [hb]
  match h : b.drop 56, hd with
  | [s0, s1, s2, s3, s4, s5, s6, s7], _ =>
    unfold counting
    rw [e, h, countN_eq _ hp, List.take_left' hp]
theorem wordsN_prefix (A x : List Nat) (n : Nat) (h : 64 * n ≤ A.length) : wordsN (A ++ x) n = wordsN A n := by
  induction n with
  | zero => rfl
  | succ n ih =>
    have e : ((A ++ x).drop (64 * n)).take 64 = (A.drop (64 * n)).take 64 := by
      rw [List.drop_append_of_le_length (by omega), List.take_append_of_le_length (by simp; omega)]
    show after (wordsN (A ++ x) n) _ = after (wordsN A n) _
    rw [ih (by omega), e]
theorem msg_length (l : List Nat) : (msg l).length = 64 * (l.length / 64) + (if l.length % 64 < 56 then 64 else 128) := by
  simp [msg, gap, cnt8]
  split <;> omega
theorem pad_set (t : List Nat) (ht : t.length < 64) : (pad t).set t.length 128 = t ++ ([128] ++ List.replicate (63 - t.length) 0) := by
  have e : 64 - t.length = (63 - t.length) + 1 := by omega
  simp [pad, e, List.replicate_succ]
theorem take56 (t : List Nat) (ht : t.length < 56) : (t ++ ([128] ++ List.replicate (63 - t.length) 0)).take 56 = t ++ ([128] ++ List.replicate (55 - t.length) 0) := by
  rw [List.take_append, List.take_of_length_le (by omega)]
  have e : 56 - t.length = (55 - t.length) + 1 := by omega
  rw [e]
  simp
  omega
theorem sum_msg (l : List Nat) : digest (wordsN (msg l) ((msg l).length / 64)) = sum l := by
  obtain ⟨q, hq⟩ : ∃ q, q = l.length / 64 := ⟨_, rfl⟩
  obtain ⟨t, ht⟩ : ∃ t, t = l.drop (64 * q) := ⟨_, rfl⟩
  have htl : t.length = l.length % 64 := by rw [ht, hq]; simp; omega
  have hr : rest l = pad t := by unfold rest; rw [ht, hq]
  have hw : wordsN (msg l) q = words l := by
    unfold msg words
    rw [wordsN_prefix _ _ _ (by rw [hq]; omega), hq]
  have hd : (msg l).drop (64 * q) = t ++ ([128] ++ List.replicate (gap l.length) 0 ++ cnt8 (l.length * 8 % 18446744073709551616)) := by
    unfold msg
    rw [List.drop_append_of_le_length (by rw [hq]; omega), ht]
  have hc8 : ∀ c, (cnt8 c).length = 8 := fun _ => rfl
  by_cases h : l.length % 64 < 56
  · have hn : (msg l).length / 64 = q + 1 := by rw [msg_length, if_pos h, hq]; omega
    have hg : gap l.length = 55 - t.length := by unfold gap; rw [htl]; omega
    rw [hn]
    unfold sum
    rw [if_pos h, hr]
    show digest (after (wordsN (msg l) q) (((msg l).drop (64 * q)).take 64)) = _
    rw [hw, hd, hg]
    have e1 : (t ++ ([128] ++ List.replicate (55 - t.length) 0 ++ cnt8 (l.length * 8 % 18446744073709551616))).take 64 = t ++ ([128] ++ List.replicate (55 - t.length) 0 ++ cnt8 (l.length * 8 % 18446744073709551616)) := List.take_of_length_le (by simp [hc8]; omega)
    rw [e1, ← htl, pad_set t (by omega), counting_eq _ (by simp; omega), take56 t (by omega)]
    simp
  · have hn : (msg l).length / 64 = q + 1 + 1 := by rw [msg_length, if_neg h, hq]; omega
    have hg : gap l.length = (63 - t.length) + 56 := by unfold gap; rw [htl]; omega
    have hA : (t ++ ([128] ++ List.replicate (63 - t.length) 0)).length = 64 := by simp; omega
    have hd2 : (msg l).drop (64 * q) = (t ++ ([128] ++ List.replicate (63 - t.length) 0)) ++ (List.replicate 56 0 ++ cnt8 (l.length * 8 % 18446744073709551616)) := by
      rw [hd, hg, ← List.replicate_append_replicate]
      simp
    rw [hn]
    unfold sum
    rw [if_neg h, hr]
    show digest (after (after (wordsN (msg l) q) (((msg l).drop (64 * q)).take 64)) (((msg l).drop (64 * (q + 1))).take 64)) = _
    have e1 : ((msg l).drop (64 * q)).take 64 = t ++ ([128] ++ List.replicate (63 - t.length) 0) := by rw [hd2, List.take_left' hA]
    have e2 : ((msg l).drop (64 * (q + 1))).take 64 = List.replicate 56 0 ++ cnt8 (l.length * 8 % 18446744073709551616) := by
      rw [show 64 * (q + 1) = 64 * q + 64 from by omega, ← List.drop_drop, hd2, List.drop_left' hA, List.take_of_length_le (by simp [hc8])]
    rw [hw, e1, e2, ← htl, pad_set t (by omega), counting_eq _ (by simp [pad])]
    rfl
end Gs
end Go.Proofs.YtmkknklkdgkbaaaDoor
