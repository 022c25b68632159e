/- One conversion, or two, each standing till the operation c that uses it has come up. -/
import Derived.Test.YtnckcaaejfckaaaDoorOr
namespace Go.Proofs.YtnckcaaejfckaaaDoor
set_option linter.unusedVariables false
theorem getD_off1 {L : Array Bool} {c : Nat} (h : L.getD c true = false) : L.getD c false = false := by
  rcases Nat.lt_or_ge c L.size with h' | h'
  · simp [h'] at h ⊢; exact h
  · simp [Array.getElem?_eq_none h'] at h
def cv1 (c : Nat) (v : Value) (t : ByteArray) (L : Array Bool) (W : World) : Prop := L.getD c false = true ∨ (convert 22 9 v).run Tryd.prog W = .ok (.string t) W
theorem cv1_set {c i : Nat} {v : Value} {t : ByteArray} {L : Array Bool} {W : World} (h : i ≠ c) : cv1 c v t (L.setIfInBounds i true) W ↔ cv1 c v t L W := by
  unfold cv1
  rw [getD_set_ne false h]
theorem cv1_get {c : Nat} {v : Value} {t : ByteArray} {L : Array Bool} {W : World} (h : L.getD c true = false) (hs : cv1 c v t L W) : (convert 22 9 v).run Tryd.prog W = .ok (.string t) W := hs.resolve_left (by rw [getD_off1 h]; decide)
end Go.Proofs.YtnckcaaejfckaaaDoor
