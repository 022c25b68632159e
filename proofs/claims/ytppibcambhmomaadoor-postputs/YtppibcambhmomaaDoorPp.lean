/- Short names for laws of lists that long walks name often. -/
import Derived.Test.YtppibcambhmomaaDoorProg
import Derived.Below
namespace Go.Proofs.YtppibcambhmomaaDoor
open Go.RowKit
theorem pG : (∀ {α : Type} (l : List α) (i : Nat) (h : i < l.toArray.size), l.toArray[i] = l[i]'(by simpa using h)) ∧ (∀ {α : Type} (a : α) (l : List α) (h : 0 < (a :: l).length), (a :: l)[0]'h = a) ∧ (∀ {α : Type} (a : α) (l : List α) (i : Nat) (h : i + 1 < (a :: l).length), (a :: l)[i + 1]'h = l[i]'(Nat.lt_of_succ_lt_succ h)) ∧ (∀ {α : Type} (l : List α) (i : Nat) (a : α), l.toArray.setIfInBounds i a = (l.set i a).toArray) ∧ (∀ {α : Type} (x : α) (xs : List α) (a : α), (x :: xs).set 0 a = a :: xs) ∧ (∀ {α : Type} (x : α) (xs : List α) (n : Nat) (a : α), (x :: xs).set (n + 1) a = x :: xs.set n a) := ⟨fun l i h => List.getElem_toArray h, fun _ _ _ => rfl, fun _ _ _ _ => rfl, fun l i a => by simp, fun _ _ _ => rfl, fun _ _ _ _ => rfl⟩
theorem gl {α : Type} {xs : Array α} {i : Nat} {v : α} (h : xs[i]? = some v) : i < xs.size := (Array.getElem?_eq_some_iff.1 h).1
theorem nm {α : Type} (e : α) : ∃ x, Hid (e = x) := ⟨e, rfl⟩
theorem sh {w w' : World} {g : Nat} {o : Obj} (H : Hid (Below w.heap.size w w')) (k : Hid (w.heap[g]? = some o)) : Hid (w'.heap[g]? = some o) := (H.out.block g (gl k.out)).trans k.out
theorem bt {w v u : World} (A : Hid (Below w.heap.size w v)) (B : Hid (Below v.heap.size v u)) : Hid (Below w.heap.size w u) := A.out.trans (B.out.mono A.out.size)
end Go.Proofs.YtppibcambhmomaaDoor
