import Derived.Test.YtoegfckafnlknaaDoorMEa
import Derived.Laws.IdiomStrings
import Derived.Laws.Concat
/- Eb -/
/- The document's Put. -/
namespace Go.Proofs.YtoegfckafnlknaaDoor
open Go.ChangeShapes Go.WideShapes Go.ChangeAt Go.RowKit
set_option maxRecDepth 20000
set_option linter.unusedVariables false
set_option linter.unusedSimpArgs false
/- what '[]byte(s)' lays -/
def cvC (X : World) (s : ByteArray) : Nat := grownCap X s.size 0 5
def cvW (X : World) (s : ByteArray) : World := X.drew.alloc (.cells (bytesRow s (cvC X s)) 5 ((bytesRow s (cvC X s)).size, (bytesRow s (cvC X s)).size + 1))
/- the bytes so far, and the command in its box -/
structure Rp (w W : World) (g1 : Nat) (A : Array Value) (a : Option Addr) (n c : Nat) (L : List Nat) (m : Nat) : Prop where
  own : Own W (g1 + 1) a n c L
  h1 : W.heap[g1]? = some (.cells A 28 (0, 0))
  bel : Below w.heap.size w W
  ln : n ≤ m
  lw : w.heap.size ≤ g1
section
variable {w W W1 W' : World} {g1 : Nat} {A : Array Value} {a a' : Option Addr} {n c n' c' : Nat} {L L' : List Nat} {m m' : Nat}
theorem Rp.lt (h : Rp w W g1 A a n c L m) : g1 + 1 ≤ W.heap.size := (Array.getElem?_eq_some_iff.1 h.h1).1
theorem Rp.below (h : Rp w W g1 A a n c L m) (hb : Below W.heap.size W W') : Rp w W' g1 A a n c L m := ⟨h.own.below hb, (hb.block _ (Array.getElem?_eq_some_iff.1 h.h1).1).trans h.h1, h.bel.trans (hb.mono h.bel.size), h.ln, h.lw⟩
theorem Rp.cell (h : Rp w W g1 A a n c L m) (j : Nat) (v : Value) (hv : A[j]? = some v) : W.cell? ⟨g1, j, none⟩ = some v := by simp [World.cell?, h.h1, hv]
theorem Rp.ch (h : Rp w W g1 A a n c L m) (hc : Ch W W' (fun q => blkOf a = some q)) (ho : Own W' (g1 + 1) a' n' c' L') (hm : n' ≤ m') : Rp w W' g1 A a' n' c' L' m' :=
  ⟨ho, (hc.block g1 (Array.getElem?_eq_some_iff.1 h.h1).1 (fun e => by have := (h.own.ge g1 e).1; omega)).trans h.h1, h.bel.trans (hc.toBelow h.bel.size (fun q hq e => by have := (h.own.ge q e).1; have := h.lw; omega)), hm, h.lw⟩
theorem Rp.gr (h : Rp w W g1 A a n c L m) (hG : Gr W W' (g1 + 1) a a' n' c' L') (hm : n' ≤ m') : Rp w W' g1 A a' n' c' L' m' := h.ch hG.ch hG.own hm
theorem encs_le {l : List Nat} (h : ∀ x ∈ l, x < 9223372036854775808) : (encs l).length ≤ l.length * 9 := by
  induction l with
  | nil => exact Nat.le_refl _
  | cons x l ih =>
    have h1 := enc_nine (h x (List.mem_cons_self ..))
    have h2 := ih (fun y hy => h y (List.mem_cons_of_mem _ hy))
    show (enc x ++ encs l).length ≤ _
    rw [List.length_append, List.length_cons]
    omega
/- numbers that are written out: a row of their own -/
end
end Go.Proofs.YtoegfckafnlknaaDoor
