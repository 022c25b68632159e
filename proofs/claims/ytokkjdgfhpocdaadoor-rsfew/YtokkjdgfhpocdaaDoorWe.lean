/- What Dot of package gf does, for all lists of bytes that lie in memory: it returns the sum of products, and only reads. -/
import Derived.Test.YtokkjdgfhpocdaaDoorWd
import Derived.Deep.QuietTactic
import Derived.BigQuiet
namespace Go.Proofs.YtokkjdgfhpocdaaDoor
open Go.ChangeShapes Go.WideShapes Go.ChangeAt Go.RowKit
/- A slice's elements as plain numbers below 256: nothing is asked where there is none. -/
def Row (w : World) (b off : Nat) (l : List Nat) : Prop := ∀ i, i < l.length → w.cell? ⟨b, off + i, none⟩ = some (.int .u8 (l.getD i 0 : Nat))
def Sl (w : World) (a : Option Addr) (l : List Nat) : Prop := (∀ x ∈ l, x < 256) ∧ l.length ≤ maxLen ∧ (l = [] ∨ ∃ b off, a = some ⟨b, off, none⟩ ∧ Row w b off l)
def dotN (a b : List Nat) : Nat → Nat
  | 0 => 0
  | k + 1 => dotN a b k ^^^ Gm.mul (a.getD k 0) (b.getD k 0)
def dot (a b : List Nat) : Nat := dotN a b (min a.length b.length)
theorem getD_lt {l : List Nat} (h : ∀ x ∈ l, x < 256) (i : Nat) : l.getD i 0 < 256 := by
  by_cases hi : i < l.length
  · have e : l.getD i 0 = l[i] := by simp [List.getD, hi]
    rw [e]; exact h _ (List.getElem_mem hi)
  · have e : l.getD i 0 = 0 := by simp [List.getD, Nat.le_of_not_lt hi]
    omega
theorem dotN_lt {a b : List Nat} (ha : ∀ x ∈ a, x < 256) (k : Nat) : dotN a b k < 256 := by
  induction k with
  | zero => simp [dotN]
  | succ k ih => exact Gm.xor_lt _ _ ih (Gm.mul_lt _ _ (getD_lt ha k))
theorem cell_drewN (w : World) (n : Nat) (a : Addr) : (w.drewN n).cell? a = w.cell? a := by simp [go_sem]
end Go.Proofs.YtokkjdgfhpocdaaDoor
