/- Ground: frames by sets of blocks, rows of the call's own, rows of ints. -/
import Derived.Test.YtemhhlongfabmaaGreatDoorRows
import Derived.WalkKit
import Derived.ProofKit
import Derived.OpenShut
import Derived.Outline
import Derived.Handy
import Derived.Deep.QuietTactic
import Derived.BigQuiet
import Derived.WalkSmall
import Derived.Laws.Tables
import Derived.Laws.CopyOwn
import Derived.Laws.OwnMore
import Derived.Deep.MidRow
import Derived.Deep.WholeRow
import Derived.StillTailTactics
import Derived.WalkLawsBesides
import Derived.SizedLaws
import Derived.ChangeOld
import Derived.Below
import Derived.Lib.SmallJoins
namespace Go.Proofs.YtemhhlongfabmaaGreatDoor
open Go.ChangeShapes Go.WideShapes Go.ChangeAt Go.RowKit
set_option maxRecDepth 20000
set_option linter.unusedVariables false
set_option linter.unusedSimpArgs false
theorem retB {b c : Bool} (h : b = c) : Ending.returned (.bool c) = .returned (.bool b) := by rw [h]
theorem cell_lt {w : World} {b off : Nat} {v : Value} (h : w.cell? ⟨b, off, none⟩ = some v) : b < w.heap.size := by
  unfold World.cell? at h
  rcases hb : w.heap[b]? with _ | o
  · simp [hb] at h
  · exact (Array.getElem?_eq_some_iff.1 hb).1
/- all but the blocks of S, and what is new, is as it was -/
structure Ch (w w' : World) (S : Nat → Prop) : Prop where
  os : w'.os = w.os
  tape : w'.tape = w.tape
  output : w'.output = w.output
  size : w.heap.size ≤ w'.heap.size
  block : ∀ k, k < w.heap.size → ¬ S k → w'.heap[k]? = w.heap[k]?
theorem Ch.below {w w' : World} {S : Nat → Prop} (h : Below w.heap.size w w') : Ch w w' S := ⟨h.os, h.tape, h.output, h.size, fun k hk _ => h.block k hk⟩
theorem Ch.refl (w : World) (S : Nat → Prop) : Ch w w S := ⟨rfl, rfl, rfl, Nat.le_refl _, fun _ _ _ => rfl⟩
theorem Ch.trans {a b c : World} {S : Nat → Prop} (h : Ch a b S) (k : Ch b c S) : Ch a c S :=
  ⟨k.os.trans h.os, k.tape.trans h.tape, k.output.trans h.output, Nat.le_trans h.size k.size, fun i hi hn => (k.block i (Nat.lt_of_lt_of_le hi h.size) hn).trans (h.block i hi hn)⟩
theorem Ch.weak {a b : World} {S T : Nat → Prop} (h : Ch a b S) (hs : ∀ q, q < a.heap.size → S q → T q) : Ch a b T :=
  ⟨h.os, h.tape, h.output, h.size, fun i hi hn => h.block i hi (fun hs' => hn (hs i hi hs'))⟩
/- the second change may touch what is new -/
theorem Ch.then {a b c : World} {S T U : Nat → Prop} (h : Ch a b S) (k : Ch b c T) (hs : ∀ q, q < a.heap.size → S q → U q) (ht : ∀ q, q < a.heap.size → T q → U q) : Ch a c U :=
  ⟨k.os.trans h.os, k.tape.trans h.tape, k.output.trans h.output, Nat.le_trans h.size k.size, fun i hi hn => (k.block i (Nat.lt_of_lt_of_le hi h.size) (fun x => hn (ht i hi x))).trans (h.block i hi (fun x => hn (hs i hi x)))⟩
theorem Ch.toBelow {a b : World} {S : Nat → Prop} {B : Nat} (h : Ch a b S) (hB : B ≤ a.heap.size) (hs : ∀ q, q < B → ¬ S q) : Below B a b :=
  ⟨h.os, h.tape, h.output, h.size, fun k hk => h.block k (Nat.lt_of_lt_of_le hk hB) (hs k hk)⟩
theorem Ch.cell {w w' : World} {S : Nat → Prop} (h : Ch w w' S) {p : Addr} (hl : p.block < w.heap.size) (hp : ¬ S p.block) : w'.cell? p = w.cell? p := World.cell?_of_block (w := w) (h.block p.block hl hp)
theorem Ch.set (w : World) (g i : Nat) (v : Value) : Ch w (w.setCell ⟨g, i, none⟩ v) (fun q => q = g) := ⟨rfl, rfl, rfl, by simp [World.setCell], fun k _ hk => Below.heap_setCell _ _ _ _ hk⟩
theorem Ch.drew (w : World) (S : Nat → Prop) : Ch w w.drew S := ⟨rfl, rfl, rfl, Nat.le_refl _, fun _ _ _ => rfl⟩
theorem Ch.alloc (w : World) (o : Obj) (S : Nat → Prop) : Ch w (w.alloc o) S := Ch.below ((Below.refl _ w).alloc (Nat.le_refl _) o)
theorem alloc1 (w : World) (o : Obj) : Below w.heap.size w (w.alloc o) := (Below.refl _ w).alloc (Nat.le_refl _) o
theorem alloc2 (w : World) (o o2 : Obj) : Below w.heap.size w ((w.alloc o).alloc o2) := (alloc1 w o).alloc (by simp) o2
theorem set_blk {w : World} {g : Nat} {C : Array Value} {t : TypeId} {fr : Nat × Nat} (h : w.heap[g]? = some (.cells C t fr)) (i : Nat) (v : Value) : (w.setCell ⟨g, i, none⟩ v).heap[g]? = some (.cells (C.setIfInBounds i v) t fr) := by
  rw [setCell_eq_setRow w g i _ t fr _ h]
  exact setRow_heap w g _ _ t fr h
/- rows of the call's own -/
def blkOf (a : Option Addr) : Option Nat := a.map Addr.block
theorem ownBlock_slice (a : Option Addr) (n c : Nat) : (Value.slice a n c).ownBlock = blkOf a := by cases a <;> rfl
theorem rown_bel {w w' : World} {B : Nat} {t : TypeId} {z : Nat} {v : Value} {n : Nat} {xs : List Value} (h : w.ownsRow B t z v n xs) (hb : ∀ q, v.ownBlock = some q → w'.heap[q]? = w.heap[q]?) : w'.ownsRow B t z v n xs := by
  refine ⟨h.1, h.2.imp id ?_⟩
  rintro ⟨q, cap, cur, rfl, e2, e3, e4⟩
  exact ⟨q, cap, cur, rfl, e2, (hb q rfl).trans e3, e4⟩
theorem rown_mono {w : World} {B B' : Nat} {t : TypeId} {z : Nat} {v : Value} {n : Nat} {xs : List Value} (h : w.ownsRow B t z v n xs) (hb : B' ≤ B) : w.ownsRow B' t z v n xs := by
  refine ⟨h.1, h.2.imp id ?_⟩
  rintro ⟨q, cap, cur, e1, e2, e3, e4⟩
  exact ⟨q, cap, cur, e1, by omega, e3, e4⟩
theorem rown_slice {w : World} {B : Nat} {t : TypeId} {z : Nat} {v : Value} {n : Nat} {xs : List Value} (h : w.ownsRow B t z v n xs) : ∃ a c, v = .slice a n c := by
  rcases h.2 with ⟨h1, h2⟩ | ⟨g, cap, cur, h1, _⟩
  · exact ⟨none, 0, by rw [h1, h2]⟩
  · exact ⟨_, _, h1⟩
theorem rown_cap0 {w : World} {B : Nat} {t : TypeId} {z : Nat} {a : Option Addr} {n c : Nat} {xs : List Value} (h : w.ownsRow B t z (.slice a n c) n xs) : a = none → c = 0 := by
  rcases h.2 with ⟨h1, _⟩ | ⟨g, cap, cur, h1, _⟩
  · simp at h1
    exact fun _ => h1.2.2
  · simp at h1
    intro e
    rw [e] at h1
    simp at h1
theorem rown_cap {w : World} {B : Nat} {t : TypeId} {z : Nat} {a : Option Addr} {n c : Nat} {xs : List Value} (h : w.ownsRow B t z (.slice a n c) n xs) : n ≤ c := by
  rcases h.2 with ⟨h1, h2⟩ | ⟨g, cap, cur, h1, _, _, h4, _⟩
  · omega
  · cases h1; exact h4
theorem rown_at {w : World} {B : Nat} {t : TypeId} {z : Nat} {a : Option Addr} {n c : Nat} {xs : List Value} (h : w.ownsRow B t z (.slice a n c) n xs) (hn : 0 < n) : ∃ g, a = some ⟨g, 0, none⟩ ∧ B ≤ g ∧ g < w.heap.size ∧ ∃ cur, w.heap[g]? = some (.cells cur t (0, 0)) ∧ n * z ≤ cur.size := by
  rcases h.2 with ⟨h1, h2⟩ | ⟨g, cap, cur, h1, h2, h3, h4, h5, h6, h7⟩
  · omega
  · cases h1
    exact ⟨g, rfl, h2, (Array.getElem?_eq_some_iff.1 h3).1, cur, h3, by rw [h6]; exact Nat.mul_le_mul_right _ h4⟩
theorem row_set {W : World} {B : Nat} {e : TypeId} {z g n c : Nat} {xs : List Value} (h : W.ownsRow B e z (.slice (some ⟨g, 0, none⟩) n c) n xs) (k : Nat) (v : Value) : (W.setCell ⟨g, k, none⟩ v).ownsRow B e z (.slice (some ⟨g, 0, none⟩) n c) n (xs.set k v) := by
  rcases h with ⟨hl, ⟨h1, _⟩ | ⟨q, cap, cur, h1, h2, h3, h4, h5, h6, h7⟩⟩
  · cases h1
  · cases h1
    refine ⟨by rw [List.length_set]; exact hl, .inr ⟨_, _, cur.setIfInBounds k v, rfl, h2, set_blk h3 k v, h4, h5, by rw [Array.size_setIfInBounds]; exact h6, ?_⟩⟩
    rw [Array.toList_setIfInBounds, List.take_set, h7]
theorem set_same {l : List Value} {k : Nat} {v : Value} (h : l[k]? = some v) : l.set k v = l := by
  obtain ⟨h1, h2⟩ := List.getElem?_eq_some_iff.1 h
  rw [← h2]
  exact List.set_getElem_self h1
/- rows of ints, for reading: empty, or in a block from lo on -/
def iv (x : Int) : Value := .int .i64 x
structure Irow (w : World) (lo : Nat) (a : Option Addr) (n : Nat) (l : List Int) : Prop where
  len : n = l.length
  sz : n ≤ 17592186043904
  row : n = 0 ∨ ∃ b off, a = some ⟨b, off, none⟩ ∧ lo ≤ b ∧ b < w.heap.size ∧ ∀ i, i < n → w.cell? ⟨b, off + i, none⟩ = some (.int .i64 (l.getD i 0))
theorem Irow.keep {w w' : World} {lo : Nat} {a : Option Addr} {n : Nat} {l : List Int} (h : Irow w lo a n l) (hs : w.heap.size ≤ w'.heap.size) (hb : ∀ q, lo ≤ q → q < w.heap.size → w'.heap[q]? = w.heap[q]?) : Irow w' lo a n l := by
  refine ⟨h.len, h.sz, h.row.imp id ?_⟩
  rintro ⟨b, off, h1, h2, h3, h4⟩
  exact ⟨b, off, h1, h2, Nat.lt_of_lt_of_le h3 hs, fun i hi => (World.cell?_of_block (a := ⟨b, off + i, none⟩) (hb b h2 h3)).trans (h4 i hi)⟩
theorem Irow.below {w w' : World} {lo : Nat} {a : Option Addr} {n : Nat} {l : List Int} (h : Irow w lo a n l) (hb : Below w.heap.size w w') : Irow w' lo a n l := h.keep hb.size fun q _ hq => hb.block q hq
theorem Irow.mono {w : World} {lo lo' : Nat} {a : Option Addr} {n : Nat} {l : List Int} (h : Irow w lo a n l) (hl : lo' ≤ lo) : Irow w lo' a n l := by
  refine ⟨h.len, h.sz, h.row.imp id ?_⟩
  rintro ⟨b, off, h1, h2, h3⟩
  exact ⟨b, off, h1, Nat.le_trans hl h2, h3⟩
theorem Irow.at_ {w : World} {lo : Nat} {a : Option Addr} {n : Nat} {l : List Int} (h : Irow w lo a n l) {i : Nat} (hi : i < n) : ∃ b off, a = some ⟨b, off, none⟩ ∧ w.cell? ⟨b, off + i, none⟩ = some (.int .i64 (l.getD i 0)) := by
  rcases h.row with h0 | ⟨b, off, h1, _, _, h4⟩
  · omega
  · exact ⟨b, off, h1, h4 i hi⟩
theorem irow_own {w : World} {B : Nat} {a : Option Addr} {n c : Nat} {l : List Int} (h : w.ownsRow B 3 1 (.slice a n c) n (l.map iv)) (hz : n ≤ 17592186043904) : Irow w B a n l := by
  have hl : n = l.length := by have := h.1; simp at this; omega
  refine ⟨hl, hz, ?_⟩
  by_cases h0 : n = 0
  · exact .inl h0
  · obtain ⟨g, rfl, h2, h3, _⟩ := rown_at h (by omega)
    refine .inr ⟨g, 0, rfl, h2, h3, fun i hi => ?_⟩
    rw [Nat.zero_add, h.cellAt i (by omega)]
    have hi2 : i < l.length := by omega
    simp [iv, List.getD, hi2]
end Go.Proofs.YtemhhlongfabmaaGreatDoor
