/- Rows of bytes in memory: what a block of plain bytes reads as, and what stores, new blocks and draws leave of it. -/
import Derived.Test.YtokkjdgfhpocdaaDoorWe
import Derived.WalkSmall
import Derived.Laws.Tables
import Derived.Laws.CopyOwn
namespace Go.Proofs.YtokkjdgfhpocdaaDoor
open Go.ChangeShapes Go.WideShapes Go.ChangeAt Go.RowKit
set_option linter.unusedVariables false
set_option linter.unusedSimpArgs false
def bv (x : Nat) : Value := .int .u8 (x : Int)
/- block g holds just the bytes l, none of them frozen -/
def Blk (w : World) (g : Nat) (l : List Nat) : Prop := w.heap[g]? = some (.cells (l.map bv).toArray 5 (0, 0))
/- all but block g is as it was -/
structure Oth (g : Nat) (w w' : World) : Prop where
  os : w'.os = w.os
  tape : w'.tape = w.tape
  output : w'.output = w.output
  size : w'.heap.size = w.heap.size
  block : ∀ k, k ≠ g → w'.heap[k]? = w.heap[k]?
theorem Oth.refl (g : Nat) (w : World) : Oth g w w := ⟨rfl, rfl, rfl, rfl, fun _ _ => rfl⟩
theorem Oth.trans {g : Nat} {a b c : World} (h : Oth g a b) (k : Oth g b c) : Oth g a c :=
  ⟨k.os.trans h.os, k.tape.trans h.tape, k.output.trans h.output, k.size.trans h.size, fun i hi => (k.block i hi).trans (h.block i hi)⟩
theorem Oth.drewN {g : Nat} {a w : World} (h : Oth g a w) (n : Nat) : Oth g a (w.drewN n) := h.trans ⟨rfl, rfl, rfl, rfl, fun _ _ => rfl⟩
theorem Oth.setCell {g : Nat} {a w : World} (h : Oth g a w) (i : Nat) (v : Value) : Oth g a (w.setCell ⟨g, i, none⟩ v) :=
  h.trans ⟨rfl, rfl, rfl, by simp [World.setCell], fun _ hk => Below.heap_setCell _ _ _ _ hk⟩
theorem Oth.cell {g : Nat} {w w' : World} (h : Oth g w w') {p : Addr} (hp : p.block ≠ g) : w'.cell? p = w.cell? p := World.cell?_of_block (w := w) (h.block p.block hp)
theorem Oth.below {B g : Nat} {w0 w w' : World} (hb : Below B w0 w) (h : Oth g w w') (hg : B ≤ g) : Below B w0 w' :=
  hb.trans ⟨h.os, h.tape, h.output, Nat.le_of_eq h.size.symm, fun k hk => h.block k (by omega)⟩
theorem Blk.cell {w : World} {g : Nat} {l : List Nat} (h : Blk w g l) {i : Nat} (hi : i < l.length) : w.cell? ⟨g, i, none⟩ = some (.int .u8 (l.getD i 0 : Nat)) := by
  unfold Blk at h
  simp [World.cell?, h, hi, bv]
theorem Blk.frozen {w : World} {g : Nat} {l : List Nat} (h : Blk w g l) (i : Nat) : w.frozen? ⟨g, i, none⟩ = false := by
  unfold Blk at h
  simp [World.frozen?, h]
theorem Blk.lt {w : World} {g : Nat} {l : List Nat} (h : Blk w g l) : g < w.heap.size := (Array.getElem?_eq_some_iff.1 h).1
theorem Blk.set {w : World} {g : Nat} {l : List Nat} (h : Blk w g l) (i x : Nat) : Blk (w.setCell ⟨g, i, none⟩ (.int .u8 (x : Nat))) g (l.set i x) := by
  have h0 : w.heap[g]? = some (.cells (l.map bv).toArray 5 (0, 0)) := h
  rw [setCell_eq_setRow w g i _ 5 (0, 0) _ h0]
  have h1 := setRow_heap w g _ ((l.map bv).toArray.setIfInBounds i (.int .u8 (x : Nat))) 5 (0, 0) h0
  unfold Blk
  rw [h1]
  simp [List.map_set, bv]
theorem Blk.below {B : Nat} {w w' : World} {g : Nat} {l : List Nat} (h : Blk w g l) (hb : Below B w w') (hg : g < B) : Blk w' g l := (hb.block g hg).trans h
theorem Blk.oth {k : Nat} {w w' : World} {g : Nat} {l : List Nat} (h : Blk w g l) (hb : Oth k w w') (hg : g ≠ k) : Blk w' g l := (hb.block g hg).trans h
theorem Blk.drewN {w : World} {g : Nat} {l : List Nat} (h : Blk w g l) (n : Nat) : Blk (w.drewN n) g l := h
theorem Blk.alloc {w : World} {g : Nat} {l : List Nat} (h : Blk w g l) (o : Obj) : Blk (w.alloc o) g l := (Below.heap_alloc w o g h.lt).trans h
theorem Blk.made (w : World) (n : Nat) : Blk (w.alloc (.cells (madeCells #[.int .u8 0] n) 5)) w.heap.size (List.replicate n 0) := by
  have e : madeCells #[Value.int .u8 0] n = ((List.replicate n 0).map bv).toArray := by
    apply Array.ext
    · simp [madeCells]
    · intro i h1 h2
      simp [madeCells, Nat.mod_one, bv]
  rw [e]
  show (w.heap.push _)[w.heap.size]? = _
  simp
theorem Blk.row {w : World} {g : Nat} {l : List Nat} (h : Blk w g l) : Row w g 0 l := fun i hi => by rw [Nat.zero_add]; exact h.cell hi
/- a slice that reads as the bytes l: empty, or a row in a block that is there -/
def Sli (w : World) (a : Option Addr) (l : List Nat) : Prop := (∀ x ∈ l, x < 256) ∧ l.length ≤ 140737488351232 ∧ (l = [] ∨ ∃ b off, a = some ⟨b, off, none⟩ ∧ b < w.heap.size ∧ Row w b off l)
theorem Sli.below {w w' : World} {a : Option Addr} {l : List Nat} (h : Sli w a l) (hb : Below w.heap.size w w') : Sli w' a l := by
  refine ⟨h.1, h.2.1, ?_⟩
  rcases h.2.2 with h0 | ⟨b, off, rfl, hl, hr⟩
  · exact .inl h0
  · exact .inr ⟨b, off, rfl, Nat.lt_of_lt_of_le hl hb.size, fun i hi => (hb.cell (p := ⟨b, off + i, none⟩) hl).trans (hr i hi)⟩
theorem Blk.sli {w : World} {g : Nat} {l : List Nat} (h : Blk w g l) (h1 : ∀ x ∈ l, x < 256) (h2 : l.length ≤ 140737488351232) : Sli w (some ⟨g, 0, none⟩) l :=
  ⟨h1, h2, .inr ⟨g, 0, rfl, h.lt, h.row⟩⟩
/- the bytes as the string that they spell -/
def spell (l : List Nat) : ByteArray := (l.map fun x : Nat => (x : Int)).foldl (fun r n => r.push (UInt8.ofNat n.toNat)) ByteArray.empty
end Go.Proofs.YtokkjdgfhpocdaaDoor
