/- Arrays of numbers in memory, whole and cell by cell. -/
import Derived.Test.YtmkknklkdgkbaaaDoorSa
import Derived.Deep.WholeRow
import Derived.Deep.MidRow
import Derived.StillTailTactics
namespace Go.Proofs.YtmkknklkdgkbaaaDoor
open Go.ChangeShapes Go.WideShapes Go.ChangeAt Go.RowKit
set_option linter.unusedVariables false
set_option linter.unusedSimpArgs false
def wv (k : IntKind) (x : Nat) : Value := .int k (x : Int)
/- the cells of an array of numbers -/
def cs (k : IntKind) (l : List Nat) : Array Value := (l.map (wv k)).toArray
theorem cs_size (k : IntKind) (l : List Nat) : (cs k l).size = l.length := by simp [cs]
theorem cs_one (k : IntKind) (l : List Nat) : (cs k l).all (·.oneCell') = true := by
  simp [cs, Array.all_eq_true, wv, Value.oneCell']
/- block g is an array of type t with the numbers l, none of them frozen -/
def Arr (k : IntKind) (t : TypeId) (w : World) (g : Nat) (l : List Nat) : Prop := w.heap[g]? = some (.cells (cs k l) t (0, 0))
section
variable {k : IntKind} {t : TypeId} {w w' : World} {g : Nat} {l : List Nat}
theorem Arr.cell (h : Arr k t w g l) {i : Nat} (hi : i < l.length) : w.cell? ⟨g, i, none⟩ = some (.int k (l.getD i 0 : Nat)) := by
  unfold Arr at h
  simp [World.cell?, h, hi, wv, cs]
theorem Arr.frozen (h : Arr k t w g l) (i : Nat) : w.frozen? ⟨g, i, none⟩ = false := by
  unfold Arr at h
  simp [World.frozen?, h]
theorem Arr.lt (h : Arr k t w g l) : g < w.heap.size := (Array.getElem?_eq_some_iff.1 h).1
theorem Arr.set (h : Arr k t w g l) (i x : Nat) : Arr k t (w.setCell ⟨g, i, none⟩ (.int k (x : Nat))) g (l.set i x) := by
  have h0 : w.heap[g]? = some (.cells (cs k l) t (0, 0)) := h
  rw [setCell_eq_setRow w g i _ t (0, 0) _ h0]
  have h1 := setRow_heap w g _ ((cs k l).setIfInBounds i (.int k (x : Nat))) t (0, 0) h0
  unfold Arr
  rw [h1]
  simp [List.map_set, wv, cs]
theorem Arr.below {B : Nat} (h : Arr k t w g l) (hb : Below B w w') (hg : g < B) : Arr k t w' g l := (hb.block g hg).trans h
theorem Arr.oth {j : Nat} (h : Arr k t w g l) (hb : Oth j w w') (hg : g ≠ j) : Arr k t w' g l := (hb.block g hg).trans h
theorem Arr.drewN (h : Arr k t w g l) (n : Nat) : Arr k t (w.drewN n) g l := h
theorem Arr.alloc (h : Arr k t w g l) (o : Obj) : Arr k t (w.alloc o) g l := (Below.heap_alloc w o g h.lt).trans h
theorem Arr.new (w : World) (k : IntKind) (t : TypeId) (l : List Nat) : Arr k t (w.alloc (.cells (cs k l) t)) w.heap.size l := heap_alloc_new w _
theorem Arr.setRow (h : Arr k t w g l) (l2 : List Nat) : Arr k t (w.setRow g (cs k l2)) g l2 := setRow_heap w g _ _ t (0, 0) h
theorem Arr.setRow_ne (h : Arr k t w g l) {j : Nat} (c : Array Value) (hj : g ≠ j) : Arr k t (w.setRow j c) g l := by
  unfold Arr
  rw [setRow_other w j g c hj]
  exact h
end
theorem info65 : (Tryd.prog.info? 127).map (fun i => (i.zero, i.size)) = some (some (.agg (cs .u32 (List.replicate 64 0))), 64) := by kernel_rfl
theorem info56 : (Tryd.prog.info? 121).map (fun i => (i.zero, i.size)) = some (some (.agg (cs .u8 (List.replicate 64 0))), 64) := by kernel_rfl
theorem info53 : (Tryd.prog.info? 118).map (fun i => (i.zero, i.size)) = some (some (.agg (cs .u32 (List.replicate 8 0))), 8) := by kernel_rfl
theorem info25 : (Tryd.prog.info? 61).map (fun i => (i.zero, i.size)) = some (some (.agg (cs .u8 (List.replicate 32 0))), 32) := by kernel_rfl
theorem three (w : World) (o1 o2 o3 : Obj) : (((w.alloc o1).alloc o2).alloc o3).heap[w.heap.size]? = some o1 ∧ (((w.alloc o1).alloc o2).alloc o3).heap[w.heap.size + 1]? = some o2 ∧ (((w.alloc o1).alloc o2).alloc o3).heap[w.heap.size + 1 + 1]? = some o3 := by
  have e1 : (w.alloc o1).heap.size = w.heap.size + 1 := by simp
  have e2 : ((w.alloc o1).alloc o2).heap.size = w.heap.size + 1 + 1 := by simp
  refine ⟨?_, ?_, ?_⟩
  · rw [Below.heap_alloc _ _ _ (by omega), Below.heap_alloc _ _ _ (by omega), heap_alloc_new]
  · rw [Below.heap_alloc _ _ _ (by omega), ← e1, heap_alloc_new]
  · rw [← e2, heap_alloc_new]
theorem below3 (w : World) (o1 o2 o3 : Obj) : Below w.heap.size w (((w.alloc o1).alloc o2).alloc o3) := by
  have h1 := (Below.refl w.heap.size w).alloc (Nat.le_refl _) o1
  have h2 := h1.alloc h1.size o2
  exact h2.alloc h2.size o3
theorem und65 : ∃ d, Tryd.prog.underlying 127 = some d ∧ d.isRow = true := ⟨_, Tryd.underlying127, rfl⟩
theorem und56 : ∃ d, Tryd.prog.underlying 121 = some d ∧ d.isRow = true := ⟨_, Tryd.underlying121, rfl⟩
theorem und53 : ∃ d, Tryd.prog.underlying 118 = some d ∧ d.isRow = true := ⟨_, Tryd.underlying118, rfl⟩
theorem und25 : ∃ d, Tryd.prog.underlying 61 = some d ∧ d.isRow = true := ⟨_, Tryd.underlying61, rfl⟩
theorem sz65 : (Tryd.prog.info? 127).map (·.size) = some 64 := by kernel_rfl
theorem sz56 : (Tryd.prog.info? 121).map (·.size) = some 64 := by kernel_rfl
theorem sz53 : (Tryd.prog.info? 118).map (·.size) = some 8 := by kernel_rfl
theorem sz25 : (Tryd.prog.info? 61).map (·.size) = some 32 := by kernel_rfl
/- the numbers l lie in block g from offset o on -/
def Rng (k : IntKind) (w : World) (g o : Nat) (l : List Nat) : Prop := w.rangeAt g o (l.map (wv k))
theorem Arr.rng {k : IntKind} {t : TypeId} {w : World} {g : Nat} {l : List Nat} (h : Arr k t w g l) : Rng k w g 0 l := by
  intro j v hv
  obtain ⟨hj, he⟩ := List.getElem?_eq_some_iff.1 hv
  have hj2 : j < l.length := by simpa using hj
  rw [Nat.zero_add, h.cell hj2, ← he]
  simp [wv, List.getD, hj2]
theorem Arr.there {k : IntKind} {t : TypeId} {w : World} {g : Nat} {l : List Nat} (h : Arr k t w g l) : w.there g 0 l.length := by
  intro j hj
  rw [Nat.zero_add, h.cell hj]
  exact ⟨rfl, h.frozen j⟩
/- a load of a whole array, at a list of operations -/
theorem wpList_ld {ops : Array Oper} {rest : List Oper} {o : Oper} {a : Act} {Q : Exit → Act → World → Prop} {w : World} {k : IntKind} {g off : Nat} {l : List Nat} (hgd : o.guard = none) (ty : TypeId) (x : Operand)
    (ho : o.op = .load ty x) (hx : a.eval x = .pointer (some ⟨g, off, none⟩)) (hr : Hid (Rng k w g off l)) (hu : ∃ d, Tryd.prog.underlying ty = some d ∧ d.isRow = true) (hi : (Tryd.prog.info? ty).map (·.size) = some l.length)
    (h : wpList Tryd.prog ops Q rest (a.put o.dst (.agg (cs k l))) w) : wpList Tryd.prog ops Q (o :: rest) a w := by
  obtain ⟨d, h1, h2⟩ := hu
  exact wpList_load_mid hgd ty x ho g off hx (l.map (wv k)) d hr.out h1 h2 (by rw [hi]; simp) h
/- a store of a whole array into a block of its own -/
theorem wpList_st {ops : Array Oper} {rest : List Oper} {o : Oper} {a : Act} {Q : Exit → Act → World → Prop} {w : World} {k : IntKind} {t : TypeId} {g : Nat} {l l2 : List Nat} (hgd : o.guard = none) (ty : TypeId) (x y : Operand)
    (ho : o.op = .store ty x y) (hx : a.eval x = .pointer (some ⟨g, 0, none⟩)) (hy : a.eval y = .agg (cs k l2)) (hr : Hid (Arr k t w g l)) (hi : (Tryd.prog.info? ty).map (·.size) = some l2.length) (hl : l.length = l2.length)
    (h : wpList Tryd.prog ops Q rest (a.put o.dst undef) (w.setRow g (cs k l2))) : wpList Tryd.prog ops Q (o :: rest) a w := by
  refine wpList_store_row hgd ty x y ho g (cs k l2) hx hy t (cs k l) hr.out (by rw [hi, cs_size]) (by rw [cs_size, cs_size, hl]) (cs_one _ _) h
/- an array handed back -/
theorem res_arr {fn : Func} {p : Tmp} {ty : TypeId} (hf : fn.results = #[.cell p ty]) {tmps : Array Value} {w : World} {g : Nat} {k : IntKind} {t : TypeId} {l : List Nat} (hp : tmps.getD p undef = .pointer (some ⟨g, 0, none⟩)) (hr : Arr k t w g l)
    (hu : ∃ d, Tryd.prog.underlying ty = some d ∧ d.isRow = true) (hi : (Tryd.prog.info? ty).map (·.size) = some l.length) : (results fn tmps).run Tryd.prog w = .ok (.agg (cs k l)) w := by
  obtain ⟨d, h1, h2⟩ := hu
  exact results_cell_row hf tmps w g t (cs k l) (0, 0) d hp hr h1 (by cases d <;> simp_all [TypeDesc.isRow]) (by rw [hi, cs_size])
theorem Oth.setRow {g : Nat} {w : World} (c : Array Value) : Oth g w (w.setRow g c) := ⟨rfl, rfl, rfl, by simp, fun k hk => setRow_other w g k c hk⟩
end Go.Proofs.YtmkknklkdgkbaaaDoor
