import Derived.Test.YtoegfckafnlknaaDoorMGa
/- Gd -/
/- Commands in boxes, rows of one command: what the laws' walks share. -/
namespace Go.Proofs.YtoegfckafnlknaaDoor
open Go.ChangeShapes Go.WideShapes Go.ChangeAt Go.RowKit
set_option maxRecDepth 20000
set_option linter.unusedVariables false
set_option linter.unusedSimpArgs false
theorem fold18 {A : Array Value} {x : Cx} (h : A = (encX x).toArray) : Array.foldl (fun cs (x : Value × Nat) => cs.setIfInBounds x.snd x.fst) #[.int .i64 0, .int .i64 0, .int .i64 0, .int .i64 0, .string ⟨#[]⟩, .string ⟨#[]⟩, .int .i64 0, .int .i64 0, .int .i64 0, .int .i64 0, .int .i64 0, .int .i64 0, .int .i64 0, .string ⟨#[]⟩, .int .i64 0, .slice none 0 0, .int .i64 0, .int .i64 0] A.zipIdx 0 18 = A := by
  obtain ⟨⟨k, i0, i1, i2, bu, ke, u0, u1, u2, b0, b1, b2, sz, et, pt, ps, tm, dy⟩, pa, pn, pc⟩ := x
  subst h
  kernel_rfl
/- a command in a box of the call's own, and one that is handed in -/
structure Bx (w W : World) (g : Nat) (A : Array Value) (x : Cx) : Prop where
  k : W.heap[g]? = some (.cells A 28 (0, 0))
  row : Irow W 0 x.pa x.pn x.cm.ps
theorem Bx.below {w W W' : World} {g : Nat} {A : Array Value} {x : Cx} (h : Bx w W g A x) (hb : Below W.heap.size W W') : Bx w W' g A x := ⟨(hb.block g (Array.getElem?_eq_some_iff.1 h.k).1).trans h.k, h.row.below hb⟩
theorem eq_str (d : Nat) (x : ByteArray) (w : World) : (Op.equalIn (d + 1) 9 (.string x) (.string x)).run Tryd.prog w = .ok true w := by
  rw [eqS]
  simp
end Go.Proofs.YtoegfckafnlknaaDoor
