import Derived.Test.YtoegfckafnlknaaDoorMGa
/- Gd -/
/- Commands in boxes, rows of one command: what the laws' walks share. -/
namespace Go.Proofs.YtoegfckafnlknaaDoor
open Go.ChangeShapes Go.WideShapes Go.ChangeAt Go.RowKit
set_option maxRecDepth 20000
set_option linter.unusedVariables false
set_option linter.unusedSimpArgs false
theorem cms_one {w : World} {lo g : Nat} {x : Cx} (h : w.heap[g]? = some (.cells (encX x).toArray 28 (0, 0))) (hlo : lo ≤ g) (hp : Irow w lo x.pa x.pn x.cm.ps) (hz : x.pa = none → x.pc = 0) (hs : x.cm.bu.size ≤ 281474976710656 ∧ x.cm.ke.size ≤ 281474976710656 ∧ x.cm.et.size ≤ 281474976710656) : Cms w lo (some ⟨g, 0, none⟩) 1 [x] := by
  refine ⟨rfl, by omega, .inr ⟨g, 0, rfl, hlo, (Array.getElem?_eq_some_iff.1 h).1, ?_⟩, fun y hy => ?_, fun y hy => ?_⟩
  · have := range_blk h
    simpa [flat] using this
  · obtain rfl := List.mem_singleton.1 hy
    exact ⟨hp, hz⟩
  · obtain rfl := List.mem_singleton.1 hy
    exact hs
theorem fold18 {A : Array Value} {x : Cx} (h : A = (encX x).toArray) : Array.foldl (fun cs (x : Value × Nat) => cs.setIfInBounds x.snd x.fst) #[.int .i64 0, .int .i64 0, .int .i64 0, .int .i64 0, .string ⟨#[]⟩, .string ⟨#[]⟩, .int .i64 0, .int .i64 0, .int .i64 0, .int .i64 0, .int .i64 0, .int .i64 0, .int .i64 0, .string ⟨#[]⟩, .int .i64 0, .slice none 0 0, .int .i64 0, .int .i64 0] A.zipIdx 0 18 = A := by
  obtain ⟨⟨k, i0, i1, i2, bu, ke, u0, u1, u2, b0, b1, b2, sz, et, pt, ps, tm, dy⟩, pa, pn, pc⟩ := x
  subst h
  kernel_rfl
theorem led_one {x : Cx} {Y : List Cx} (h : led Y = led [x]) : ∃ y, Y = [y] ∧ y.cm = x.cm := by
  unfold led at h
  match Y, h with
  | [], h => simp at h
  | [y], h => exact ⟨y, rfl, by simpa using h⟩
  | _ :: _ :: _, h => simp at h
/- a command in a box of the call's own, and one that is handed in -/
structure Bx (w W : World) (g : Nat) (A : Array Value) (x : Cx) : Prop where
  k : W.heap[g]? = some (.cells A 28 (0, 0))
  row : Irow W 0 x.pa x.pn x.cm.ps
theorem Bx.below {w W W' : World} {g : Nat} {A : Array Value} {x : Cx} (h : Bx w W g A x) (hb : Below W.heap.size W W') : Bx w W' g A x := ⟨(hb.block g (Array.getElem?_eq_some_iff.1 h.k).1).trans h.k, h.row.below hb⟩
theorem yl_row {ops : Array Oper} {C : World → Prop} {op : Oper} {a : Act} {A : Array Value} {g : Nat} {x : Operand} (hw : Region.wanted op (yielded ops a.tmps) = true) (ho : op.op = .load 28 x) (hx : a.eval x = .pointer (some ⟨g, 0, none⟩)) (hS : ∀ W, C W → W.heap[g]? = some (.cells A 28 (0, 0))) (h18 : A.size = 18) : YieldsIf Tryd.prog ops C op (.agg A) a :=
  .inl ⟨hw, fun W hW => by
    unfold execOp
    simp only [ho, hx, Instr.loadAt, Instr.sureAddr, Sem.run_bind, Sem.run_pure, Result.andThen_ok, run_loadVar_row W g 28 28 A (0, 0) _ (hS W hW) Tryd.underlying28 rfl (info28 h18)]⟩
theorem eq_str (d : Nat) (x : ByteArray) (w : World) : (Op.equalIn (d + 1) 9 (.string x) (.string x)).run Tryd.prog w = .ok true w := by
  rw [eqS]
  simp
end Go.Proofs.YtoegfckafnlknaaDoor
