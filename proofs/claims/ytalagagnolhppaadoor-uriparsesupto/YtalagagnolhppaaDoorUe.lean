/- Results that lie in a box; boxes of the call's own. -/
import Derived.Test.YtalagagnolhppaaDoorUd
import Derived.Test.YtalagagnolhppaaDoorRa
namespace Go.Proofs.YtalagagnolhppaaDoor
open Go.ChangeShapes Go.WideShapes Go.ChangeAt Go.RowKit
set_option maxRecDepth 20000
set_option linter.unusedVariables false
set_option linter.unusedSimpArgs false
theorem beq_ba (s t : ByteArray) : (s.toList == t.toList) = decide (s = t) := by
  rw [ByteArray.toList_eq, ByteArray.toList_eq]
  by_cases h : s = t
  · subst h; simp
  · have h2 : ¬ (s.data.toList = t.data.toList) := fun e => h (ByteArray.ext (Array.toList_inj.1 e))
    rw [decide_eq_false h]
    simpa using h2
theorem beq_lit {s t : ByteArray} {b : Bool} {l : List UInt8} (h : decide (s = t) = b) (hl : t.data.toList = l) : (s.toList == l) = b := by
  rw [← hl, ← ByteArray.toList_eq, beq_ba, h]
theorem res_row2 {fn : Func} {p q : Tmp} {ty : TypeId} (hf : fn.results = #[.cell p ty, .tmp q]) {tmps : Array Value} {w : World} {g : Nat} {t : TypeId} {A : Array Value} {fr : Nat × Nat} (hp : tmps.getD p undef = .pointer (some ⟨g, 0, none⟩)) (hr : w.heap[g]? = some (.cells A t fr))
    (hu : ∃ d, Tryd.prog.underlying ty = some d ∧ d.isRow = true) (hi : (Tryd.prog.info? ty).map (·.size) = some A.size) : (results fn tmps).run Tryd.prog w = .ok (.tuple #[.agg A, tmps.getD q undef]) w := by
  obtain ⟨d, h1, h2⟩ := hu
  have hp' : tmps[p]?.getD undef = .pointer (some ⟨g, 0, none⟩) := by simpa using hp
  have e := run_loadVar_row (P := Tryd.prog) w g t ty A fr d hr h1 (by cases d <;> simp_all [TypeDesc.isRow]) hi
  simp [results, hf, hp', asAddr, e]
theorem res_row3 {fn : Func} {p q r : Tmp} {ty : TypeId} (hf : fn.results = #[.cell p ty, .tmp q, .tmp r]) {tmps : Array Value} {w : World} {g : Nat} {t : TypeId} {A : Array Value} {fr : Nat × Nat} (hp : tmps.getD p undef = .pointer (some ⟨g, 0, none⟩)) (hr : w.heap[g]? = some (.cells A t fr))
    (hu : ∃ d, Tryd.prog.underlying ty = some d ∧ d.isRow = true) (hi : (Tryd.prog.info? ty).map (·.size) = some A.size) : (results fn tmps).run Tryd.prog w = .ok (.tuple #[.agg A, tmps.getD q undef, tmps.getD r undef]) w := by
  obtain ⟨d, h1, h2⟩ := hu
  have hp' : tmps[p]?.getD undef = .pointer (some ⟨g, 0, none⟩) := by simpa using hp
  have e := run_loadVar_row (P := Tryd.prog) w g t ty A fr d hr h1 (by cases d <;> simp_all [TypeDesc.isRow]) hi
  simp [results, hf, hp', asAddr, e]
structure Bx (w W : World) (g : Nat) (ty : TypeId) (A : Array Value) : Prop where
  row : W.heap[g]? = some (.cells A ty (0, 0))
  bel : Below w.heap.size w W
  ge : w.heap.size ≤ g
theorem Bx.new (w W : World) (ty : TypeId) (A : Array Value) (h : Below w.heap.size w W) : Bx w (W.alloc (.cells A ty)) W.heap.size ty A := ⟨heap_alloc_new _ _, h.alloc h.size _, h.size⟩
theorem Bx.lt {w W : World} {g : Nat} {ty : TypeId} {A : Array Value} (h : Bx w W g ty A) : g < W.heap.size := (Array.getElem?_eq_some_iff.1 h.row).1
theorem Bx.below {w W W' : World} {g : Nat} {ty : TypeId} {A : Array Value} (h : Bx w W g ty A) (hb : Below W.heap.size W W') : Bx w W' g ty A :=
  ⟨(hb.block g h.lt).trans h.row, h.bel.trans ⟨hb.os, hb.tape, hb.output, hb.size, fun k hk => hb.block k (Nat.lt_of_lt_of_le hk h.bel.size)⟩, h.ge⟩
theorem Bx.set {w W : World} {g : Nat} {ty : TypeId} {A : Array Value} (h : Bx w W g ty A) (A' : Array Value) : Bx w (W.setRow g A') g ty A' := ⟨setRow_heap _ _ _ _ _ _ h.row, below_setRow h.bel h.ge A', h.ge⟩
theorem Bx.other {w W : World} {g k : Nat} {ty t2 : TypeId} {A B : Array Value} (h : Bx w W g ty A) (hk : Bx w W k t2 B) (ne : g ≠ k) (B' : Array Value) : Bx w (W.setRow k B') g ty A := by
  refine ⟨?_, below_setRow h.bel hk.ge B', h.ge⟩
  rw [← h.row]
  exact setRow_other _ _ _ _ ne
theorem und41 : ∃ d, Tryd.prog.underlying 39 = some d ∧ d.isRow = true := ⟨_, Tryd.underlying39, rfl⟩
abbrev Fl := ByteArray × ByteArray
def aggF (n v : ByteArray) : Array Value := #[.string n, .string v]
theorem sz39 (n v : ByteArray) : (Tryd.prog.info? 39).map (·.size) = some (aggF n v).size := by
  show _ = some 2
  kernel_rfl
theorem one39 (n v : ByteArray) : (aggF n v).all (·.oneCell') = true := by simp [aggF, Value.oneCell']
theorem und25 : ∃ d, Tryd.prog.underlying 25 = some d ∧ d.isRow = true := ⟨_, Tryd.underlying25, rfl⟩
theorem sz25 (p : ByteArray) (F : Value) : (Tryd.prog.info? 25).map (·.size) = some (#[Value.string p, F] : Array Value).size := by
  show _ = some 2
  kernel_rfl
theorem one25 (p : ByteArray) (a : Option Addr) (n c : Nat) : (#[Value.string p, .slice a n c] : Array Value).all (·.oneCell') = true := by simp [Value.oneCell']
/- pairs in memory -/
def EF : Enc Fl := ⟨fun f => [.string f.1, .string f.2], 2, fun _ => rfl, fun x v hv => by
  simp only [List.mem_cons, List.not_mem_nil, or_false] at hv
  rcases hv with rfl | rfl <;> rfl⟩
end Go.Proofs.YtalagagnolhppaaDoor
