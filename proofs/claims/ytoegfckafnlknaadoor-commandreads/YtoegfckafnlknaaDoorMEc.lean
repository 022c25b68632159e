import Derived.Test.YtoegfckafnlknaaDoorMEb
import Derived.Test.YtoegfckafnlknaaDoorMCe
import Derived.Test.YtoegfckafnlknaaDoorMCf
import Derived.Test.YtoegfckafnlknaaDoorMCj
/- Ec -/
/- The document's Put (f16). -/
namespace Go.Proofs.YtoegfckafnlknaaDoor
open Go.ChangeShapes Go.WideShapes Go.ChangeAt Go.RowKit
set_option maxRecDepth 20000
set_option linter.unusedVariables false
set_option linter.unusedSimpArgs false
section
variable {P : Program} {ops : Array Oper} {Q : Exit → Act → World → Prop} {md : Region.Mode} {S : Array Bool → World → Prop} {C : World → Prop}
/- what is to be shown of an operation that comes up -/
def TillOp (P : Program) (md : Region.Mode) (ops : Array Oper) (Q : Exit → Act → World → Prop) (S : Array Bool → World → Prop) (f : Nat) (L : Array Bool) (a : Act) (w : World) (i : Nat) : Prop :=
  ∃ o, ops[i]? = some o ∧ ∀ K' : Act → World → Prop, Shut (∀ a w, S (L.setIfInBounds i true) w → (S (L.setIfInBounds i true) w → wpTill P md ops Q S f (L.setIfInBounds i true) a w) → K' a w) → if Region.wanted o (yielded ops a.tmps) = true then Oper.wp P o a w K' Q else K' (a.put o.dst undef) w
theorem till_some {is : List Nat} {f : Nat} {L : Array Bool} {a : Act} {w : World} (hr : Region.ready md ops L = is) (hne : is ≠ []) (h : ∀ i ∈ is, TillOp P md ops Q S f L a w i) : wpTill P md ops Q S (f + 1) L a w := by
  refine ⟨fun h0 => (by rw [hr] at h0; exact absurd h0 hne), fun j hj => ?_⟩
  rw [hr] at hj
  obtain ⟨o, ho, hK⟩ := h j hj
  exact wpOp_step ho (fun K' hK' => hK K' (fun a w hS hW => hK' a w ⟨hS, hW hS⟩))
theorem till_two {i j : Nat} {f : Nat} {L : Array Bool} {a : Act} {w : World} (hr : Region.ready md ops L = [i, j]) (h1 : TillOp P md ops Q S f L a w i) (h2 : TillOp P md ops Q S f L a w j) : wpTill P md ops Q S (f + 1) L a w :=
  till_some hr (by simp) (fun k hk => by
    rcases List.mem_cons.1 hk with rfl | hk
    · exact h1
    · obtain rfl : k = j := by simpa using hk
      exact h2)
/- an operation that yields wherever C holds -/
theorem till_load {i : Nat} {oi : Oper} {v : Value} {f : Nat} {L : Array Bool} {a : Act} {w : World} (hi : ops[i]? = some oi) (hs : Region.noSelect ops = true) (hf : Region.free md ops L i = true) (hr : (Region.ready md ops L).contains i = true)
    (hQ : ∀ c a w, Q (.panic c) (a.put oi.dst v) w → Q (.panic c) a w) (hy : YieldsIf P ops C oi v a) (hw : C w)
    (h : wpTill P md ops Q (fun _ w => C w) f (L.setIfInBounds i true) (a.put oi.dst v) w) : wpTill P md ops Q (fun _ w => C w) (f + 1) L a w :=
  till_first (S := fun _ w => C w) (T := C) (I := fun _ => True) hi (Region.noSelect_spec hs) hQ (fun _ _ => Iff.rfl) (fun _ _ _ _ _ _ => trivial) (fun _ _ _ h => h) f L a w (Region.free_spec hi hf) (by simpa using hr) trivial hy hw h
end
noncomputable def ops16 : Array Oper := match Tryd.f16.body with
  | some c => match regIn 7 c with
    | some o => o
    | none => #[]
  | none => #[]
/- bytes that are put behind -/
/- the same, and what it wrote over -/
end Go.Proofs.YtoegfckafnlknaaDoor
