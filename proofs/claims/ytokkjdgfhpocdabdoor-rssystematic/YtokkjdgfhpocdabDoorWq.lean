/- What the document's own AddScaled does, for all slices: it returns a new row with the sum place by place, and changes nothing that was there. -/
import Derived.Test.YtokkjdgfhpocdabDoorWn
namespace Go.Proofs.YtokkjdgfhpocdabDoor
open Go.ChangeShapes Go.WideShapes Go.ChangeAt Go.RowKit
set_option linter.unusedVariables false
set_option linter.unusedSimpArgs false
theorem own_lt {w : World} {B g k cap : Nat} {xs : List Value} (own : w.ownsRow B 5 1 (.slice (some ⟨g, 0, none⟩) k cap) k xs) : B ≤ g := (own.lt g rfl).1
theorem own_sln {w : World} {B g k cap : Nat} {l : List Nat} (own : w.ownsRow B 5 1 (.slice (some ⟨g, 0, none⟩) k cap) k (l.map bv)) (h1 : ∀ x ∈ l, x < 256) (h2 : l.length ≤ 140737488351232) : Sln w (some ⟨g, 0, none⟩) k l := by
  have hk : k = l.length := by have := own.1; simp at this; omega
  refine ⟨hk, h1, h2, .inr ⟨g, 0, rfl, (own.lt g rfl).2, fun i hi => ?_⟩⟩
  have h3 := own.cells (g := g) rfl i (bv (l.getD i 0)) (by
    rw [List.getElem?_map, List.getElem?_eq_getElem hi]
    simp [List.getD, hi])
  have h4 : (⟨g, 0, none⟩ : Addr).add i = ⟨g, 0 + i, none⟩ := by
    by_cases hi0 : i = 0
    · subst hi0; simp [Addr.add]
    · simp [Addr.add, hi0]
  rw [h4] at h3
  exact h3
theorem take_succ_getD {l : List Nat} {k : Nat} (h : k < l.length) : l.take (k + 1) = l.take k ++ [l.getD k 0] := by
  rw [List.take_succ_eq_append_getElem h]
  simp [List.getD, h]
theorem row_at {w : World} {a : Option Addr} {n : Nat} {l : List Nat} (h : Sln w a n l) {i : Nat} (hi : i < n) : ∃ b off, a = some ⟨b, off, none⟩ ∧ w.cell? ⟨b, off + i, none⟩ = some (.int .u8 (l.getD i 0 : Nat)) := by
  have e := h.len
  have hne : l ≠ [] := by intro h0; rw [h0] at e; simp at e; omega
  obtain ⟨b, off, h1, _, r⟩ := h.sli.2.2.resolve_left hne
  exact ⟨b, off, h1, r i (by omega)⟩
/- the row gathered so far -/
end Go.Proofs.YtokkjdgfhpocdabDoor
