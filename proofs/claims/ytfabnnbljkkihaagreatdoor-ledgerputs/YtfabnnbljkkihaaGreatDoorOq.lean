/- What a row lists, taken apart: tables, then errors. -/
import Derived.Test.YtfabnnbljkkihaaGreatDoorVs
namespace Go.Proofs.YtfabnnbljkkihaaGreatDoor
open Go.ChangeShapes Go.WideShapes Go.ChangeAt Go.RowKit
set_option maxRecDepth 20000
set_option linter.unusedVariables false
set_option linter.unusedSimpArgs false
theorem laidVars_app {P : Program} {W : World} {B : List (String × DataW Unit)} : ∀ (A : List (String × DataW Unit)) (ps : List MemPlace), DataW.LaidVars P W (A ++ B) ps → ∃ p1 p2, DataW.LaidVars P W A p1 ∧ DataW.LaidVars P W B p2 ∧ ps = p1 ++ p2
  | [], ps, h => ⟨[], ps, rfl, h, rfl⟩
  | x :: A, ps, h => by
    obtain ⟨g, t, cs, fuel, p, q, h1, h2, h3, h4, h5, h6⟩ := h
    obtain ⟨p1, p2, k1, k2, rfl⟩ := laidVars_app A q h5
    exact ⟨_, p2, ⟨g, t, cs, fuel, p, p1, h1, h2, h3, h4, k1, rfl⟩, k2, by rw [h6]; simp only [List.append_assoc]⟩
theorem laidMet_app {P : Program} {W : World} {A B : List (String × DataW Unit)} (h : laidMet P (A ++ B) W) : laidMet P A W ∧ laidMet P B W := by
  obtain ⟨ps, h1, h2, h3⟩ := h
  obtain ⟨p1, p2, k1, k2, rfl⟩ := laidVars_app A ps h1
  have n := List.nodup_append.1 h2
  exact ⟨⟨p1, k1, n.1, fun b off hm => h3 b off (List.mem_append_left _ hm)⟩, ⟨p2, k2, n.2.1, fun b off hm => h3 b off (List.mem_append_right _ hm)⟩⟩
theorem sent_of2 {W : World} {M : Nat} (l : List (String × Nat × List UInt8)) (hg : ∀ v ∈ l, Tryz.prog.globalNamed v.1 = some v.2.1 ∧ (Tryz.prog.globals[v.2.1]?).map (·.type) = some 33)
    (hnd : (l.map (·.2.1)).Nodup) (hM : ∀ g, g < M → ∃ v ∈ l, v.2.1 = g) (h : laidMet Tryz.prog (named l) W) : ∃ E, Sent W M E := by
  obtain ⟨ps, h1, h2, h3⟩ := h
  obtain ⟨E, hE⟩ := sent_ind l ps hg hnd h1 h2 (fun b off hm => (h3 b off hm).2)
  refine ⟨E, fun g hg => ?_, fun g hg => ?_, fun g g' hg hg' hne => ?_⟩
  · obtain ⟨v, hv, rfl⟩ := hM g hg
    exact (hE v hv).1
  · obtain ⟨v, hv, rfl⟩ := hM g hg
    obtain ⟨cs, t, h4⟩ := (h3 _ _ (hE v hv).2.1).1
    exact ⟨cs, t, h4⟩
  · obtain ⟨v, hv, rfl⟩ := hM g hg
    obtain ⟨v', hv', rfl⟩ := hM g' hg'
    exact (hE v hv).2.2 v' hv' hne
end Go.Proofs.YtfabnnbljkkihaaGreatDoor
