/- A slice of strings among the arguments, opened. -/
import Derived.Test.YthkoidfjmbfoiaaDoorMl
namespace Go.Proofs.YthkoidfjmbfoiaaDoor
open Go.ChangeShapes Go.WideShapes Go.ChangeAt Go.RowKit
set_option linter.unusedVariables false
set_option linter.unusedSimpArgs false
theorem cells9 : Tryd.prog.cellsOf 9 = 1 := by kernel_rfl
theorem bytes9 : Tryd.prog.bytesOf 9 = 16 := by kernel_rfl
theorem strs_weights {H : Type} (l : List ByteArray) : ∀ s ∈ l, s.size ∈ DataW.weightsAll (H := H) Tryd.prog 9 (strs l) := by
  induction l with
  | nil => intro s hs; cases hs
  | cons x l ih =>
    intro s hs
    have e : strs (H := H) (x :: l) = .lit (.string x.data.toList) :: strs l := rfl
    rw [e]
    simp only [DataW.weightsAll, DataW.weights, List.mem_append, List.mem_cons, List.not_mem_nil, or_false]
    rcases List.mem_cons.1 hs with rfl | h
    · left
      rw [Array.length_toList]
      rfl
    · exact .inr (ih s h)
theorem open_words {H : Type} {enc : TypeId × Value → H} {W : World} {fuel : Nat} {v : Value} {y : DataW H × List MemPlace} (hf : DataW.trod enc Tryd.prog W 0 (fun _ => true) true fuel 30 [v] = some y) (hsz : ∀ n ∈ y.1.weights Tryd.prog 30, n ≤ reachBytes) :
    ∃ a n k ws, v = .slice a n k ∧ Hid (Sws W a n ws) ∧ n ≤ k ∧ k ≤ 8796093021952 := by
  rcases open_strings Tryd.underlying30 Tryd.underlying9 cells9 hf with ⟨hcs, _⟩ | ⟨x, n, k, ss, hcs, _, hl, _, hz, hx, hcell, _⟩
  · simp at hcs
    exact ⟨none, 0, 0, [], hcs, ⟨rfl, by omega, by simp, .inl rfl⟩, by omega, by omega⟩
  · simp at hcs
    have hz : ss.length = k := by simpa using hz
    have hw : ∀ m ∈ DataW.weights (H := H) Tryd.prog 30 (.slice (strs (ss.take n)) (strs (ss.drop n))), m ≤ reachBytes := by
      intro m hm
      have h := hsz m
      rw [hx] at h
      exact h hm
    simp only [DataW.weights, Tryd.underlying30, bytes9, List.mem_cons, List.mem_append] at hw
    have hk : k ≤ 8796093021952 := by
      have h := hw _ (.inl rfl)
      simp only [strs, List.length_map, List.length_take, List.length_drop, reachBytes] at h
      omega
    have hs : ∀ s ∈ ss.take n, s.size ≤ 140737488351232 := by
      intro s hs
      have h := hw s.size (.inr (.inl (strs_weights _ s hs)))
      simpa [reachBytes] using h
    refine ⟨some x, n, k, ss.take n, hcs, ⟨by simp; omega, by omega, hs, ?_⟩, hl, hk⟩
    by_cases h0 : n = 0
    · subst h0; exact .inl (by simp)
    · right
      obtain ⟨b, off, spot⟩ := x
      have hc := hcell 0 (by omega)
      have hspot : spot = none := by simpa [Addr.add] using World.cell?_spot hc
      subst hspot
      refine ⟨b, off, rfl, cell_lt (by simpa [Addr.add] using hc), fun i hi => ?_⟩
      have h1 := hcell i (by omega)
      have h2 : (⟨b, off, none⟩ : Addr).add i = ⟨b, off + i, none⟩ := by simp [Addr.add]
      rw [h2] at h1
      rw [h1]
      have : (ss.take n).getD i ByteArray.empty = ss.getD i ByteArray.empty := by simp [List.getD, hi]
      rw [this]
end Go.Proofs.YthkoidfjmbfoiaaDoor
