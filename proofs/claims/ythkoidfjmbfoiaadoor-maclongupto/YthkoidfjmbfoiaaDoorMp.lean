/- Appends onto a row of strings of the call's own; derived keys piece by piece. -/
import Derived.Test.YthkoidfjmbfoiaaDoorMn
namespace Go.Proofs.YthkoidfjmbfoiaaDoor
open Go.ChangeShapes Go.WideShapes Go.ChangeAt Go.RowKit
set_option linter.unusedVariables false
set_option linter.unusedSimpArgs false
theorem info9 : (Tryd.prog.info? 9).map (fun i => (i.zero, i.size, i.bytes)) = some (some (.string ByteArray.empty), 1, 16) := by kernel_rfl
theorem str_one (l : List ByteArray) : ∀ u ∈ l.map Value.string, u.oneCell' = true := by
  intro v hv
  obtain ⟨x, _, rfl⟩ := List.mem_map.1 hv
  rfl
theorem str_cells {w : World} {b off n : Nat} {l : List ByteArray} (hn : n = l.length) (r : ∀ i, i < n → w.cell? ⟨b, off + i, none⟩ = some (.string (l.getD i ByteArray.empty))) : ∀ j u, (l.map Value.string)[j]? = some u → w.cell? ((⟨b, off, none⟩ : Addr).add j) = some u := by
  intro j v hv
  simp at hv
  obtain ⟨x, hx, rfl⟩ := hv
  obtain ⟨hj, _⟩ := List.getElem?_eq_some_iff.1 hx
  have h4 := r j (by omega)
  have h5 : l.getD j ByteArray.empty = x := by simp [hx]
  rw [h5] at h4
  rw [show (⟨b, off, none⟩ : Addr).add j = ⟨b, off + j, none⟩ from by simp [Addr.add]]
  exact h4
theorem own_cap9 {w : World} {B g k cap : Nat} {xs : List Value} (own : w.ownsRow B 9 1 (.slice (some ⟨g, 0, none⟩) k cap) k xs) : k ≤ cap := by
  rcases own.2 with ⟨h1, _⟩ | ⟨g', cap', cur, h1, _, _, h5, _⟩
  · simp at h1
  · simp only [Value.slice.injEq] at h1
    omega
theorem app_str {wr : World} {B g k cap : Nat} {L l : List ByteArray} {a : Option Addr} {n c : Nat} (own : wr.ownsRow B 9 1 (.slice (some ⟨g, 0, none⟩) k cap) k (L.map Value.string)) (hS : Sws wr a n l) (hc : a = none → c = 0) (hb : (k + n) * 16 ≤ 140737488355328) (hB : B ≤ wr.heap.size) :
    ∃ g' cap' w', (Builtin.append_ #[30, 30] 30 #[.slice (some ⟨g, 0, none⟩) k cap, .slice a n c]).run Tryd.prog wr = .ok (.slice (some ⟨g', 0, none⟩) (k + n) cap') w' ∧ w'.ownsRow B 9 1 (.slice (some ⟨g', 0, none⟩) (k + n) cap') (k + n) ((L ++ l).map Value.string) ∧ wr.grownBy w' (some g) := by
  obtain ⟨i, hi, hz0, hz1, hz2⟩ := info_parts info9
  have e := hS.len
  by_cases hl : l = []
  · subst hl
    have e0 : n = 0 := e
    subst e0
    have hcap := own_cap9 own
    cases a with
    | none =>
      have c0 := hc rfl
      subst c0
      exact ⟨g, cap, wr, run_append_owned_none (P := Tryd.prog) wr B 30 30 9 i 1 Tryd.underlying30 hi _ k _ own, by simpa using own, World.grownBy.refl _ _⟩
    | some ad =>
      obtain ⟨w', hr, ho, hg⟩ := run_append_fits (P := Tryd.prog) wr B 30 30 9 i 1 Tryd.underlying30 hi hz1 g k cap _ own ad 0 c [] rfl (by simp) (by simp) (by omega)
      exact ⟨g, cap, w', hr, by simpa using ho, hg⟩
  · obtain ⟨b, off, rfl, _, r⟩ := hS.row.resolve_left hl
    obtain ⟨v', w', hrun, hown, hgr, _⟩ := run_append_own (P := Tryd.prog) wr B 30 30 9 i (.string ByteArray.empty) 1 16 Tryd.underlying30 hi hz0 hz1 hz2 rfl (by decide) _ k (L.map Value.string) own ⟨b, off, none⟩ n c (l.map Value.string) (by simp [e]) (str_cells e r) (str_one _) (by unfold maxLen; omega) hb hB
    have hpos : 0 < n := by rw [e]; exact List.length_pos_iff.2 hl
    rcases hown.2 with ⟨_, h0⟩ | ⟨g', cap', cur, rfl, _⟩
    · omega
    · exact ⟨g', cap', w', hrun, by rw [List.map_append]; exact hown, hgr⟩
theorem own_sws {w : World} {B g k cap : Nat} {l : List ByteArray} (own : w.ownsRow B 9 1 (.slice (some ⟨g, 0, none⟩) k cap) k (l.map Value.string)) (hk : k ≤ 140737488351232) (hs : ∀ s ∈ l, s.size ≤ 140737488351232) : Sws w (some ⟨g, 0, none⟩) k l := by
  have hl : k = l.length := by have := own.1; simp at this; omega
  refine ⟨hl, hk, hs, .inr ⟨g, 0, rfl, (own.lt g rfl).2, fun i hi => ?_⟩⟩
  have hi2 : i < l.length := by omega
  have h3 := own.cells (g := g) rfl i (.string (l.getD i ByteArray.empty)) (by
    rw [List.getElem?_map, List.getElem?_eq_getElem hi2]
    simp [List.getD, hi2])
  have h4 : (⟨g, 0, none⟩ : Addr).add i = ⟨g, 0 + i, none⟩ := by
    by_cases hi0 : i = 0
    · subst hi0; simp [Addr.add]
    · simp [Addr.add, hi0]
  rw [h4] at h3
  exact h3
theorem own_lt9 {w : World} {B g k cap : Nat} {xs : List Value} (own : w.ownsRow B 9 1 (.slice (some ⟨g, 0, none⟩) k cap) k xs) : B ≤ g := (own.lt g rfl).1
theorem own_new9 (X : World) : (X.alloc (.cells #[] 9)).ownsRow X.heap.size 9 1 (.slice (some ⟨X.heap.size, 0, none⟩) 0 0) 0 (([] : List ByteArray).map Value.string) := World.ownsRow_made X _ 0 (Nat.le_refl _) (by unfold maxLen; omega) rfl
theorem deriveN_first (k : List Nat) (a b : List ByteArray) : deriveN k (a ++ b) a.length = deriveN k a a.length := by
  have h := deriveN_take k (a ++ b) a.length a.length (Nat.le_refl _)
  rw [List.take_left] at h
  exact h.symm
theorem getD_second (a b : List ByteArray) (i : Nat) : (a ++ b).getD (a.length + i) ByteArray.empty = b.getD i ByteArray.empty := by
  simp only [List.getD]
  rw [List.getElem?_append_right (by omega)]
  congr 2
  omega
end Go.Proofs.YthkoidfjmbfoiaaDoor
