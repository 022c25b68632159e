/- The law: how the acceptors are made, and what holds at the beginning. -/
import Derived.Test.YtdfnjcjpblkmcaaDoorPn
import Derived.Test.YtdfnjcjpblkmcaaDoorAl
namespace Go.Proofs.YtdfnjcjpblkmcaaDoor
open Go.ChangeShapes Go.WideShapes Go.ChangeAt Go.RowKit
set_option maxRecDepth 20000
set_option linter.unusedVariables false
set_option linter.unusedSimpArgs false
def ptrs (G : Nat → Nat) (j : Nat) : List Value := (List.range j).map (fun i => .pointer (some ⟨G i, 0, none⟩))
theorem ptrs_succ (G : Nat → Nat) (j : Nat) : ptrs G (j + 1) = ptrs G j ++ [.pointer (some ⟨G j, 0, none⟩)] := by
  unfold ptrs
  rw [List.range_succ, List.map_append]
  rfl
theorem ptrs_ext {G G' : Nat → Nat} {j : Nat} (h : ∀ i, i < j → G i = G' i) : ptrs G j = ptrs G' j := by
  unfold ptrs
  exact List.map_congr_left (fun i hi => by rw [h i (List.mem_range.1 hi)])
/- j acceptors are made -/
structure Mk (w wr : World) (B j : Nat) (aa : Option Addr) (cp : Nat) (G : Nat → Nat) : Prop where
  own : wr.ownsRow B 25 1 (.slice aa j cp) j (ptrs G j)
  blk : ∀ i, i < j → wr.heap[G i]? = some (.cells (accA (s0 i) none 0 0) 84 (0, 0))
  inj : ∀ i k, i < j → k < j → G i = G k → i = k
  ge : ∀ i, i < j → B ≤ G i
  bel : Below B w wr
theorem Mk.below {w wr w' : World} {B j : Nat} {aa : Option Addr} {cp : Nat} {G : Nat → Nat} (h : Mk w wr B j aa cp G) (hb : Below wr.heap.size wr w') (hB : B ≤ wr.heap.size) : Mk w w' B j aa cp G :=
  ⟨rown_bel h.own (fun q e => hb.block q (h.own.lt q e).2), fun i hi => (hb.block _ (Array.getElem?_eq_some_iff.1 (h.blk i hi)).1).trans (h.blk i hi), h.inj, h.ge, h.bel.trans (hb.mono hB)⟩
/- one more: New, then the append of its pointer -/
theorem Mk.more {w wr w1 w2 w3 : World} {B j : Nat} {aa a' : Option Addr} {cp c' p : Nat} {G : Nat → Nat} (h : Mk w wr B j aa cp G) (hB : B ≤ wr.heap.size) (h1 : w1 = wr.alloc (.cells (accA (s0 j) none 0 0) 84)) (h2 : Below w1.heap.size w1 w2) (own : w3.ownsRow B 25 1 (.slice a' (j + 1) c') (j + 1) (ptrs G j ++ [.pointer (some ⟨wr.heap.size, 0, none⟩)])) (gr : w2.grownBy w3 (blkOf aa)) : Mk w w3 B (j + 1) a' c' (upB G j wr.heap.size) := by
  have k1 : w1.heap[wr.heap.size]? = some (.cells (accA (s0 j) none 0 0) 84 (0, 0)) := by rw [h1]; exact heap_alloc_new wr _
  have b1 : Below wr.heap.size wr w1 := by rw [h1]; exact alloc1 wr _
  have b2 : Below wr.heap.size wr w2 := b1.trans (h2.mono b1.size)
  have m2 := h.below b2 hB
  have lt : ∀ i, i < j → G i < wr.heap.size := fun i hi => (Array.getElem?_eq_some_iff.1 (h.blk i hi)).1
  have e1 : ptrs G j = ptrs (upB G j wr.heap.size) j := ptrs_ext (fun i hi => (upB_ne _ _ (by omega)).symm)
  have kept : ∀ {q : Nat} {cs : Array Value}, w2.heap[q]? = some (.cells cs 84 (0, 0)) → w3.heap[q]? = some (.cells cs 84 (0, 0)) := fun {q cs} hq => (gr.block q (Array.getElem?_eq_some_iff.1 hq).1 (fun e => by have := own_blk_ty m2.own hq e.symm; omega)).trans hq
  refine ⟨?_, fun i hi => ?_, fun i k hi hk e => ?_, fun i hi => ?_, m2.bel.trans (grown_below gr (Nat.le_trans hB b2.size) (fun q hq => (m2.own.lt q (by rw [ownBlock_slice]; exact hq)).1))⟩
  · rw [ptrs_succ, ← e1, upB_same]
    exact own
  · by_cases e : i = j
    · subst e
      rw [upB_same]
      exact kept ((h2.block _ (Array.getElem?_eq_some_iff.1 k1).1).trans k1)
    · rw [upB_ne _ _ e]
      exact kept (m2.blk i (by omega))
  · by_cases e1 : i = j
    · by_cases e2 : k = j
      · omega
      · subst e1
        rw [upB_same, upB_ne _ _ e2] at e
        have := lt k (by omega)
        omega
    · by_cases e2 : k = j
      · subst e2
        rw [upB_same, upB_ne _ _ e1] at e
        have := lt i (by omega)
        omega
      · rw [upB_ne _ _ e1, upB_ne _ _ e2] at e
        exact h.inj i k (by omega) (by omega) e
  · by_cases e : i = j
    · subst e; rw [upB_same]; exact hB
    · rw [upB_ne _ _ e]; exact h.ge i (by omega)
/- all are made -/
theorem Mk.sys {w wr : World} {B n : Nat} {aa : Option Addr} {cp : Nat} {G : Nat → Nat} (h : Mk w wr B n aa cp G) (hn : 0 < n) (VS : Nat → Prop) : ∃ ab, aa = some ⟨ab, 0, none⟩ ∧ Sys wr wr.heap.size ab 0 n G (fun i => s0 i) VS ∧ ∃ cs fr, wr.heap[ab]? = some (.cells cs 25 fr) := by
  obtain ⟨ab, rfl, _, _, cur, hk, _⟩ := rown_at h.own hn
  refine ⟨ab, rfl, ⟨fun i hi => ?_, h.inj, fun i hi e => ?_, fun i hi => ⟨none, 0, 0, [], ⟨h.blk i hi, Cms.nil _ _ _, fun _ => rfl, rfl, (Array.getElem?_eq_some_iff.1 (h.blk i hi)).1⟩, fun q hq => ?_⟩⟩, cur, _, hk⟩
  · rw [Nat.zero_add, h.own.cellAt i (by omega)]
    simp [ptrs, hi]
  · have h1 := h.blk i hi
    rw [e, hk] at h1
    simp only [Option.some.injEq, Obj.cells.injEq] at h1
    exact absurd h1.2.1 (by decide)
  · rcases hq with ⟨h1, _⟩ | ⟨x, hx, _⟩
    · omega
    · cases hx
theorem Gh.start (n h : Nat) : Gh n h (fun i => s0 i) (fun _ _ => false) [] [] := ⟨Inv.start n h, fun t ht => by cases ht⟩
end Go.Proofs.YtdfnjcjpblkmcaaDoor
