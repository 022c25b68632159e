/- Several acceptors side by side; who was seen. -/
import Derived.Test.YtdfnjcjpblkmcaaDoorPe
namespace Go.Proofs.YtdfnjcjpblkmcaaDoor
open Go.ChangeShapes Go.WideShapes Go.ChangeAt Go.RowKit
set_option maxRecDepth 20000
set_option linter.unusedVariables false
set_option linter.unusedSimpArgs false
theorem pickn (x : Int) (N : Nat) (hN : 0 < N) : ∃ (t : Int) (r : Nat), x.tmod (N : Int) = t ∧ -(N : Int) < t ∧ t < (N : Int) ∧ (t + (N : Int)).tmod (N : Int) = (r : Int) ∧ r < N := by
  have h1 := Int.tmod_lt_of_pos x (show (0 : Int) < (N : Int) by omega)
  have h2 := Int.lt_tmod_of_pos x (show (0 : Int) < (N : Int) by omega)
  have h3 : (x.tmod N + N).tmod N = (x.tmod N + N) % N := Int.tmod_eq_emod_of_nonneg (by omega)
  have h4 := Int.emod_nonneg (x.tmod N + N) (show (N : Int) ≠ 0 by omega)
  have h5 := Int.emod_lt_of_pos (x.tmod N + N) (show (0 : Int) < (N : Int) by omega)
  exact ⟨x.tmod N, ((x.tmod N + N) % N).toNat, rfl, h2, h1, by rw [h3]; omega, by omega⟩
/- the acceptors: pointers in a row at ab, structs at G i, states S i; what their ledgers lie in is none of VS -/
structure Sys (w : World) (H ab ao n : Nat) (G : Nat → Nat) (S : Nat → As) (VS : Nat → Prop) : Prop where
  row : ∀ i, i < n → w.cell? ⟨ab, ao + i, none⟩ = some (.pointer (some ⟨G i, 0, none⟩))
  inj : ∀ i j, i < n → j < n → G i = G j → i = j
  ne : ∀ i, i < n → G i ≠ ab
  acc : ∀ i, i < n → ∃ a m c X, Acc w 84 H (G i) (S i) a m c X ∧ ∀ q, fpc a m X q → ¬ VS q
section
variable {w w' : World} {H ab ao n : Nat} {G : Nat → Nat} {S : Nat → As} {VS VS' T : Nat → Prop}
theorem Sys.ablt (h : Sys w H ab ao n G S VS) (hn : 0 < n) : ab < w.heap.size := cell_lt (h.row 0 hn)
theorem Sys.glt (h : Sys w H ab ao n G S VS) {i : Nat} (hi : i < n) : G i < w.heap.size := by
  obtain ⟨a, m, c, X, h1, _⟩ := h.acc i hi
  exact h1.glt
/- what is not theirs is changed -/
theorem Sys.ch (h : Sys w H ab ao n G S VS) (hc : Ch w w' T) (hT : ∀ q, q < w.heap.size → T q → VS q) (hab : ¬ T ab) (hG : ∀ i, i < n → ¬ T (G i)) (hv : ∀ q, VS' q → VS q ∨ w.heap.size ≤ q) : Sys w' H ab ao n G S VS' := by
  refine ⟨fun i hi => (hc.cell (p := ⟨ab, ao + i, none⟩) (cell_lt (h.row i hi)) hab).trans (h.row i hi), h.inj, h.ne, fun i hi => ?_⟩
  obtain ⟨a, m, c, X, h1, h2⟩ := h.acc i hi
  refine ⟨a, m, c, X, h1.keepF hc.size (hc.block _ h1.glt (hG i hi)) (fun q hq => hc.block q (h1.cms.fp_lt hq).2 (fun e => h2 q hq (hT q (h1.cms.fp_lt hq).2 e))), fun q hq e => ?_⟩
  rcases hv q e with e | e
  · exact h2 q hq e
  · have := (h1.cms.fp_lt hq).2; omega
theorem Sys.below (h : Sys w H ab ao n G S VS) (hb : Below w.heap.size w w') : Sys w' H ab ao n G S VS := h.ch (T := fun _ => False) (Ch.below hb) (fun _ _ e => e.elim) (fun e => e) (fun _ _ e => e) (fun q e => .inl e)
/- one of them is written -/
theorem Sys.one (h : Sys w H ab ao n G S VS) {i : Nat} (hi : i < n) {s' : As} {a m c : _} {X : List Cx} {a' : Option Addr} {m' c' : Nat} {X' : List Cx} (h0 : Acc w 84 H (G i) (S i) a m c X) (h1 : ∀ q, fpc a m X q → ¬ VS q) (hA : Acc w' 84 H (G i) s' a' m' c' X') (hf : ∀ q, fpc a' m' X' q → fpc a m X q ∨ w.heap.size ≤ q) (hc : Ch w w' (fun q => q = G i)) (hV : ∀ q, VS q → q < w.heap.size) : Sys w' H ab ao n G (upB S i s') VS := by
  refine ⟨fun j hj => (hc.cell (p := ⟨ab, ao + j, none⟩) (cell_lt (h.row j hj)) (fun e => h.ne i hi e.symm)).trans (h.row j hj), h.inj, h.ne, fun j hj => ?_⟩
  by_cases e : j = i
  · subst e
    rw [upB_same]
    refine ⟨a', m', c', X', hA, fun q hq e => ?_⟩
    rcases hf q hq with h2 | h2
    · exact h1 q h2 e
    · have := hV q e; omega
  · rw [upB_ne _ _ e]
    obtain ⟨a2, m2, c2, X2, k1, k2⟩ := h.acc j hj
    refine ⟨a2, m2, c2, X2, k1.keepF hc.size (hc.block _ k1.glt (fun e2 => e (h.inj j i hj hi e2))) (fun q hq => hc.block q (k1.cms.fp_lt hq).2 (fun e2 => ?_)), k2⟩
    have h3 := (k1.cms.fp_lt hq).1
    have h4 := h0.lt
    omega
end
/- who was seen -/
def sn (n : Nat) (f : Nat → Bool) : Array Value := ((List.range n).map (fun i => Value.bool (f i))).toArray
theorem sn_made (n : Nat) : madeCells #[Value.bool false] n = sn n (fun _ => false) := by
  unfold sn
  apply Array.ext
  · simp [madeCells]
  · intro i h1 h2
    simp [madeCells, Nat.mod_one]
theorem sn_cell {w : World} {g n : Nat} {f : Nat → Bool} (h : w.heap[g]? = some (.cells (sn n f) 4 (0, 0))) {i : Nat} (hi : i < n) : w.cell? ⟨g, i, none⟩ = some (.bool (f i)) := by
  simp [World.cell?, h, sn, hi]
theorem sn_fz {w : World} {g n : Nat} {f : Nat → Bool} (h : w.heap[g]? = some (.cells (sn n f) 4 (0, 0))) (i : Nat) : w.frozen? ⟨g, i, none⟩ = false := by
  simp [World.frozen?, h]
theorem sn_set {w : World} {g n : Nat} {f : Nat → Bool} (h : w.heap[g]? = some (.cells (sn n f) 4 (0, 0))) {i : Nat} (hi : i < n) : (w.setCell ⟨g, i, none⟩ (.bool true)).heap[g]? = some (.cells (sn n (upB f i true)) 4 (0, 0)) := by
  rw [set_blk h]
  congr 2
  unfold sn
  apply Array.ext
  · simp
  · intro j h1 h2
    have hj : j < n := by simpa using h2
    by_cases e : j = i
    · subst e
      simp [upB]
    · simp [upB, e, Array.getElem_setIfInBounds, Ne.symm e]
end Go.Proofs.YtdfnjcjpblkmcaaDoor
