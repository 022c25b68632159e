/- The state in which a head's lines are read; one field more. -/
import Derived.Test.YtemhhlongfabmaaGreatDoorHg
import Derived.Test.YtemhhlongfabmaaGreatDoorCe
namespace Go.Proofs.YtemhhlongfabmaaGreatDoor
open Go.ChangeShapes Go.WideShapes Go.ChangeAt Go.RowKit
set_option maxRecDepth 20000
set_option linter.unusedVariables false
set_option linter.unusedSimpArgs false
abbrev nilS : Value := .slice none 0 0
structure Hs (w W : World) (g2 g6 gl : Nat) (L : List ByteArray) (m t : ByteArray) (i : Nat) (a : Option Addr) (n c : Nat) (fs : List Fl) : Prop where
  k2 : Bx w W g2 27 (aggR ⟨#[]⟩ ⟨#[]⟩ nilS nilS)
  k6 : Bx w W g6 27 (aggR m t (.slice a n c) nilS)
  lc : Bx w W gl 9 (L.map Value.string).toArray
  rw : Rw W w.heap.size 41 EF a n c fs
  fl : flds (L.tail.take i) = some fs
  ne : g2 ≠ g6
section
variable {w W W' : World} {g2 g6 gl : Nat} {L : List ByteArray} {m t : ByteArray} {i : Nat} {a : Option Addr} {n c : Nat} {fs : List Fl}
theorem Hs.bel (h : Hs w W g2 g6 gl L m t i a n c fs) : Below w.heap.size w W := h.k2.bel
theorem Hs.below (h : Hs w W g2 g6 gl L m t i a n c fs) (hb : Below W.heap.size W W') : Hs w W' g2 g6 gl L m t i a n c fs := ⟨h.k2.below hb, h.k6.below hb, h.lc.below hb, h.rw.below hb, h.fl, h.ne⟩
theorem Hs.line (h : Hs w W g2 g6 gl L m t i a n c fs) {j : Nat} (hj : j < L.length) : W.cell? ⟨gl, j, none⟩ = some (.string (L.getD j ⟨#[]⟩)) := by
  simp [World.cell?, h.lc.row, hj, List.getD]
theorem Hs.c6 (h : Hs w W g2 g6 gl L m t i a n c fs) : W.cell? ⟨g6, 0, none⟩ = some (.string m) ∧ W.cell? ⟨g6, 1, none⟩ = some (.string t) ∧ W.cell? ⟨g6, 2, none⟩ = some (.slice a n c) ∧ W.cell? ⟨g6, 3, none⟩ = some nilS ∧ W.frozen? ⟨g6, 2, none⟩ = false := by
  refine ⟨?_, ?_, ?_, ?_, ?_⟩ <;> simp [World.cell?, World.frozen?, h.k6.row, aggR]
theorem Hs.n_eq (h : Hs w W g2 g6 gl L m t i a n c fs) (hi : i ≤ L.length - 1) : n = i := by
  rw [h.rw.len, flds_len h.fl, List.length_take, List.length_tail]
  omega
theorem Hs.not6 (h : Hs w W g2 g6 gl L m t i a n c fs) {q : Nat} (e : blkOf a = some q) : q ≠ g2 ∧ q ≠ g6 ∧ q ≠ gl := by
  obtain ⟨cur, h1, _⟩ := h.rw.blk e
  refine ⟨?_, ?_, ?_⟩
  · rintro rfl; rw [h.k2.row] at h1; cases h1
  · rintro rfl; rw [h.k6.row] at h1; cases h1
  · rintro rfl; rw [h.lc.row] at h1; cases h1
theorem info41 : (Tryz.prog.info? 41).map (fun i => (i.zero, i.size, i.bytes)) = some (some (.agg #[.string ⟨#[]⟩, .string ⟨#[]⟩]), 2, 32) := by kernel_rfl
theorem Bx.grown {g : Nat} {ty : TypeId} {A : Array Value} {row : Option Nat} (h : Bx w W g ty A) (hg : W.grownBy W' row) (hr : ∀ q, row = some q → w.heap.size ≤ q) (hn : some g ≠ row) : Bx w W' g ty A :=
  ⟨(hg.block g h.lt hn).trans h.row, h.bel.grown hg h.bel.size hr, h.ge⟩
theorem Bx.setC {g k : Nat} {ty : TypeId} {A : Array Value} (h : Bx w W g ty A) (hk : w.heap.size ≤ k) (ne : g ≠ k) (j : Nat) (v : Value) : Bx w (W.setCell ⟨k, j, none⟩ v) g ty A := by
  refine ⟨(Below.heap_setCell _ _ _ _ ne).trans h.row, ?_, h.ge⟩
  exact h.bel.trans ⟨rfl, rfl, rfl, by simp [World.setCell], fun q hq => Below.heap_setCell _ _ _ _ (show q ≠ k by omega)⟩
theorem Hs.app (h : Hs w W g2 g6 gl L m t i a n c fs) {f : Fl} (hx : rdL (L.getD (i + 1) ⟨#[]⟩) = some f) (hi : i + 1 < L.length) (hl : L.length ≤ 4294967281) :
    ∃ a' c' W3, (Builtin.append_ #[25, 25] 25 #[.slice a n c, .slice (some ⟨W.heap.size + 1, 0, none⟩) 1 1]).run Tryz.prog ((W.alloc (.cells #[.string f.1, .string f.2] 41)).alloc (.cells #[.string f.1, .string f.2] 41)) = .ok (.slice a' (n + 1) c') W3 ∧
      Hs w (W3.setCell ⟨g6, 2, none⟩ (.slice a' (n + 1) c')) g2 g6 gl L m t (i + 1) a' (n + 1) c' (fs ++ [f]) ∧ W3.cell? ⟨g6, 2, none⟩ = some (.slice a n c) ∧ W3.frozen? ⟨g6, 2, none⟩ = false := by
  have hn := h.n_eq (by omega)
  have h1 : Hs w (W.alloc (.cells #[.string f.1, .string f.2] 41)) g2 g6 gl L m t i a n c fs := h.below (alloc1 _ _)
  have h2 : Hs w ((W.alloc (.cells #[.string f.1, .string f.2] 41)).alloc (.cells #[.string f.1, .string f.2] 41)) g2 g6 gl L m t i a n c fs := h1.below (alloc1 _ _)
  have hp : ((W.alloc (.cells #[.string f.1, .string f.2] 41)).alloc (.cells #[.string f.1, .string f.2] 41)).heap[W.heap.size + 1]? = some (.cells (EF.e f).toArray 41 (0, 0)) := by
    have := heap_alloc_new (W.alloc (.cells #[.string f.1, .string f.2] 41)) (.cells #[.string f.1, .string f.2] 41)
    have e1 : (W.alloc (.cells #[.string f.1, .string f.2] 41)).heap.size = W.heap.size + 1 := by simp
    rw [e1] at this
    exact this
  obtain ⟨W2, hW2⟩ : ∃ W2, (W.alloc (.cells #[.string f.1, .string f.2] 41)).alloc (.cells #[.string f.1, .string f.2] 41) = W2 := ⟨_, rfl⟩
  rw [hW2] at h2 hp ⊢
  obtain ⟨a', c', W3, hrun, hown, hgr, hnew⟩ := app_one (t := 25) (e := 41) (z := 2) Tryz.underlying25 info41 rfl (by decide) h2.rw.row hp rfl (EF.one f) (by omega) (by simp only [maxLen]; omega) h2.bel.size
  have hr : ∀ q, blkOf a = some q → w.heap.size ≤ q := fun q e => (h2.rw.lt e).1
  have ng : ∀ g, (g = g2 ∨ g = g6 ∨ g = gl) → some g ≠ blkOf a := fun g hg e => by
    obtain ⟨x1, x2, x3⟩ := h2.not6 e.symm
    rcases hg with rfl | rfl | rfl
    · exact x1 rfl
    · exact x2 rfl
    · exact x3 rfl
  have k2 := h2.k2.grown hgr hr (ng _ (.inl rfl))
  have k6 := h2.k6.grown hgr hr (ng _ (.inr (.inl rfl)))
  have lc := h2.lc.grown hgr hr (ng _ (.inr (.inr rfl)))
  have r3 : Rw W3 w.heap.size 41 EF a' (n + 1) c' (fs ++ [f]) := ⟨by rw [EF.fl_app, EF.fl_one]; exact hown, by decide⟩
  have ne9 : gl ≠ g6 := by
    rintro rfl
    have e1 := lc.row
    rw [k6.row] at e1
    have e2 := congrArg (fun o => match o with | some (Obj.cells _ t _) => t | _ => 0) e1
    have e3 : (27 : Nat) = 9 := e2
    omega
  refine ⟨a', c', W3, hrun, ⟨k2.setC k6.ge h.ne _ _, ⟨?_, ?_, k6.ge⟩, lc.setC k6.ge ne9 _ _, ?_, ?_, h.ne⟩, ?_, ?_⟩
  · rw [set_blk k6.row]
    rfl
  · exact k6.bel.trans ⟨rfl, rfl, rfl, by simp [World.setCell], fun q hq => Below.heap_setCell _ _ _ _ (show q ≠ g6 by have := k6.ge; omega)⟩
  · refine r3.keep1 (fun q e => Below.heap_setCell _ _ _ _ ?_)
    rintro rfl
    obtain ⟨cur, e1, _⟩ := r3.blk e
    rw [k6.row] at e1
    cases e1
  · have e : L.tail.take (i + 1) = L.tail.take i ++ [L.getD (i + 1) ⟨#[]⟩] := by
      have ht : i < L.tail.length := by rw [List.length_tail]; omega
      rw [List.take_succ_eq_append_getElem ht]
      congr 2
      have h3 : L.tail[i] = L[i + 1]'hi := by simp
      rw [h3]
      simp [List.getD, hi]
    rw [e]
    exact flds_snoc h.fl hx
  · simp [World.cell?, k6.row, aggR]
  · simp [World.frozen?, k6.row]
end
end Go.Proofs.YtemhhlongfabmaaGreatDoor
