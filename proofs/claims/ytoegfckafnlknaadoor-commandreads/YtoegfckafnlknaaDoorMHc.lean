import Derived.Test.YtoegfckafnlknaaDoorMHa
import Derived.Test.YtoegfckafnlknaaDoorMHb
import Derived.Test.YtoegfckafnlknaaDoorMGa
/- Hc -/
/- The document's Get (f18): its state, and what its readings come to. -/
namespace Go.Proofs.YtoegfckafnlknaaDoor
open Go.ChangeShapes Go.WideShapes Go.ChangeAt Go.RowKit
set_option maxRecDepth 20000
set_option linter.unusedVariables false
set_option linter.unusedSimpArgs false
theorem take_z {w : World} {g : Nat} {a : Option Addr} {n c : Nat} {l : List Nat} {p : Nat} {z : Int} (k : Nat) (hz : z = (k : Int)) (hR : Hid (Rrf w g a n c l p)) (hk : k ≤ 1000) :
    Calls Tryd.prog 43 #[.pointer (some ⟨g, 0, none⟩), .int .i64 z] w fun e w' => ∃ a' m c' ok S q, e = .returned (.tuple #[.slice a' m c', .bool ok]) ∧ Hid (Tk w w' g a n c l p k a' m c' ok S q) := by
  subst hz
  exact take_n hR hk
structure By (w w' : World) (g : Nat) (a : Option Addr) (n c : Nat) (l : List Nat) (p : Nat) (z : Int) (a' : Option Addr) (m c' e : Nat) (L : List Nat) (q : Nat) : Prop where
  own : Own w' w.heap.size a' m c' L
  rrf : Rrf w' g a n c l q
  fr : Wfr w w' g none
  cs : (e = 0 ∧ rt l p z = some (L, q)) ∨ (e = 5 ∧ rt l p z = none)
  ln : m ≤ 1000
theorem rdB_len {l : List Nat} {p : Nat} {z : Int} (hz : z ≤ 1000) : (rdB l p z).1.length ≤ 1000 := by
  unfold rdB
  split
  · rename_i h
    simp only [List.length_take]
    have := h.2.1
    omega
  · simp
theorem bytR_n {w : World} {g : Nat} {a : Option Addr} {n c : Nat} {l : List Nat} {p : Nat} {z : Int} (hR : Hid (Rrf w g a n c l p)) (hz : z ≤ 1000) :
    Calls Tryd.prog 44 #[.pointer (some ⟨g, 0, none⟩), .int .i64 z] w fun e w' => ∃ (a' : Option Addr) (m c' x : Nat) (L : List Nat) (q : Nat), e = .returned (.tuple #[.slice a' m c', .int .i64 (x : Int)]) ∧ Hid (By w w' g a n c l p z a' m c' x L q) := by
  refine (refrbytes_any hR).mono ?_
  rintro e w' ⟨a', m, c', x, h1, h2⟩
  obtain ⟨h3, h4, h5, h6⟩ := h2.out
  refine ⟨a', m, c', x, _, _, h1, h3, h5, h6, ?_, by rw [h3.len]; exact rdB_len hz⟩
  rcases rt_cases l p z with ⟨L, q, r1, r2⟩ | ⟨r1, L, q, r2⟩
  · rw [r2] at h4 ⊢
    exact .inl ⟨h4, r1⟩
  · rw [r2] at h4
    exact .inr ⟨h4, r1⟩
theorem irow_wfr {W W' : World} {g lo : Nat} {a : Option Addr} {m : Nat} {L : List Int} (h : Irow W lo a m L) (hf : Wfr W W' g none) (hlo : g < lo) : Irow W' lo a m L := h.keep hf.size (fun q h1 h2 => hf.block q h2 (by omega) (by simp [blkOf]))
/- a row of ints of the call's own, for reading too -/
structure Iro (w : World) (lo : Nat) (a : Option Addr) (n c : Nat) (l : List Int) : Prop where
  ir : Irow w lo a n l
  ow : w.ownsRow lo 3 1 (.slice a n c) n (l.map iv)
theorem Iro.keep {w w' : World} {lo : Nat} {a : Option Addr} {n c : Nat} {l : List Int} (h : Iro w lo a n c l) (hs : w.heap.size ≤ w'.heap.size) (hb : ∀ q, lo ≤ q → q < w.heap.size → w'.heap[q]? = w.heap[q]?) : Iro w' lo a n c l :=
  ⟨h.ir.keep hs hb, rown_bel h.ow (fun q e => hb q (h.ow.lt q e).1 (h.ow.lt q e).2)⟩
theorem Iro.below {w w' : World} {lo : Nat} {a : Option Addr} {n c : Nat} {l : List Int} (h : Iro w lo a n c l) (hb : Below w.heap.size w w') : Iro w' lo a n c l := h.keep hb.size fun q _ hq => hb.block q hq
theorem Iro.mono {w : World} {lo lo' : Nat} {a : Option Addr} {n c : Nat} {l : List Int} (h : Iro w lo a n c l) (hl : lo' ≤ lo) : Iro w lo' a n c l := ⟨h.ir.mono hl, rown_mono h.ow hl⟩
theorem iro_wfr {W W' : World} {g lo : Nat} {a : Option Addr} {m c : Nat} {L : List Int} (h : Iro W lo a m c L) (hf : Wfr W W' g none) (hlo : g < lo) : Iro W' lo a m c L := h.keep hf.size (fun q h1 h2 => hf.block q h2 (by omega) (by simp [blkOf]))
theorem Iro.setRow {w : World} {lo g : Nat} {a : Option Addr} {n c : Nat} {l : List Int} (h : Iro w lo a n c l) (hg : g < lo) (D : Array Value) : Iro (w.setRow g D) lo a n c l := h.keep (by rw [setRow_size]; exact Nat.le_refl _) (fun q h1 _ => setRow_other _ _ _ _ (by omega))
theorem own_wfr {W W' : World} {g lo : Nat} {a : Option Addr} {m c : Nat} {L : List Nat} (h : Own W lo a m c L) (hf : Wfr W W' g none) (hlo : g < lo) : Own W' lo a m c L := h.block (fun q hq => hf.block q (h.ge q hq).2 (by have := (h.ge q hq).1; omega) (by simp [blkOf]))
theorem irow_from {W : World} {lo b o n : Nat} {L : List Int} (h : Irow W lo (some ⟨b, o, none⟩) n L) (j : Nat) : Irow W lo (some ⟨b, o + j, none⟩) (n - j) (L.drop j) := by
  refine ⟨by have := h.len; simp; omega, by have := h.sz; omega, ?_⟩
  rcases h.row with h0 | ⟨b', o', e, h2, h3, h4⟩
  · exact .inl (by omega)
  · cases e
    refine .inr ⟨b, o + j, rfl, h2, h3, fun i hi => ?_⟩
    have := h4 (j + i) (by omega)
    rw [← Nat.add_assoc] at this
    rw [this]
    simp [List.getD]
/- the reader in its box, the answer's box, behind what is there -/
structure Gq (w W : World) (g2 g4 : Nat) (a : Option Addr) (n c : Nat) (l : List Nat) (q : Nat) : Prop where
  rrf : Rrf W g4 a n c l q
  k2 : W.heap[g2]? = some (.cells #[.int .i64 0, .int .i64 0, .int .i64 0, .int .i64 0, .string ⟨#[]⟩, .string ⟨#[]⟩, .int .i64 0, .int .i64 0, .int .i64 0, .int .i64 0, .int .i64 0, .int .i64 0, .int .i64 0, .string ⟨#[]⟩, .int .i64 0, .slice none 0 0, .int .i64 0, .int .i64 0] 28 (0, 0))
  e2 : g2 = w.heap.size
  e4 : g4 = w.heap.size + 1
  bel : Below w.heap.size w W
section
variable {w W W' : World} {g2 g4 : Nat} {a : Option Addr} {n c : Nat} {l : List Nat} {q q' : Nat}
theorem Gq.step (h : Gq w W g2 g4 a n c l q) (hR : Rrf W' g4 a n c l q') (hf : Wfr W W' g4 none) : Gq w W' g2 g4 a n c l q' := by
  have e2 := h.e2
  have e4 := h.e4
  have hs := h.bel.size
  exact ⟨hR, (hf.block g2 (Array.getElem?_eq_some_iff.1 h.k2).1 (by omega) (by simp [blkOf])).trans h.k2, h.e2, h.e4, Wfr.below h.bel hf (by omega) (by simp [blkOf]) hs⟩
theorem Gq.lo (h : Gq w W g2 g4 a n c l q) : w.heap.size + 2 ≤ W.heap.size := by have := h.rrf.lt; have := h.e4; omega
end
section
variable {l S1 L2 L3 S4 L5 S6 S7 S8 : List Nat} {p1 p2 p3 p4 p5 p6 p7 p8 : Nat} {ok1 ok4 ok6 ok7 ok8 : Bool} {e2 e3 e5 : Nat}
theorem refC_bad (t1 : ok1 = true → rp l 1099511627776 4 0 = some (S1, p1)) (n1 : ok1 = false → rp l 1099511627776 4 0 = none) (y2 : (e2 = 0 ∧ rt l p1 63 = some (L2, p2)) ∨ (e2 = 5 ∧ rt l p1 63 = none)) (y3 : (e3 = 0 ∧ rt l p2 200 = some (L3, p3)) ∨ (e3 = 5 ∧ rt l p2 200 = none)) (t4 : ok4 = true → rp l 1099511627776 7 p3 = some (S4, p4)) (n4 : ok4 = false → rp l 1099511627776 7 p3 = none) (y5 : (e5 = 0 ∧ rt l p4 64 = some (L5, p5)) ∨ (e5 = 5 ∧ rt l p4 64 = none)) (t6 : ok6 = true → rp l 1099511627776 2 p5 = some (S6, p6)) (n6 : ok6 = false → rp l 1099511627776 2 p5 = none)
    (hb : ok1 = false ∨ ok4 = false ∨ ok6 = false ∨ e2 + e3 + e5 ≠ 0) : refC l = none := by
  unfold refC
  cases ok1
  · rw [n1 rfl]; rfl
  rw [t1 rfl, Option.bind_some]
  simp only
  rcases y2 with ⟨rfl, y2⟩ | ⟨rfl, y2⟩
  case inr => rw [y2]; rfl
  rw [y2, Option.bind_some]
  simp only
  rcases y3 with ⟨rfl, y3⟩ | ⟨rfl, y3⟩
  case inr => rw [y3]; rfl
  rw [y3, Option.bind_some]
  simp only
  cases ok4
  · rw [n4 rfl]; rfl
  rw [t4 rfl, Option.bind_some]
  simp only
  rcases y5 with ⟨rfl, y5⟩ | ⟨rfl, y5⟩
  case inr => rw [y5]; rfl
  rw [y5, Option.bind_some]
  simp only
  cases ok6
  · rw [n6 rfl]; rfl
  simp at hb
theorem refC_good (t1 : rp l 1099511627776 4 0 = some (S1, p1)) (y2 : rt l p1 63 = some (L2, p2)) (y3 : rt l p2 200 = some (L3, p3)) (t4 : rp l 1099511627776 7 p3 = some (S4, p4)) (y5 : rt l p4 64 = some (L5, p5)) (t6 : rp l 1099511627776 2 p5 = some (S6, p6)) : refC l = if 16 < S6.getD 1 0 then none else (rp l 1099511627776 (S6.getD 1 0) p6).bind fun ps => (rp l 1099511627776 2 ps.2).bind fun t => some (mkC S1 L2 L3 S4 L5 S6 ps.1 t.1, t.2) := by
  unfold refC
  rw [t1, Option.bind_some]
  simp only
  rw [y2, Option.bind_some]
  simp only
  rw [y3, Option.bind_some]
  simp only
  rw [t4, Option.bind_some]
  simp only
  rw [y5, Option.bind_some]
  simp only
  rw [t6, Option.bind_some]
end
theorem refG_none {l : List Nat} (h : refC l = none) : refG l = none := by rw [refG, h]; rfl
/- what the document's Get comes to -/
def GtD (w w' : World) (l : List Nat) (e : Ending) : Prop :=
  (refG l = none ∧ e = .returned (.tuple #[.agg #[.int .i64 0, .int .i64 0, .int .i64 0, .int .i64 0, .string ⟨#[]⟩, .string ⟨#[]⟩, .int .i64 0, .int .i64 0, .int .i64 0, .int .i64 0, .int .i64 0, .int .i64 0, .int .i64 0, .string ⟨#[]⟩, .int .i64 0, .slice none 0 0, .int .i64 0, .int .i64 0], .bool false]) ∧ Below w.heap.size w w') ∨ (∃ x pa pn pc, refG l = some x ∧ e = .returned (.tuple #[.agg (encX ⟨x.cm, pa, pn, pc⟩).toArray, .bool true]) ∧ Below w.heap.size w w' ∧ Irow w' w.heap.size pa pn x.cm.ps ∧ w'.ownsRow w.heap.size 3 1 (.slice pa pn pc) pn (x.cm.ps.map iv))
end Go.Proofs.YtoegfckafnlknaaDoor
