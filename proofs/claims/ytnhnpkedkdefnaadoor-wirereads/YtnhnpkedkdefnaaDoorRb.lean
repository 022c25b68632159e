/- While the readers are made. -/
import Derived.Test.YtnhnpkedkdefnaaDoorRa
import Derived.Test.YtnhnpkedkdefnaaDoorZe
namespace Go.Proofs.YtnhnpkedkdefnaaDoor
open Go.ChangeShapes Go.WideShapes Go.ChangeAt Go.RowKit
set_option linter.unusedVariables false
set_option linter.unusedSimpArgs false
abbrev twoS (B : Nat → Bs) : Obj := .cells #[.slice (B 0).a (B 0).n (B 0).c, .slice (B 1).a (B 1).n (B 1).c] 28
abbrev twoP (t : Nat) (P : Nat → Option Addr) : Obj := .cells #[.pointer (P 0), .pointer (P 1)] t
theorem twoS_cell {w : World} {b k : Nat} {B : Nat → Bs} (h : w.heap[b]? = some (twoS B)) (hk : k < 2) : w.cell? ⟨b, k, none⟩ = some (.slice (B k).a (B k).n (B k).c) := by
  have hk2 : k = 0 ∨ k = 1 := by omega
  rcases hk2 with rfl | rfl <;> simp [World.cell?, h]
theorem twoP_cell {w : World} {b k t : Nat} {P : Nat → Option Addr} (h : w.heap[b]? = some (twoP t P)) (hk : k < 2) : w.cell? ⟨b, k, none⟩ = some (.pointer (P k)) := by
  have hk2 : k = 0 ∨ k = 1 := by omega
  rcases hk2 with rfl | rfl <;> simp [World.cell?, h]
def updP (P : Nat → Option Addr) (k : Nat) (a : Option Addr) : Nat → Option Addr := fun j => if j = k then a else P j
theorem twoP_set {w : World} {b k t : Nat} {P : Nat → Option Addr} (h : w.heap[b]? = some (twoP t P)) (hk : k < 2) (a : Option Addr) : (w.setCell ⟨b, k, none⟩ (.pointer a)).heap[b]? = some (twoP t (updP P k a)) := by
  rw [set_blk h]
  have hk2 : k = 0 ∨ k = 1 := by omega
  rcases hk2 with rfl | rfl <;> rfl
structure SU (w wr : World) (bb br bm : Nat) (B : Nat → Bs) (K : Nat) (D : Nat → Rd) (lab : Nat → Nat) (PR PM : Nat → Option Addr) : Prop where
  sr : Sr w wr [(bb, twoS B)] B K D lab
  hr : wr.heap[br]? = some (twoP 44 PR)
  hm : wr.heap[bm]? = some (twoP 46 PM)
  lr : lab br = 1
  lm : lab bm = 2
  gr : w.heap.size ≤ br
  gm : w.heap.size ≤ bm
  pr : ∀ j, j < K → PR j = some ⟨(D j).g, 0, none⟩
  pm : ∀ j, j < K → PM j = some ⟨(D j).gm, 0, none⟩
  p0 : ∀ j, j < K → (D j).p = 0 ∧ (D j).pm = 0
theorem SU.bb {w wr : World} {bb br bm K : Nat} {B : Nat → Bs} {D : Nat → Rd} {lab : Nat → Nat} {PR PM : Nat → Option Addr} (h : SU w wr bb br bm B K D lab PR PM) : wr.heap[bb]? = some (twoS B) ∧ lab bb = 0 := h.sr.fx bb _ (by simp)
/- a block of label 11 is written over -/
theorem SU.one {w wr wr' : World} {bb br bm K gb : Nat} {B : Nat → Bs} {D : Nat → Rd} {lab : Nat → Nat} {PR PM : Nat → Option Addr} (h : SU w wr bb br bm B K D lab PR PM) (hK : K ≤ 2) (hg : lab gb = 11) (hge : w.heap.size ≤ gb) (ch : Ch wr wr' (fun q => q = gb)) : SU w wr' bb br bm B K D lab PR PM := by
  have l1 := h.lr
  have l2 := h.lm
  exact { h with
    sr := h.sr.other ch (fun q _ e => by rw [e]; exact hge) (fun q _ e => by rw [e, hg]; exact ⟨by omega, fun j hj => ⟨by omega, by omega, by omega⟩⟩)
    hr := (ch.block br (Array.getElem?_eq_some_iff.1 h.hr).1 (fun e => by rw [e] at l1; omega)).trans h.hr
    hm := (ch.block bm (Array.getElem?_eq_some_iff.1 h.hm).1 (fun e => by rw [e] at l2; omega)).trans h.hm }
theorem SU.below {w wr wr' : World} {bb br bm K : Nat} {B : Nat → Bs} {D : Nat → Rd} {lab : Nat → Nat} {PR PM : Nat → Option Addr} (h : SU w wr bb br bm B K D lab PR PM) (hb : Below wr.heap.size wr wr') : SU w wr' bb br bm B K D lab PR PM :=
  { h with
    sr := h.sr.below hb
    hr := (hb.block br (Array.getElem?_eq_some_iff.1 h.hr).1).trans h.hr
    hm := (hb.block bm (Array.getElem?_eq_some_iff.1 h.hm).1).trans h.hm }
abbrev refO (b : Bs) : Obj := .cells #[.slice b.a b.n b.c, .int .i64 0] 49
def labK (n g : Nat) (a : Option Addr) (m k : Nat) (lab : Nat → Nat) : Nat → Nat := fun p => if n ≤ p then (if p = g then 3 + k else if blkOf a = some p then 5 + k else if p = m then 7 + k else 11) else lab p
theorem labK_old {n g m k p : Nat} {a : Option Addr} {lab : Nat → Nat} (h : p < n) : labK n g a m k lab p = lab p := if_neg (by omega)
/- one more reader -/
theorem SU.step {w wr wb w2 : World} {bb br bm k g : Nat} {B : Nat → Bs} {D : Nat → Rd} {lab : Nat → Nat} {PR PM : Nat → Option Addr} {a' : Option Addr} {c' : Nat} (h : SU w wr bb br bm B k D lab PR PM) (hk : k < 2) (Bb : Below wr.heap.size wr wb) (hgb : wr.heap.size < wb.heap.size) (R2 : Rdr w2 g wb.heap.size a' (B k).n c' (B k).l 0) (hg : wb.heap.size ≤ g) (B2 : Below wb.heap.size wb w2) :
    (w2.frozen? ⟨br, k, none⟩ = false ∧ (∃ v, w2.cell? ⟨br, k, none⟩ = some v)) ∧
    ((w2.setCell ⟨br, k, none⟩ (.pointer (some ⟨g, 0, none⟩))).cell? ⟨bb, k, none⟩ = some (.slice (B k).a (B k).n (B k).c)) ∧
    (((w2.setCell ⟨br, k, none⟩ (.pointer (some ⟨g, 0, none⟩))).alloc (refO (B k))).frozen? ⟨bm, k, none⟩ = false ∧ (∃ v, ((w2.setCell ⟨br, k, none⟩ (.pointer (some ⟨g, 0, none⟩))).alloc (refO (B k))).cell? ⟨bm, k, none⟩ = some v)) ∧
    (w2.setCell ⟨br, k, none⟩ (.pointer (some ⟨g, 0, none⟩))).heap.size = w2.heap.size ∧
    SU w (((w2.setCell ⟨br, k, none⟩ (.pointer (some ⟨g, 0, none⟩))).alloc (refO (B k))).setCell ⟨bm, k, none⟩ (.pointer (some ⟨w2.heap.size, 0, none⟩))) bb br bm B (k + 1) (updR D k ⟨g, a', c', 0, w2.heap.size, 0⟩) (labK wr.heap.size g a' w2.heap.size k lab) (updP PR k (some ⟨g, 0, none⟩)) (updP PM k (some ⟨w2.heap.size, 0, none⟩)) ∧
    labK wr.heap.size g a' w2.heap.size k lab wr.heap.size = 11 ∧
    (∀ q, q < wb.heap.size → q ≠ br → q ≠ bm → (((w2.setCell ⟨br, k, none⟩ (.pointer (some ⟨g, 0, none⟩))).alloc (refO (B k))).setCell ⟨bm, k, none⟩ (.pointer (some ⟨w2.heap.size, 0, none⟩))).heap[q]? = wb.heap[q]?) := by
  have B02 : Below wr.heap.size wr w2 := Bb.trans (B2.mono Bb.size)
  have h2 := h.below B02
  have ltr := (Array.getElem?_eq_some_iff.1 h.hr).1
  have ltm := (Array.getElem?_eq_some_iff.1 h.hm).1
  have ltb := (Array.getElem?_eq_some_iff.1 h.bb.1).1
  have l1 := h.lr
  have l2 := h.lm
  have l0 := h.bb.2
  have hbr : bb ≠ br := fun e => by rw [e] at l0; omega
  have hbm : bb ≠ bm := fun e => by rw [e] at l0; omega
  have hrm : br ≠ bm := fun e => by rw [e] at l1; omega
  obtain ⟨w3, H3⟩ : ∃ w3, w2.setCell ⟨br, k, none⟩ (.pointer (some ⟨g, 0, none⟩)) = w3 := ⟨_, rfl⟩
  obtain ⟨w4, H4⟩ : ∃ w4, w3.alloc (refO (B k)) = w4 := ⟨_, rfl⟩
  obtain ⟨w5, H5⟩ : ∃ w5, w4.setCell ⟨bm, k, none⟩ (.pointer (some ⟨w2.heap.size, 0, none⟩)) = w5 := ⟨_, rfl⟩
  have sz3 : w3.heap.size = w2.heap.size := by rw [← H3]; simp [World.setCell]
  have e3 : ∀ q, q ≠ br → w3.heap[q]? = w2.heap[q]? := fun q hq => by rw [← H3]; exact Below.heap_setCell _ _ _ _ hq
  have e4 : ∀ q, q < w3.heap.size → w4.heap[q]? = w3.heap[q]? := fun q hq => by rw [← H4]; exact Below.heap_alloc _ _ _ hq
  have e5 : ∀ q, q ≠ bm → w5.heap[q]? = w4.heap[q]? := fun q hq => by rw [← H5]; exact Below.heap_setCell _ _ _ _ hq
  have n4 : w4.heap[w2.heap.size]? = some (refO (B k)) := by rw [← H4, ← sz3]; exact heap_alloc_new _ _
  have r3 : w3.heap[br]? = some (twoP 44 (updP PR k (some ⟨g, 0, none⟩))) := by rw [← H3]; exact twoP_set h2.hr hk _
  have s02 := B02.size
  have sb2 := B2.size
  have m4 : w4.heap[bm]? = some (twoP 46 PM) := by rw [e4 bm (by omega), e3 bm (Ne.symm hrm)]; exact h2.hm
  have m5 : w5.heap[bm]? = some (twoP 46 (updP PM k (some ⟨w2.heap.size, 0, none⟩))) := by rw [← H5]; exact twoP_set m4 hk _
  have all : ∀ q, q < w2.heap.size → q ≠ br → q ≠ bm → w5.heap[q]? = w2.heap[q]? := fun q hq h1 h2 => by rw [e5 q h2, e4 q (by omega), e3 q h1]
  have gneb : g ≠ br ∧ g ≠ bm := ⟨by omega, by omega⟩
  have ch5 : Ch w2 w5 (fun q => q = br ∨ q = bm) := ⟨by rw [← H5, ← H4, ← H3]; rfl, by rw [← H5, ← H4, ← H3]; rfl, by rw [← H5, ← H4, ← H3]; rfl, by rw [← H5, ← H4]; simp [World.setCell]; omega, fun q hq hn => all q hq (fun e => hn (.inl e)) (fun e => hn (.inr e))⟩
  have S5 : Sr w w5 [(bb, twoS B)] B k D lab := h2.sr.other ch5 (fun q _ hq => by rcases hq with e | e; rw [e]; exact h.gr; rw [e]; exact h.gm) (fun q _ hq => by rcases hq with e | e <;> rw [e] <;> exact ⟨by omega, fun j hj => ⟨by omega, by omega, by omega⟩⟩)
  have lk : ∀ j, j < k → updR D k ⟨g, a', c', 0, w2.heap.size, 0⟩ j = D j := fun j hj => updR_other (by omega)
  have R5 : Rdr w5 g w.heap.size a' (B k).n c' (B k).l 0 := by
    have h1 := R2.ch ch5 (fun e => e.elim gneb.1 gneb.2) (fun q hq e => by have := (R2.own.ge q hq).1; omega)
    exact ⟨h1.blk, h1.own.base (Nat.le_trans h.sr.bel.size Bb.size), h1.ne, h1.le, h1.sz⟩
  have glt := R2.lt
  rw [H3, H4, H5]
  refine ⟨⟨fz h2.hr k, ⟨_, twoP_cell h2.hr hk⟩⟩, twoS_cell (by rw [e3 bb hbr]; exact h2.bb.1) hk, ⟨fz m4 k, ⟨_, twoP_cell m4 hk⟩⟩, sz3, ?_, ?_, fun q hq h1 h2 => by rw [all q (by omega) h1 h2]; exact B2.block q hq⟩
  · refine ⟨⟨S5.bel, fun j hj => ?_, fun j hj => ?_, fun q o ho => ?_, fun j hj => ?_, fun j hj => ?_, fun j hj p hp => ?_, fun j hj => ?_⟩, by rw [e5 br hrm, e4 br (by omega)]; exact r3, m5, by rw [labK_old ltr]; exact l1, by rw [labK_old ltm]; exact l2, h.gr, h.gm, fun j hj => ?_, fun j hj => ?_, fun j hj => ?_⟩
    · by_cases e : j = k
      · subst e; rw [updR_same]; exact R5
      · rw [updR_other e]; exact S5.rd j (by omega)
    · by_cases e : j = k
      · subst e; rw [updR_same]; exact ⟨by rw [e5 _ (by show w2.heap.size ≠ bm; omega)]; exact n4, Nat.zero_le _⟩
      · rw [updR_other e]; exact S5.rf j (by omega)
    · have h1 := S5.fx q o ho
      refine ⟨h1.1, ?_⟩
      have : q = bb := by simp at ho; exact ho.1
      rw [this, labK_old ltb]; exact l0
    · by_cases e : j = k
      · subst e; rw [updR_same]; have h1 := h.sr.bel.size; have h3 := Bb.size; exact ⟨by show _ ≤ g; omega, by show _ ≤ w2.heap.size; omega⟩
      · rw [updR_other e]; exact S5.ge j (by omega)
    · by_cases e : j = k
      · subst e; rw [updR_same]; show labK _ _ _ _ _ _ g = _; unfold labK; rw [if_pos (by have := Bb.size; omega), if_pos rfl]
      · rw [updR_other e, labK_old (h.sr.rd j (by omega)).lt]; exact h.sr.lg j (by omega)
    · by_cases e : j = k
      · subst e
        rw [updR_same] at hp
        have h1 := (R2.own.ge p hp).1
        have h3 := Bb.size
        unfold labK
        rw [if_pos (by omega), if_neg (fun e2 => R2.ne (by rw [← e2]; exact hp)), if_pos hp]
      · rw [updR_other e] at hp
        rw [labK_old ((h.sr.rd j (by omega)).own.ge p hp).2]; exact h.sr.la j (by omega) p hp
    · by_cases e : j = k
      · subst e; rw [updR_same]; show labK _ _ _ _ _ _ w2.heap.size = _; unfold labK; rw [if_pos (by omega), if_neg (by omega), if_neg (fun e2 => by have := (R2.own.ge _ e2).2; omega), if_pos rfl]
      · rw [updR_other e, labK_old (h.sr.ltm (by omega))]; exact h.sr.lm j (by omega)
    · by_cases e : j = k
      · subst e; rw [updR_same]; exact if_pos rfl
      · rw [updR_other e]; exact (if_neg e).trans (h.pr j (by omega))
    · by_cases e : j = k
      · subst e; rw [updR_same]; exact if_pos rfl
      · rw [updR_other e]; exact (if_neg e).trans (h.pm j (by omega))
    · by_cases e : j = k
      · subst e; rw [updR_same]; exact ⟨rfl, rfl⟩
      · rw [updR_other e]; exact h.p0 j (by omega)
  · unfold labK
    rw [if_pos (Nat.le_refl _), if_neg (by omega), if_neg (fun e => by have := (R2.own.ge _ e).1; omega), if_neg (by omega)]
end Go.Proofs.YtnhnpkedkdefnaaDoor
