/- take: a round's accepting. -/
import Derived.Test.YtdfnjcjpblkmcaaDoorPg
namespace Go.Proofs.YtdfnjcjpblkmcaaDoor
open Go.ChangeShapes Go.WideShapes Go.ChangeAt Go.RowKit
set_option maxRecDepth 20000
set_option linter.unusedVariables false
set_option linter.unusedSimpArgs false
theorem Ag.off {w : World} {B gg : Nat} {ba la ca : Option Addr} {bc lc cc N : Nat} {L : List Ct} (h : Ag w B gg ba la ca bc lc cc N L) {q : Nat} {cs : Array Value} {t : TypeId} {fr : Nat × Nat} (hq : w.heap[q]? = some (.cells cs t fr)) (h1 : t ≠ 63) (h2 : t ≠ 34) (h3 : t ≠ 35) (h4 : t ≠ 3) : ¬ (q = gg ∨ rws ba la ca q) := by
  rintro (e | e | e | e)
  · rw [e, h.k] at hq
    cases hq
    exact h1 rfl
  · exact h2 (own_blk_ty h.ob hq e)
  · exact h3 (own_blk_ty h.ol hq e)
  · exact h4 (own_blk_ty h.oc hq e)
theorem chT {w w' : World} {g : Nat} {cs cs' : Array Value} {t t' : TypeId} {fr fr' : Nat × Nat} {q : Nat} (hc : Ch w w' (fun q => q = g)) (hg : w.heap[g]? = some (.cells cs t fr)) (hq : w.heap[q]? = some (.cells cs' t' fr')) (ht : t' ≠ t) : w'.heap[q]? = some (.cells cs' t' fr') :=
  (hc.block q (Array.getElem?_eq_some_iff.1 hq).1 (fun e => by rw [e, hg] at hq; cases hq; exact ht rfl)).trans hq
theorem Ag.chT {w w' : World} {B gg g : Nat} {ba la ca : Option Addr} {bc lc cc N : Nat} {L : List Ct} (h : Ag w B gg ba la ca bc lc cc N L) {cs : Array Value} {t : TypeId} {fr : Nat × Nat} (hc : Ch w w' (fun q => q = g)) (hg : w.heap[g]? = some (.cells cs t fr)) (h1 : t ≠ 63) (h2 : t ≠ 34) (h3 : t ≠ 35) (h4 : t ≠ 3) : Ag w' B gg ba la ca bc lc cc N L := by
  have ho := h.off hg h1 h2 h3 h4
  have k : ∀ q, q < w.heap.size → (q = gg ∨ rws ba la ca q) → w'.heap[q]? = w.heap[q]? := fun q hq e => hc.block q hq (fun e2 => ho (e2 ▸ e))
  refine ⟨(k gg (Array.getElem?_eq_some_iff.1 h.k).1 (.inl rfl)).trans h.k, rown_bel h.ob (fun q e => k q (h.ob.lt q e).2 (.inr (.inl (by rw [← ownBlock_slice ba N bc]; exact e)))), rown_bel h.ol (fun q e => k q (h.ol.lt q e).2 (.inr (.inr (.inl (by rw [← ownBlock_slice la N lc]; exact e))))), rown_bel h.oc (fun q e => k q (h.oc.lt q e).2 (.inr (.inr (.inr (by rw [← ownBlock_slice ca N cc]; exact e)))))⟩
theorem K81.one {w w' : World} {g : Nat} {cs : Array Value} {t : TypeId} {fr : Nat × Nat} (hc : Ch w w' (fun q => q = g)) (hg : w.heap[g]? = some (.cells cs t fr)) (ht : t ≠ 81) : K81 w w' := K81.ch hc (fun q cs' fr' h e => by rw [e, hg] at h; cases h; exact ht rfl)
/- the state of take's loop -/
structure Tk (w wr : World) (B H gg g6 gs ab ao n hf : Nat) (G : Nat → Nat) (U R : Nat → Prop) (Ps : List (Bal × List Cm)) (b : Bal) (l0 : Nat) (bx : Array Value) (S : Nat → As) (V : Nat → Bal → Bool) (L : List Ct) (f : Nat → Bool) (ba la ca : Option Addr) (bc lc cc N : Nat) : Prop where
  gh : Gh n hf S V Ps L
  sys : Sys wr H ab ao n G S (fun q => q = gg ∨ rws ba la ca q ∨ U q ∨ q = gs)
  ag : Ag wr B gg ba la ca bc lc cc N L
  lg : ∀ t ∈ L, Lg wr t.a t.m t.c t.X
  ch : Ch w wr (fun q => (∃ i, i < n ∧ q = G i) ∨ q = gg ∨ R q)
  nr : ∀ q, rws ba la ca q → R q ∨ w.heap.size ≤ q
  sn : wr.heap[gs]? = some (.cells (sn n f) 4 (0, 0))
  un : ∀ j, j < n → f j = false → V j b = false
  bx : wr.heap[g6]? = some (.cells bx 68 (0, 0))
  at_ : ∃ cs fr, wr.heap[ab]? = some (.cells cs 25 fr)
  ln : L.length ≤ l0 ∨ (L.length ≤ l0 + 1 ∧ ∃ t ∈ L, t.b = b)
  ul : ∀ q, U q → q < w.heap.size
  ug : ∀ i, i < n → ∃ cs fr, wr.heap[G i]? = some (.cells cs 84 fr)
section
variable {w wr w' : World} {B H gg g6 gs ab ao n hf : Nat} {G : Nat → Nat} {U R : Nat → Prop} {Ps : List (Bal × List Cm)} {b : Bal} {l0 : Nat} {bx : Array Value} {S : Nat → As} {V : Nat → Bal → Bool} {L : List Ct} {f : Nat → Bool} {ba la ca : Option Addr} {bc lc cc N : Nat}
theorem Tk.below (h : Tk w wr B H gg g6 gs ab ao n hf G U R Ps b l0 bx S V L f ba la ca bc lc cc N) (hb : Below wr.heap.size wr w') : Tk w w' B H gg g6 gs ab ao n hf G U R Ps b l0 bx S V L f ba la ca bc lc cc N := by
  have k : ∀ {q : Nat} {o : Obj}, wr.heap[q]? = some o → w'.heap[q]? = some o := fun {q o} e => (hb.block q (Array.getElem?_eq_some_iff.1 e).1).trans e
  obtain ⟨cs, fr, e⟩ := h.at_
  exact ⟨h.gh, h.sys.below hb, h.ag.below hb, fun t ht => (h.lg t ht).below hb, h.ch.trans (Ch.below hb), h.nr, k h.sn, h.un, k h.bx, ⟨cs, fr, k e⟩, h.ln, h.ul, fun i hi => by obtain ⟨cs, fr, e⟩ := h.ug i hi; exact ⟨cs, fr, k e⟩⟩
theorem Tk.vlt (h : Tk w wr B H gg g6 gs ab ao n hf G U R Ps b l0 bx S V L f ba la ca bc lc cc N) : ∀ q, (q = gg ∨ rws ba la ca q ∨ U q ∨ q = gs) → q < wr.heap.size := by
  rintro q (e | (e | e | e) | e | e)
  · rw [e]; exact (Array.getElem?_eq_some_iff.1 h.ag.k).1
  · exact (h.ag.ob.lt q (by rw [ownBlock_slice]; exact e)).2
  · exact (h.ag.ol.lt q (by rw [ownBlock_slice]; exact e)).2
  · exact (h.ag.oc.lt q (by rw [ownBlock_slice]; exact e)).2
  · exact Nat.lt_of_lt_of_le (h.ul q e) h.ch.size
  · rw [e]; exact (Array.getElem?_eq_some_iff.1 h.sn).1
/- an acceptor refuses -/
theorem Tk.refused (h : Tk w wr B H gg g6 gs ab ao n hf G U R Ps b l0 bx S V L f ba la ca bc lc cc N) {i : Nat} (hi : i < n) {r q : Int} {l : List Cm} (hk : prk (S i) r q ≠ 0) {a m c : _} {X : List Cx} (h0 : Acc wr 84 H (G i) (S i) a m c X) (h1 : ∀ q, fpc a m X q → ¬ (q = gg ∨ rws ba la ca q ∨ U q ∨ q = gs)) {a' : Option Addr} {m' c' : Nat} {X' : List Cx} (hA : Acc w' 84 H (G i) (acS (S i) r q l) a' m' c' X') (hf' : ∀ q, fpc a' m' X' q → fpc a m X q ∨ wr.heap.size ≤ q) (hc : Ch wr w' (fun q => q = G i)) : Tk w w' B H gg g6 gs ab ao n hf G U R Ps b l0 bx S V L f ba la ca bc lc cc N := by
  have e0 : acS (S i) r q l = S i := by unfold acS; rw [if_neg hk]
  have sy := h.sys.one hi h0 h1 hA hf' hc h.vlt
  have e1 : upB S i (acS (S i) r q l) = S := by
    funext j
    by_cases e : j = i
    · subst e; rw [upB_same, e0]
    · rw [upB_ne _ _ e]
  rw [e1] at sy
  obtain ⟨cs, fr, e⟩ := h.at_
  refine ⟨h.gh, sy, h.ag.chT hc h0.blk (by decide) (by decide) (by decide) (by decide), fun t ht => (h.lg t ht).keep (K81.one hc h0.blk (by decide)), h.ch.then hc (fun q _ e => e) (fun q _ e => .inl ⟨i, hi, e⟩), h.nr, chT hc h0.blk h.sn (by decide), h.un, chT hc h0.blk h.bx (by decide), ⟨cs, fr, chT hc h0.blk e (by decide)⟩, h.ln, h.ul, fun j hj => ?_⟩
  by_cases e : j = i
  · subst e; exact ⟨_, _, hA.blk⟩
  · obtain ⟨cs, fr, e2⟩ := h.ug j hj
    exact ⟨cs, fr, (hc.block _ (Array.getElem?_eq_some_iff.1 e2).1 (fun e3 => e (h.sys.inj j i hj hi e3))).trans e2⟩
end
end Go.Proofs.YtdfnjcjpblkmcaaDoor
