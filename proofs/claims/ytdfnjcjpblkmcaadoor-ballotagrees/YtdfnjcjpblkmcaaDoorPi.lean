/- take: the vote, and take itself. -/
import Derived.Test.YtdfnjcjpblkmcaaDoorPh
namespace Go.Proofs.YtdfnjcjpblkmcaaDoor
open Go.ChangeShapes Go.WideShapes Go.ChangeAt Go.RowKit
set_option maxRecDepth 20000
set_option linter.unusedVariables false
set_option linter.unusedSimpArgs false
/- an acceptor took it, it is seen, and not counted yet -/
structure Tv (w wr : World) (B H gg g6 gs ab ao n hf : Nat) (G : Nat → Nat) (U R : Nat → Prop) (Ps : List (Bal × List Cm)) (b : Bal) (l0 : Nat) (bx : Array Value) (S : Nat → As) (V : Nat → Bal → Bool) (L L2 : List Ct) (f : Nat → Bool) (ba la ca : Option Addr) (bc lc cc N : Nat) : Prop where
  gh : Gh n hf S V Ps L2
  sys : Sys wr H ab ao n G S (fun q => q = gg ∨ rws ba la ca q ∨ U q ∨ q = gs)
  ag : Ag wr B gg ba la ca bc lc cc N L
  lg : ∀ t ∈ L, Lg wr t.a t.m t.c t.X
  ch : Ch w wr (fun q => (∃ i, i < n ∧ q = G i) ∨ q = gg ∨ R q)
  nr : ∀ q, rws ba la ca q → R q ∨ w.heap.size ≤ q
  sn : wr.heap[gs]? = some (.cells (sn n f) 4 (0, 0))
  un : ∀ j, j < n → f j = false → V j b = false
  bx : wr.heap[g6]? = some (.cells bx 68 (0, 0))
  at_ : ∃ cs fr, wr.heap[ab]? = some (.cells cs 25 fr)
  ul : ∀ q, U q → q < w.heap.size
  ug : ∀ i, i < n → ∃ cs fr, wr.heap[G i]? = some (.cells cs 84 fr)
section
variable {w wr w' w5 : World} {B H gg g6 gs ab ao n hf : Nat} {G : Nat → Nat} {U R : Nat → Prop} {Ps : List (Bal × List Cm)} {b : Bal} {l0 : Nat} {bx : Array Value} {S : Nat → As} {V : Nat → Bal → Bool} {L L2 : List Ct} {f : Nat → Bool} {ba la ca : Option Addr} {bc lc cc N : Nat}
theorem Tk.voted {r q : Int} (h : Tk w wr B H gg g6 gs ab ao n hf G U R Ps (r, q) l0 bx S V L f ba la ca bc lc cc N) {i : Nat} (hi : i < n) (hs : f i = false) (hgs : w.heap.size ≤ gs) {al : Option Addr} {ml cl : Nat} {XL : List Cx} (hP : ((r, q), led XL) ∈ Ps) (hk : prk (S i) r q = 0) {a m c : _} {X : List Cx} (h0 : Acc wr 84 H (G i) (S i) a m c X) (h1 : ∀ q, fpc a m X q → ¬ (q = gg ∨ rws ba la ca q ∨ U q ∨ q = gs)) {a' : Option Addr} {m' c' : Nat} {X' : List Cx} (hA : Acc w5 84 H (G i) (acS (S i) r q (led XL)) a' m' c' X') (hf' : ∀ q, fpc a' m' X' q → fpc a m X q ∨ wr.heap.size ≤ q) (hc : Ch wr w5 (fun q => q = G i)) : Tv w (w5.setCell ⟨gs, i, none⟩ (.bool true)) B H gg g6 gs ab ao n hf G U R Ps (r, q) l0 bx (upB S i (acS (S i) r q (led XL))) (upV V i (r, q)) L (bump (r, q) al ml cl XL L) (upB f i true) ba la ca bc lc cc N := by
  have sy := h.sys.one hi h0 h1 hA hf' hc h.vlt
  obtain ⟨cs, fr, e⟩ := h.at_
  have a5 := chT hc h0.blk e (by decide)
  have s5 := chT hc h0.blk h.sn (by decide)
  have b5 := chT hc h0.blk h.bx (by decide)
  have g5 := h.ag.chT hc h0.blk (by decide) (by decide) (by decide) (by decide)
  have u5 : ∀ j, j < n → ∃ cs fr, w5.heap[G j]? = some (.cells cs 84 fr) := fun j hj => by
    by_cases e : j = i
    · subst e; exact ⟨_, _, hA.blk⟩
    · obtain ⟨cs, fr, e2⟩ := h.ug j hj
      exact ⟨cs, fr, (hc.block _ (Array.getElem?_eq_some_iff.1 e2).1 (fun e3 => e (h.sys.inj j i hj hi e3))).trans e2⟩
  have C := Ch.set w5 gs i (.bool true)
  refine ⟨h.gh.vote hi hk (h.un i hi hs) hP, ?_, g5.chT C s5 (by decide) (by decide) (by decide) (by decide), fun t ht => ((h.lg t ht).keep (K81.one hc h0.blk (by decide))).keep (K81.one C s5 (by decide)), (h.ch.then hc (fun q _ e => e) (fun q _ e => .inl ⟨i, hi, e⟩)).then C (fun q _ e => e) (fun q hq e => by have : q = gs := e; omega), h.nr, sn_set s5 hi, fun j hj hfj => ?_, chT C s5 b5 (by decide), ⟨cs, fr, chT C s5 a5 (by decide)⟩, h.ul, fun j hj => ?_⟩
  · refine sy.ch C (fun q _ e => .inr (.inr (.inr e))) (fun e => ?_) (fun j hj e => ?_) (fun q e => .inl e)
    · have e2 : ab = gs := e
      rw [e2, s5] at a5
      cases a5
    · obtain ⟨cs, fr, e2⟩ := u5 j hj
      have e3 : G j = gs := e
      rw [e3, s5] at e2
      cases e2
  · by_cases e : j = i
    · subst e; rw [upB_same] at hfj; cases hfj
    · rw [upB_ne _ _ e] at hfj
      unfold upV
      rw [if_neg (fun h => e h.1)]
      exact h.un j hj hfj
  · obtain ⟨cs, fr, e2⟩ := u5 j hj
    exact ⟨cs, fr, chT C s5 e2 (by decide)⟩
theorem Tv.counted {r q : Int} {al : Option Addr} {ml cl : Nat} {XL : List Cx} (h : Tv w wr B H gg g6 gs ab ao n hf G U R Ps (r, q) l0 bx S V L (bump (r, q) al ml cl XL L) f ba la ca bc lc cc N) (hl : L.length ≤ l0 ∨ (L.length ≤ l0 + 1 ∧ ∃ t ∈ L, t.b = (r, q))) (hL : Lg wr al ml cl XL) (hC : Cnt wr w' B gg ba la ca (bump (r, q) al ml cl XL L)) : ∃ ba1 la1 ca1 bc1 lc1 cc1 N1, Tk w w' B H gg g6 gs ab ao n hf G U R Ps (r, q) l0 bx S V (bump (r, q) al ml cl XL L) f ba1 la1 ca1 bc1 lc1 cc1 N1 := by
  obtain ⟨ba1, la1, ca1, bc1, lc1, cc1, N1, k1, k2, k3⟩ := hC
  obtain ⟨cs, fr, e⟩ := h.at_
  have K : K81 wr w' := K81.ch k2 (fun q cs fr hq => h.ag.off hq (by decide) (by decide) (by decide) (by decide))
  have same : ∀ {q : Nat} {cs : Array Value} {t : TypeId} {fr : Nat × Nat}, wr.heap[q]? = some (.cells cs t fr) → t ≠ 63 → t ≠ 34 → t ≠ 35 → t ≠ 3 → w'.heap[q]? = some (.cells cs t fr) := fun {q cs t fr} hq a1 a2 a3 a4 => (k2.block q (Array.getElem?_eq_some_iff.1 hq).1 (h.ag.off hq a1 a2 a3 a4)).trans hq
  refine ⟨ba1, la1, ca1, bc1, lc1, cc1, N1, h.gh, ?_, k1, fun t ht => ?_, ?_, fun q hq => ?_, same h.sn (by decide) (by decide) (by decide) (by decide), h.un, same h.bx (by decide) (by decide) (by decide) (by decide), ⟨cs, fr, same e (by decide) (by decide) (by decide) (by decide)⟩, ?_, h.ul, fun j hj => ?_⟩
  · refine h.sys.ch k2 (fun q _ e => ?_) (h.ag.off e (by decide) (by decide) (by decide) (by decide)) (fun j hj => ?_) (fun q e => ?_)
    · rcases e with e | e
      · exact .inl e
      · exact .inr (.inl e)
    · obtain ⟨cs, fr, e2⟩ := h.ug j hj
      exact h.ag.off e2 (by decide) (by decide) (by decide) (by decide)
    · rcases e with e | e | e
      · exact .inl (.inl e)
      · exact (k3 q e).imp (fun e => .inr (.inl e)) id
      · exact .inl (.inr (.inr e))
  · rcases bump_mem ht with ⟨u, hu, u1, u2, u3, u4, u5, _⟩ | e2
    · rw [← u2, ← u3, ← u4, ← u5]
      exact (h.lg u hu).keep K
    · subst e2
      exact hL.keep K
  · refine h.ch.then k2 (fun q _ e => e) (fun q hq e => ?_)
    rcases e with e | e
    · exact .inr (.inl e)
    · rcases h.nr q e with e | e
      · exact .inr (.inr e)
      · omega
  · rcases k3 q hq with e | e
    · exact h.nr q e
    · exact .inr (Nat.le_trans h.ch.size e)
  · rcases hl with hl | ⟨hl, hb⟩
    · exact .inr ⟨Nat.le_trans (bump_len _ _ _ _ _ _) (by omega), bump_has _ _ _ _ _ _⟩
    · exact .inr ⟨by rw [bump_same hb]; exact hl, bump_has _ _ _ _ _ _⟩
  · obtain ⟨cs, fr, e2⟩ := h.ug j hj
    exact ⟨cs, fr, same e2 (by decide) (by decide) (by decide) (by decide)⟩
end
end Go.Proofs.YtdfnjcjpblkmcaaDoor
