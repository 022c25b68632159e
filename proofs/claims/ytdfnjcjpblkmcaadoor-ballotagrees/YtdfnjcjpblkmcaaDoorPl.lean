/- ask: the state of its loop. -/
import Derived.Test.YtdfnjcjpblkmcaaDoorPk
namespace Go.Proofs.YtdfnjcjpblkmcaaDoor
open Go.ChangeShapes Go.WideShapes Go.ChangeAt Go.RowKit
set_option maxRecDepth 20000
set_option linter.unusedVariables false
set_option linter.unusedSimpArgs false
structure Ask (w wr : World) (H abk ao n hf g4 g11 gs : Nat) (G : Nat → Nat) (VS : Nat → Prop) (Ps : List (Bal × List Cm)) (rr qq : Int) (bx : Array Value) (V : Nat → Bal → Bool) (L : List Ct) (S : Nat → As) (f : Nat → Bool) (nb : Bal) (la : Option Addr) (lm lc : Nat) (lv : List Cm) : Prop where
  gh : Gh n hf S V Ps L
  sys : Sys wr H abk ao n G S (fun q => VS q ∨ q = gs ∨ q = g11)
  ch : Ch w wr (fun q => ∃ i, i < n ∧ q = G i)
  sn : wr.heap[gs]? = some (.cells (sn n f) 4 (0, 0))
  k11 : wr.heap[g11]? = some (.cells #[.int .i64 nb.1, .int .i64 nb.2] 34 (0, 0))
  bx : wr.heap[g4]? = some (.cells bx 66 (0, 0))
  at_ : ∃ cs fr, wr.heap[abk]? = some (.cells cs 25 fr)
  ug : ∀ i, i < n → ∃ cs fr, wr.heap[G i]? = some (.cells cs 84 fr)
  lg : ∃ X, led X = lv ∧ Lg wr la lm lc X
  nw : (nb = (0, 0) ∧ lv = []) ∨ (nb, lv) ∈ Ps
  lo : nb = (0, 0) ∨ ¬ ab nb (rr, qq)
  pr : ∀ i, i < n → f i = true → prB (S i) = (rr, qq) ∧ ¬ ab (acB (S i)) nb ∧ lgl rr qq = true
  vl : ∀ q, VS q → q < w.heap.size
  lw : w.heap.size ≤ gs ∧ w.heap.size ≤ g11 ∧ g11 ≠ g4
section
variable {w wr V' : World} {H abk ao n hf g4 g11 gs : Nat} {G : Nat → Nat} {VS : Nat → Prop} {Ps : List (Bal × List Cm)} {rr qq : Int} {bx : Array Value} {V : Nat → Bal → Bool} {L : List Ct} {S : Nat → As} {f : Nat → Bool} {nb : Bal} {la : Option Addr} {lm lc : Nat} {lv : List Cm}
theorem Ask.below (h : Ask w wr H abk ao n hf g4 g11 gs G VS Ps rr qq bx V L S f nb la lm lc lv) (hb : Below wr.heap.size wr V') : Ask w V' H abk ao n hf g4 g11 gs G VS Ps rr qq bx V L S f nb la lm lc lv := by
  have k : ∀ {q : Nat} {o : Obj}, wr.heap[q]? = some o → V'.heap[q]? = some o := fun {q o} e => (hb.block q (Array.getElem?_eq_some_iff.1 e).1).trans e
  obtain ⟨cs, fr, e⟩ := h.at_
  obtain ⟨X, e1, e2⟩ := h.lg
  exact ⟨h.gh, h.sys.below hb, h.ch.trans (Ch.below hb), k h.sn, k h.k11, k h.bx, ⟨cs, fr, k e⟩, (fun i hi => by obtain ⟨cs, fr, e⟩ := h.ug i hi; exact ⟨cs, fr, k e⟩), ⟨X, e1, e2.below hb⟩, h.nw, h.lo, h.pr, h.vl, h.lw⟩
theorem Ask.vlt (h : Ask w wr H abk ao n hf g4 g11 gs G VS Ps rr qq bx V L S f nb la lm lc lv) : ∀ q, (VS q ∨ q = gs ∨ q = g11) → q < wr.heap.size := by
  rintro q (e | e | e)
  · exact Nat.lt_of_lt_of_le (h.vl q e) h.ch.size
  · rw [e]; exact (Array.getElem?_eq_some_iff.1 h.sn).1
  · rw [e]; exact (Array.getElem?_eq_some_iff.1 h.k11).1
theorem acB_prS (s : As) (r q : Int) : acB (prS s r q) = acB s ∧ (prS s r q).L = s.L := by
  unfold prS
  split <;> exact ⟨rfl, rfl⟩
/- Prepare was asked -/
theorem Ask.prep (h : Ask w wr H abk ao n hf g4 g11 gs G VS Ps rr qq bx V L S f nb la lm lc lv) {i : Nat} (hi : i < n) {a : Option Addr} {m c : Nat} {X : List Cx} {p : Nat} {a' : Option Addr} {m' c' : Nat} (h0 : Acc wr 84 H (G i) (S i) a m c X) (h1 : ∀ q, fpc a m X q → ¬ (VS q ∨ q = gs ∨ q = g11)) (hE : E10 wr V' H (G i) (S i) rr qq a m c X p a' m' c') : Ask w V' H abk ao n hf g4 g11 gs G VS Ps rr qq bx V L (upB S i (prS (S i) rr qq)) f nb la lm lc lv := by
  have hc := hE.ch
  have sy := h.sys.one hi h0 h1 hE.acc (fun q hq => .inl hq) hc h.vlt
  obtain ⟨cs, fr, e⟩ := h.at_
  obtain ⟨X0, e1, e2⟩ := h.lg
  have gh : Gh n hf (upB S i (prS (S i) rr qq)) V Ps L := by
    by_cases hk : prk (S i) rr qq = 0
    · exact h.gh.promise hk
    · have e3 : upB S i (prS (S i) rr qq) = S := by
        funext j
        by_cases e : j = i
        · subst e; rw [upB_same, prS_no hk]
        · rw [upB_ne _ _ e]
      rw [e3]
      exact h.gh
  refine ⟨gh, sy, h.ch.then hc (fun q _ e => e) (fun q _ e => ⟨i, hi, e⟩), chT hc h0.blk h.sn (by decide), chT hc h0.blk h.k11 (by decide), chT hc h0.blk h.bx (by decide), ⟨cs, fr, chT hc h0.blk e (by decide)⟩, fun j hj => ?_, ⟨X0, e1, e2.keep (K81.one hc h0.blk (by decide))⟩, h.nw, h.lo, fun j hj hfj => ?_, h.vl, h.lw⟩
  · by_cases e : j = i
    · subst e; exact ⟨_, _, hE.acc.blk⟩
    · obtain ⟨cs, fr, e2⟩ := h.ug j hj
      exact ⟨cs, fr, (hc.block _ (Array.getElem?_eq_some_iff.1 e2).1 (fun e3 => e (h.sys.inj j i hj hi e3))).trans e2⟩
  · obtain ⟨p1, p2, p3⟩ := h.pr j hj hfj
    by_cases e : j = i
    · subst e
      rw [upB_same, (acB_prS (S j) rr qq).1]
      refine ⟨?_, p2, p3⟩
      by_cases hk : prk (S j) rr qq = 0
      · rw [prS_ok hk]; rfl
      · rw [prS_no hk]; exact p1
    · rw [upB_ne _ _ e]
      exact ⟨p1, p2, p3⟩
/- a promise that is counted -/
theorem Ask.mark (h : Ask w wr H abk ao n hf g4 g11 gs G VS Ps rr qq bx V L S f nb la lm lc lv) {i : Nat} (hi : i < n) (hp : prB (S i) = (rr, qq)) (hl : lgl rr qq = true) {W : World} {nb' : Bal} {la' : Option Addr} {lm' lc' : Nat} {lv' : List Cm}
    (hc : Ch wr W (fun q => q = gs ∨ q = g11)) (k1 : W.heap[gs]? = some (.cells (Go.Proofs.YtdfnjcjpblkmcaaDoor.sn n (upB f i true)) 4 (0, 0))) (k2 : W.heap[g11]? = some (.cells #[.int .i64 nb'.1, .int .i64 nb'.2] 34 (0, 0))) (hlg : ∃ X, led X = lv' ∧ Lg wr la' lm' lc' X)
    (hnb : (nb' = nb ∧ lv' = lv ∧ ¬ ab (acB (S i)) nb) ∨ (nb' = acB (S i) ∧ lv' = (S i).L ∧ ab (acB (S i)) nb)) : Ask w W H abk ao n hf g4 g11 gs G VS Ps rr qq bx V L S (upB f i true) nb' la' lm' lc' lv' := by
  have off : ∀ {q : Nat} {cs : Array Value} {t : TypeId} {fr : Nat × Nat}, wr.heap[q]? = some (.cells cs t fr) → t ≠ 4 → t ≠ 34 → ¬ (q = gs ∨ q = g11) := fun {q cs t fr} hq a1 a2 e => by
    rcases e with e | e
    · rw [e, h.sn] at hq
      simp only [Option.some.injEq, Obj.cells.injEq] at hq
      exact a1 hq.2.1.symm
    · rw [e, h.k11] at hq
      simp only [Option.some.injEq, Obj.cells.injEq] at hq
      exact a2 hq.2.1.symm
  have same : ∀ {q : Nat} {cs : Array Value} {t : TypeId} {fr : Nat × Nat}, wr.heap[q]? = some (.cells cs t fr) → t ≠ 4 → t ≠ 34 → W.heap[q]? = some (.cells cs t fr) := fun {q cs t fr} hq a1 a2 => (hc.block q (Array.getElem?_eq_some_iff.1 hq).1 (off hq a1 a2)).trans hq
  obtain ⟨cs, fr, e⟩ := h.at_
  obtain ⟨X0, e1, e2⟩ := hlg
  have a1 : ¬ ab (acB (S i)) (rr, qq) := by
    have this : ¬ ab (acB (S i)) (prB (S i)) := h.gh.inv.a1 i hi
    rw [hp] at this
    exact this
  refine ⟨h.gh, ?_, h.ch.then hc (fun q _ e => e) (fun q hq e => ?_), k1, k2, same h.bx (by decide) (by decide), ⟨cs, fr, same e (by decide) (by decide)⟩, (fun j hj => by obtain ⟨cs, fr, e⟩ := h.ug j hj; exact ⟨cs, fr, same e (by decide) (by decide)⟩), ⟨X0, e1, e2.keep (K81.ch hc (fun q cs fr hq => off hq (by decide) (by decide)))⟩, ?_, ?_, fun j hj hfj => ?_, h.vl, h.lw⟩
  · refine h.sys.ch hc (fun q _ e => .inr e) (off e (by decide) (by decide)) (fun j hj => ?_) (fun q e => .inl e)
    obtain ⟨cs, fr, e⟩ := h.ug j hj
    exact off e (by decide) (by decide)
  · have := h.lw
    rcases e with e | e <;> omega
  · rcases hnb with ⟨r1, r2, _⟩ | ⟨r1, r2, _⟩
    · rw [r1, r2]; exact h.nw
    · rw [r1, r2]
      exact h.gh.inv.a3 i hi
  · rcases hnb with ⟨r1, _⟩ | ⟨r1, _⟩
    · rw [r1]; exact h.lo
    · rw [r1]; exact .inr a1
  · by_cases e : j = i
    · subst e
      refine ⟨hp, ?_, hl⟩
      rcases hnb with ⟨r1, _, r3⟩ | ⟨r1, _, r3⟩
      · rw [r1]; exact r3
      · rw [r1]; exact ab_irr _
    · rw [upB_ne _ _ e] at hfj
      obtain ⟨p1, p2, p3⟩ := h.pr j hj hfj
      refine ⟨p1, ?_, p3⟩
      rcases hnb with ⟨r1, _, r3⟩ | ⟨r1, _, r3⟩
      · rw [r1]; exact p2
      · rw [r1]; exact nab_trans p2 (ab_asym r3)
/- more than half promised: the proposal -/
theorem Ask.propose (h : Ask w wr H abk ao n hf g4 g11 gs G VS Ps rr qq bx V L S f nb la lm lc lv) (hh : 0 < hf) (hc : hf ≤ cnt n f) (hf' : ∀ u, ((rr, qq), u) ∉ Ps) {v : List Cm} (hv : lv <+: v) : Gh n hf S V (((rr, qq), v) :: Ps) L := by
  obtain ⟨i, hi, hfi⟩ := cnt_pos (n := n) (P := f) (by omega)
  have hl := (h.pr i hi hfi).2.2
  have q3 : ab (rr, qq) nb := by
    rcases h.lo with e | e
    · rw [e]; exact leg_zero (lgl_leg hl)
    · rcases ab_tri e with e2 | e2
      · rcases h.nw with ⟨e3, _⟩ | e3
        · rw [e3]; exact leg_zero (lgl_leg hl)
        · rw [e2] at e3; exact absurd e3 (hf' _)
      · exact e2
  refine ⟨h.gh.inv.propose (Q := f) (c := nb) (lgl_leg hl) hf' hc (fun j hj hq => ?_) q3 ?_ (fun j hj hq => (h.pr j hj hq).2.1), fun t ht => ⟨List.mem_cons_of_mem _ (h.gh.ct t ht).1, (h.gh.ct t ht).2⟩⟩
  · show ¬ ab (rr, qq) (prB (S j))
    rw [(h.pr j hj hq).1]
    exact ab_irr _
  · rcases h.nw with ⟨e, _⟩ | e
    · exact .inl e
    · exact .inr ⟨lv, e, hv⟩
end
end Go.Proofs.YtdfnjcjpblkmcaaDoor
