/- NetOrders: what the law keeps. -/
import Derived.Test.YtkjebbpmafhpgaaDoorNi
namespace Go.Proofs.YtkjebbpmafhpgaaDoor
open Go.ChangeShapes Go.WideShapes Go.ChangeAt Go.RowKit
set_option maxRecDepth 20000
set_option linter.unusedVariables false
set_option linter.unusedSimpArgs false
theorem app_int {w : World} {B lo : Nat} {v : Value} {m : Nat} {l0 : List Int} {a : Option Addr} {n c : Nat} {l : List Int} (own : w.ownsRow B 3 1 v m (l0.map iv)) (h : Irow w lo a n l) (hz : a = none → c = 0) (hb : (m + n) * 8 ≤ 140737488355328) (hB : B ≤ w.heap.size) :
    ∃ a' c' w', (Builtin.append_ #[53, 53] 53 #[v, .slice a n c]).run Tryd.prog w = .ok (.slice a' (m + n) c') w' ∧ w'.ownsRow B 3 1 (.slice a' (m + n) c') (m + n) ((l0 ++ l).map iv) ∧ w.grownBy w' v.ownBlock := by
  obtain ⟨i, hi, hz0, hz1, hz2⟩ := info_parts info3
  rcases ha : a with _ | ad
  · have hn : n = 0 := by
      rcases h.row with h0 | ⟨b, off, h1, _⟩
      · exact h0
      · rw [ha] at h1; cases h1
    have c0 := hz ha
    have hl : l = [] := List.length_eq_zero_iff.1 (by have := h.len; omega)
    subst hn c0 hl
    have hr := run_append_owned_none (P := Tryd.prog) w B 53 53 3 i 1 Tryd.underlying53 hi v m _ own
    obtain ⟨a', c', rfl⟩ := rown_slice own
    refine ⟨a', c', w, by simpa using hr, by simpa using own, World.grownBy.refl _ _⟩
  · have hc : ∀ j u, (l.map iv)[j]? = some u → w.cell? (ad.add j) = some u := by
      intro j u hu
      have hj : j < l.length := by simpa using (List.getElem?_eq_some_iff.1 hu).1
      rcases h.row with h0 | ⟨b, off, h1, _, _, h4⟩
      · have := h.len; omega
      · rw [ha] at h1
        cases h1
        rw [Addr.add_mid, h4 j (by have := h.len; omega), ← hu]
        simp [iv, List.getD, hj]
    obtain ⟨v', w', hrun, hown, hgr, _⟩ := run_append_own (P := Tryd.prog) w B 53 53 3 i (.int .i64 0) 1 8 Tryd.underlying53 hi hz0 hz1 hz2 rfl (by decide) v m (l0.map iv) own ad n c (l.map iv) (by simp; exact h.len.symm) hc (iv_one _) (by unfold maxLen; omega) hb hB
    obtain ⟨a', c', rfl⟩ := rown_slice hown
    exact ⟨a', c', w', hrun, by rw [List.map_append]; exact hown, hgr⟩
/- the letters' numbers, as a row of the call's own -/
structure NO (w0 w : World) (d : Nat) (a : Option Addr) (X : List Lt) (g : Int) (b : Option Addr) (n c : Nat) : Prop where
  nt : Nt w w0.heap.size d a X g
  row : w.ownsRow w0.heap.size 3 1 (.slice b n c) n ((X.map Lt.no).map iv)
  bel : Below w0.heap.size w0 w
section
variable {w0 w w' : World} {d n c : Nat} {a a' b : Option Addr} {X X' : List Lt} {g g' : Int}
theorem NO.len (h : NO w0 w d a X g b n c) : n = X.length := by
  have := h.row.1
  simp at this
  exact this.symm
theorem NO.off (h : NO w0 w d a X g b n c) {q : Nat} (e : blkOf b = some q) : q < w.heap.size ∧ ¬ (q = d ∨ blkOf a = some q) := by
  have hq := h.row.lt q (by rw [ownBlock_slice]; exact e)
  have ht : ∃ cur, w.heap[q]? = some (.cells cur 3 (0, 0)) := by
    rcases h.row.2 with ⟨h1, _⟩ | ⟨g, cap, cur, h1, _, h3, _⟩
    · cases h1; cases e
    · cases h1; cases e; exact ⟨cur, h3⟩
  obtain ⟨cur, ht⟩ := ht
  refine ⟨hq.2, fun hh => ?_⟩
  obtain ⟨k, c', h1, h2⟩ := h.nt.st
  rcases hh with rfl | hh
  · rw [h1] at ht; cases ht
  · obtain ⟨cur2, h3, _⟩ := h2.blk hh
    rw [h3] at ht; cases ht
theorem NO.below (h : NO w0 w d a X g b n c) (hb : Below w.heap.size w w') : NO w0 w' d a X g b n c :=
  ⟨h.nt.below hb, rown_bel h.row (fun q e => hb.block q (by rw [ownBlock_slice] at e; exact (h.off e).1)), h.bel.trans (hb.mono h.bel.size)⟩
/- what a call on the network leaves -/
theorem NO.nf (h : NO w0 w d a X g b n c) (hn : Nt w' w0.heap.size d a' X' g') (hf : NF w w' d a a') : w'.ownsRow w0.heap.size 3 1 (.slice b n c) n ((X.map Lt.no).map iv) ∧ Below w0.heap.size w0 w' :=
  ⟨rown_bel h.row (fun q e => by rw [ownBlock_slice] at e; exact hf.ch.block q (h.off e).1 (h.off e).2), h.bel.trans (hf.ch.toBelow h.bel.size (fun q hq hs => by
    rcases hs with hs | hs
    · have := h.nt.dl; omega
    · have := (h.nt.alt hs).1; omega))⟩
end
theorem irow_take {w : World} {lo n p : Nat} {a : Option Addr} {l : List Int} (h : Irow w lo a n l) (hp : p ≤ n) : Irow w lo a p (l.take p) := by
  have hl := h.len
  refine ⟨by rw [List.length_take, Nat.min_eq_left (by omega)], Nat.le_trans hp h.sz, ?_⟩
  by_cases h0 : p = 0
  · exact .inl h0
  · rcases h.row with h1 | ⟨b, off, h1, h2, h3, h4⟩
    · omega
    · exact .inr ⟨b, off, h1, h2, h3, fun i hi => by rw [h4 i (by omega)]; simp [List.getD, List.getElem?_take, hi]⟩
theorem irow_drop {w : World} {lo n p b : Nat} {l : List Int} (h : Irow w lo (some ⟨b, 0, none⟩) n l) (hp : p ≤ n) : Irow w lo (some ⟨b, p, none⟩) (n - p) (l.drop p) := by
  have hl := h.len
  refine ⟨by rw [List.length_drop, hl], Nat.le_trans (Nat.sub_le _ _) h.sz, ?_⟩
  by_cases h0 : n - p = 0
  · exact .inl h0
  · rcases h.row with h1 | ⟨b', off, h1, h2, h3, h4⟩
    · omega
    · cases h1
      refine .inr ⟨b, p, rfl, h2, h3, fun i hi => ?_⟩
      have := h4 (p + i) (by omega)
      rw [Nat.zero_add] at this
      rw [this]
      simp [List.getD, List.getElem?_drop]
theorem irow_nil (w : World) (lo : Nat) (a : Option Addr) : Irow w lo a 0 [] := ⟨rfl, by omega, .inl rfl⟩
theorem irow_blk {w : World} {q n : Nat} {l : List Int} (h : w.heap[q]? = some (.cells (l.map iv).toArray 3 (0, 0))) (hn : n = l.length) (hz : n ≤ 4096) : Irow w 0 (some ⟨q, 0, none⟩) n l := by
  refine ⟨hn, by omega, ?_⟩
  by_cases h0 : n = 0
  · exact .inl h0
  · refine .inr ⟨q, 0, rfl, Nat.zero_le _, (Array.getElem?_eq_some_iff.1 h).1, fun i hi => ?_⟩
    have hi2 : i < l.length := by omega
    rw [Nat.zero_add]
    simp [World.cell?, h, iv, List.getD, hi2]
end Go.Proofs.YtkjebbpmafhpgaaDoor
