/- Two writers, what was put into each, and which are spoilt: in memory, by labels of blocks. -/
import Derived.Test.YtnhnpkedkdefnaaDoorZa
namespace Go.Proofs.YtnhnpkedkdefnaaDoor
open Go.ChangeShapes Go.WideShapes Go.ChangeAt Go.RowKit
set_option linter.unusedVariables false
set_option linter.unusedSimpArgs false
/- all blocks but those of S are as they were -/
structure Ch (w w' : World) (S : Nat → Prop) : Prop where
  os : w'.os = w.os
  tape : w'.tape = w.tape
  output : w'.output = w.output
  size : w.heap.size ≤ w'.heap.size
  block : ∀ k, k < w.heap.size → ¬ S k → w'.heap[k]? = w.heap[k]?
theorem Ch.wfr {w w' : World} {g : Nat} {a : Option Addr} (h : Wfr w w' g a) : Ch w w' (fun q => q = g ∨ blkOf a = some q) := ⟨h.os, h.tape, h.output, h.size, fun k hk hn => h.block k hk (fun e => hn (.inl e)) (fun e => hn (.inr e.symm))⟩
theorem Ch.below {w w' : World} (h : Below w.heap.size w w') : Ch w w' (fun _ => False) := ⟨h.os, h.tape, h.output, h.size, fun k hk _ => h.block k hk⟩
theorem Ch.grown {w w' : World} {r : Option Nat} (h : w.grownBy w' r) : Ch w w' (fun q => r = some q) := ⟨h.os, h.tape, h.output, h.size, fun k hk hn => h.block k hk (fun e => hn e.symm)⟩
theorem Ch.set (w : World) (g i : Nat) (v : Value) : Ch w (w.setCell ⟨g, i, none⟩ v) (fun q => q = g) := ⟨rfl, rfl, rfl, by simp [World.setCell], fun k hk hn => Below.heap_setCell _ _ _ _ hn⟩
theorem Ch.trans {w w1 w2 : World} {S T : Nat → Prop} (h : Ch w w1 S) (k : Ch w1 w2 T) : Ch w w2 (fun q => S q ∨ T q) := ⟨k.os.trans h.os, k.tape.trans h.tape, k.output.trans h.output, Nat.le_trans h.size k.size, fun i hi hn => (k.block i (Nat.lt_of_lt_of_le hi h.size) (fun e => hn (.inr e))).trans (h.block i hi (fun e => hn (.inl e)))⟩
theorem Ch.weak {w w' : World} {S T : Nat → Prop} (h : Ch w w' S) (k : ∀ q, q < w.heap.size → S q → T q) : Ch w w' T := ⟨h.os, h.tape, h.output, h.size, fun i hi hn => h.block i hi (fun e => hn (k i hi e))⟩
theorem Ch.belowB {w0 w w' : World} {B : Nat} {S : Nat → Prop} (hb : Below B w0 w) (h : Ch w w' S) (hB : B ≤ w.heap.size) (hS : ∀ q, q < w.heap.size → S q → B ≤ q) : Below B w0 w' := hb.trans ⟨h.os, h.tape, h.output, h.size, fun k hk => h.block k (by omega) (fun e => by have := hS k (by omega) e; omega)⟩
theorem Own.ch {w w' : World} {B : Nat} {a : Option Addr} {n c : Nat} {L : List Nat} {S : Nat → Prop} (h : Own w B a n c L) (hc : Ch w w' S) (hn : ∀ q, blkOf a = some q → ¬ S q) : Own w' B a n c L := h.block (fun q hq => hc.block q (h.ge q hq).2 (hn q hq))
theorem Wri.ch {w w' : World} {g B : Nat} {a : Option Addr} {n c : Nat} {L : List Nat} {s : Bool} {S : Nat → Prop} (h : Wri w g B a n c L s) (hc : Ch w w' S) (hg : ¬ S g) (hn : ∀ q, blkOf a = some q → ¬ S q) : Wri w' g B a n c L s := ⟨(hc.block g h.lt hg).trans h.blk, h.own.ch hc hn, h.ne⟩
/- a writer, what was put, whether it is spoilt -/
structure Wd where
  g : Nat
  a : Option Addr
  n : Nat
  c : Nat
  X : List Nat
  s : Bool
  pa : Option Addr
  pn : Nat
  pc : Nat
  P : List Nat
  t : Bool
def upd (D : Nat → Wd) (k : Nat) (d : Wd) : Nat → Wd := fun j => if j = k then d else D j
theorem upd_same (D : Nat → Wd) (k : Nat) (d : Wd) : upd D k d k = d := if_pos rfl
theorem upd_other {D : Nat → Wd} {k j : Nat} {d : Wd} (h : j ≠ k) : upd D k d j = D j := if_neg h
structure St (w wr : World) (b4 b5 : Nat) (E : List (Nat × Obj)) (D : Nat → Wd) (lab : Nat → Nat) : Prop where
  bel : Below w.heap.size w wr
  h4 : wr.heap[b4]? = some (.cells #[.slice (D 0).pa (D 0).pn (D 0).pc, .slice (D 1).pa (D 1).pn (D 1).pc] 28 (0, 0))
  h5 : wr.heap[b5]? = some (.cells #[.bool (D 0).t, .bool (D 1).t] 29 (0, 0))
  wri : ∀ k, k < 2 → Wri wr (D k).g w.heap.size (D k).a (D k).n (D k).c (D k).X (D k).s
  put : ∀ k, k < 2 → Own wr w.heap.size (D k).pa (D k).pn (D k).pc (D k).P
  fx : ∀ q o, (q, o) ∈ E → wr.heap[q]? = some o ∧ lab q = 0
  ge : ∀ k, k < 2 → w.heap.size ≤ (D k).g
  ge4 : w.heap.size ≤ b4
  ge5 : w.heap.size ≤ b5
  l4 : lab b4 = 1
  l5 : lab b5 = 2
  lg : ∀ k, k < 2 → lab (D k).g = 3 + k
  la : ∀ k, k < 2 → ∀ p, blkOf (D k).a = some p → lab p = 5 + k
  lp : ∀ k, k < 2 → ∀ p, blkOf (D k).pa = some p → lab p = 7 + k
def rel (n v : Nat) (lab : Nat → Nat) : Nat → Nat := fun p => if n ≤ p then v else lab p
theorem rel_old {n v p : Nat} {lab : Nat → Nat} (h : p < n) : rel n v lab p = lab p := if_neg (by omega)
theorem rel_new {n v p : Nat} {lab : Nat → Nat} (h : n ≤ p) : rel n v lab p = v := if_pos h
section
variable {w wr wr' : World} {b4 b5 : Nat} {E : List (Nat × Obj)} {D : Nat → Wd} {lab : Nat → Nat}
theorem St.lt4 (h : St w wr b4 b5 E D lab) : b4 < wr.heap.size := (Array.getElem?_eq_some_iff.1 h.h4).1
theorem St.lt5 (h : St w wr b4 b5 E D lab) : b5 < wr.heap.size := (Array.getElem?_eq_some_iff.1 h.h5).1
theorem St.below (h : St w wr b4 b5 E D lab) (hb : Below wr.heap.size wr wr') : St w wr' b4 b5 E D lab :=
  ⟨h.bel.trans (hb.mono h.bel.size), (hb.block _ h.lt4).trans h.h4, (hb.block _ h.lt5).trans h.h5, fun k hk => (h.wri k hk).below hb, fun k hk => (h.put k hk).below hb, fun q o ho => ⟨(hb.block _ (Array.getElem?_eq_some_iff.1 (h.fx q o ho).1).1).trans (h.fx q o ho).1, (h.fx q o ho).2⟩, h.ge, h.ge4, h.ge5, h.l4, h.l5, h.lg, h.la, h.lp⟩
theorem St.less {E' : List (Nat × Obj)} (h : St w wr b4 b5 E D lab) (he : ∀ x ∈ E', x ∈ E) : St w wr b4 b5 E' D lab := { h with fx := fun q o ho => h.fx q o (he _ ho) }
/- a new block that stays -/
theorem St.alloc (h : St w wr b4 b5 E D lab) (o : Obj) : St w (wr.alloc o) b4 b5 ((wr.heap.size, o) :: E) D (rel wr.heap.size 0 lab) := by
  have h1 := h.below ((Below.refl _ _).alloc (Nat.le_refl _) o)
  refine ⟨h1.bel, h1.h4, h1.h5, h1.wri, h1.put, fun q o' ho => ?_, h.ge, h.ge4, h.ge5, ?_, ?_, fun k hk => ?_, fun k hk p hp => ?_, fun k hk p hp => ?_⟩
  · rcases List.mem_cons.1 ho with e | e
    · simp only [Prod.mk.injEq] at e
      obtain ⟨rfl, rfl⟩ := e
      exact ⟨heap_alloc_new wr _, rel_new (Nat.le_refl _)⟩
    · exact ⟨(h1.fx q o' e).1, by rw [rel_old (Array.getElem?_eq_some_iff.1 (h.fx q o' e).1).1]; exact (h.fx q o' e).2⟩
  · rw [rel_old h.lt4]; exact h.l4
  · rw [rel_old h.lt5]; exact h.l5
  · rw [rel_old (h.wri k hk).lt]; exact h.lg k hk
  · rw [rel_old ((h.wri k hk).own.ge p hp).2]; exact h.la k hk p hp
  · rw [rel_old ((h.put k hk).ge p hp).2]; exact h.lp k hk p hp
/- writer k is called -/
theorem St.wstep {k : Nat} (hk : k < 2) {a' : Option Addr} {n' c' : Nat} {X' : List Nat} {s' : Bool} (h : St w wr b4 b5 E D lab) (hw : Wri wr' (D k).g w.heap.size a' n' c' X' s') (f : Wfr wr wr' (D k).g (D k).a) (new : New wr (D k).a a') :
    St w wr' b4 b5 E (upd D k { D k with a := a', n := n', c := c', X := X', s := s' }) (rel wr.heap.size (5 + k) lab) := by
  have ch := (Ch.wfr f).weak (T := fun q => lab q = 3 + k ∨ lab q = 5 + k) (fun q _ hq => hq.imp (fun e => by rw [e]; exact h.lg k hk) (fun e => h.la k hk q e))
  have bS : ∀ q, q < wr.heap.size → (q = (D k).g ∨ blkOf (D k).a = some q) → w.heap.size ≤ q := fun q _ hq => by
    rcases hq with e | e
    · rw [e]; exact h.ge k hk
    · exact ((h.wri k hk).own.ge q e).1
  have pa : ∀ j, (upd D k { D k with a := a', n := n', c := c', X := X', s := s' } j).pa = (D j).pa ∧ (upd D k { D k with a := a', n := n', c := c', X := X', s := s' } j).pn = (D j).pn ∧ (upd D k { D k with a := a', n := n', c := c', X := X', s := s' } j).pc = (D j).pc ∧ (upd D k { D k with a := a', n := n', c := c', X := X', s := s' } j).P = (D j).P ∧ (upd D k { D k with a := a', n := n', c := c', X := X', s := s' } j).t = (D j).t ∧ (upd D k { D k with a := a', n := n', c := c', X := X', s := s' } j).g = (D j).g := fun j => by
    by_cases e : j = k
    · subst e; rw [upd_same]; exact ⟨rfl, rfl, rfl, rfl, rfl, rfl⟩
    · rw [upd_other e]; exact ⟨rfl, rfl, rfl, rfl, rfl, rfl⟩
  have l4 := h.l4
  have l5 := h.l5
  refine ⟨(Ch.wfr f).belowB h.bel h.bel.size bS, ?_, ?_, fun j hj => ?_, fun j hj => ?_, fun q o ho => ?_, fun j hj => ?_, h.ge4, h.ge5, ?_, ?_, fun j hj => ?_, fun j hj p hp => ?_, fun j hj p hp => ?_⟩
  · rw [(pa 0).1, (pa 0).2.1, (pa 0).2.2.1, (pa 1).1, (pa 1).2.1, (pa 1).2.2.1, ch.block b4 h.lt4 (by omega)]; exact h.h4
  · rw [(pa 0).2.2.2.2.1, (pa 1).2.2.2.2.1, ch.block b5 h.lt5 (by omega)]; exact h.h5
  · by_cases e : j = k
    · subst e; rw [upd_same]; exact hw
    · rw [upd_other e]
      have h1 := h.lg j hj
      exact (h.wri j hj).ch ch (by omega) (fun q hq => by have := h.la j hj q hq; omega)
  · rw [(pa j).1, (pa j).2.1, (pa j).2.2.1, (pa j).2.2.2.1]
    exact (h.put j hj).ch ch (fun q hq => by have := h.lp j hj q hq; omega)
  · have h1 := h.fx q o ho
    have hl := (Array.getElem?_eq_some_iff.1 h1.1).1
    exact ⟨(ch.block q hl (by omega)).trans h1.1, by rw [rel_old hl]; exact h1.2⟩
  · rw [(pa j).2.2.2.2.2]; exact h.ge j hj
  · rw [rel_old h.lt4]; exact l4
  · rw [rel_old h.lt5]; exact l5
  · rw [(pa j).2.2.2.2.2, rel_old (h.wri j hj).lt]; exact h.lg j hj
  · by_cases e : j = k
    · subst e
      rw [upd_same] at hp
      rcases new p hp with h1 | h1
      · rw [rel_old ((h.wri j hj).own.ge p h1).2]; exact h.la j hj p h1
      · exact rel_new h1
    · rw [upd_other e] at hp
      rw [rel_old ((h.wri j hj).own.ge p hp).2]; exact h.la j hj p hp
  · rw [(pa j).1] at hp
    rw [rel_old ((h.put j hj).ge p hp).2]; exact h.lp j hj p hp
/- the row that was put grows, and is kept at its place -/
theorem St.pstep {k : Nat} (hk : k < 2) {wr1 : World} {pa' : Option Addr} {pn' pc' : Nat} {P' : List Nat} (h : St w wr b4 b5 E D lab) (ho : Own wr1 w.heap.size pa' pn' pc' P') (gr : Ch wr wr1 (fun q => blkOf (D k).pa = some q)) (new : New wr (D k).pa pa') :
    St w (wr1.setCell ⟨b4, k, none⟩ (.slice pa' pn' pc')) b4 b5 E (upd D k { D k with pa := pa', pn := pn', pc := pc', P := P' }) (rel wr.heap.size (7 + k) lab) := by
  have ch1 := gr.weak (T := fun q => lab q = 7 + k) (fun q _ hq => h.lp k hk q hq)
  have l4 := h.l4
  have l5 := h.l5
  have h41 := (ch1.block b4 h.lt4 (by omega)).trans h.h4
  have ch := (ch1.trans (Ch.set wr1 b4 k (.slice pa' pn' pc'))).weak (T := fun q => lab q = 7 + k ∨ lab q = 1) (fun q _ hq => hq.imp id (fun e => by rw [e]; exact l4))
  have bS : ∀ q, q < wr.heap.size → (blkOf (D k).pa = some q ∨ q = b4) → w.heap.size ≤ q := fun q _ hq => by
    rcases hq with e | e
    · exact ((h.put k hk).ge q e).1
    · rw [e]; exact h.ge4
  have pa : ∀ j, (upd D k { D k with pa := pa', pn := pn', pc := pc', P := P' } j).a = (D j).a ∧ (upd D k { D k with pa := pa', pn := pn', pc := pc', P := P' } j).n = (D j).n ∧ (upd D k { D k with pa := pa', pn := pn', pc := pc', P := P' } j).c = (D j).c ∧ (upd D k { D k with pa := pa', pn := pn', pc := pc', P := P' } j).X = (D j).X ∧ (upd D k { D k with pa := pa', pn := pn', pc := pc', P := P' } j).s = (D j).s ∧ (upd D k { D k with pa := pa', pn := pn', pc := pc', P := P' } j).g = (D j).g ∧ (upd D k { D k with pa := pa', pn := pn', pc := pc', P := P' } j).t = (D j).t := fun j => by
    by_cases e : j = k
    · subst e; rw [upd_same]; exact ⟨rfl, rfl, rfl, rfl, rfl, rfl, rfl⟩
    · rw [upd_other e]; exact ⟨rfl, rfl, rfl, rfl, rfl, rfl, rfl⟩
  have new4 : ∀ q, blkOf pa' = some q → q ≠ b4 := fun q hq e => by
    rcases new q hq with h1 | h1
    · have := h.lp k hk q h1; rw [e] at this; omega
    · have := h.lt4; omega
  refine ⟨(gr.trans (Ch.set wr1 b4 k _)).belowB h.bel h.bel.size bS, ?_, ?_, fun j hj => ?_, fun j hj => ?_, fun q o ho' => ?_, fun j hj => ?_, h.ge4, h.ge5, ?_, ?_, fun j hj => ?_, fun j hj p hp => ?_, fun j hj p hp => ?_⟩
  · rw [set_blk h41]
    have hk2 : k = 0 ∨ k = 1 := by omega
    rcases hk2 with rfl | rfl
    · rw [upd_same, upd_other (by omega)]; rfl
    · rw [upd_same, upd_other (by omega)]; rfl
  · rw [(pa 0).2.2.2.2.2.2, (pa 1).2.2.2.2.2.2, ch.block b5 h.lt5 (by omega)]; exact h.h5
  · rw [(pa j).1, (pa j).2.1, (pa j).2.2.1, (pa j).2.2.2.1, (pa j).2.2.2.2.1, (pa j).2.2.2.2.2.1]
    have h1 := h.lg j hj
    exact (h.wri j hj).ch ch (by omega) (fun q hq => by have := h.la j hj q hq; omega)
  · by_cases e : j = k
    · subst e
      rw [upd_same]
      exact ho.block (fun q hq => Below.heap_setCell _ _ _ _ (new4 q hq))
    · rw [upd_other e]
      exact (h.put j hj).ch ch (fun q hq => by have := h.lp j hj q hq; omega)
  · have h1 := h.fx q o ho'
    have hl := (Array.getElem?_eq_some_iff.1 h1.1).1
    exact ⟨(ch.block q hl (by omega)).trans h1.1, by rw [rel_old hl]; exact h1.2⟩
  · rw [(pa j).2.2.2.2.2.1]; exact h.ge j hj
  · rw [rel_old h.lt4]; exact l4
  · rw [rel_old h.lt5]; exact l5
  · rw [(pa j).2.2.2.2.2.1, rel_old (h.wri j hj).lt]; exact h.lg j hj
  · rw [(pa j).1] at hp
    rw [rel_old ((h.wri j hj).own.ge p hp).2]; exact h.la j hj p hp
  · by_cases e : j = k
    · subst e
      rw [upd_same] at hp
      rcases new p hp with h1 | h1
      · rw [rel_old ((h.put j hj).ge p h1).2]; exact h.lp j hj p h1
      · exact rel_new h1
    · rw [upd_other e] at hp
      rw [rel_old ((h.put j hj).ge p hp).2]; exact h.lp j hj p hp
/- the mark is set -/
theorem St.tstep {k : Nat} (hk : k < 2) (h : St w wr b4 b5 E D lab) : St w (wr.setCell ⟨b5, k, none⟩ (.bool true)) b4 b5 E (upd D k { D k with t := true }) lab := by
  have l4 := h.l4
  have l5 := h.l5
  have ch := (Ch.set wr b5 k (.bool true)).weak (T := fun q => lab q = 2) (fun q _ hq => by rw [hq]; exact l5)
  have pa : ∀ j, (upd D k { D k with t := true } j).a = (D j).a ∧ (upd D k { D k with t := true } j).n = (D j).n ∧ (upd D k { D k with t := true } j).c = (D j).c ∧ (upd D k { D k with t := true } j).X = (D j).X ∧ (upd D k { D k with t := true } j).s = (D j).s ∧ (upd D k { D k with t := true } j).g = (D j).g ∧ (upd D k { D k with t := true } j).pa = (D j).pa ∧ (upd D k { D k with t := true } j).pn = (D j).pn ∧ (upd D k { D k with t := true } j).pc = (D j).pc ∧ (upd D k { D k with t := true } j).P = (D j).P := fun j => by
    by_cases e : j = k
    · subst e; rw [upd_same]; exact ⟨rfl, rfl, rfl, rfl, rfl, rfl, rfl, rfl, rfl, rfl⟩
    · rw [upd_other e]; exact ⟨rfl, rfl, rfl, rfl, rfl, rfl, rfl, rfl, rfl, rfl⟩
  refine ⟨(Ch.set wr b5 k _).belowB h.bel h.bel.size (fun q _ e => by rw [e]; exact h.ge5), ?_, ?_, fun j hj => ?_, fun j hj => ?_, fun q o ho' => ?_, fun j hj => ?_, h.ge4, h.ge5, l4, l5, fun j hj => ?_, fun j hj p hp => ?_, fun j hj p hp => ?_⟩
  · rw [(pa 0).2.2.2.2.2.2.1, (pa 0).2.2.2.2.2.2.2.1, (pa 0).2.2.2.2.2.2.2.2.1, (pa 1).2.2.2.2.2.2.1, (pa 1).2.2.2.2.2.2.2.1, (pa 1).2.2.2.2.2.2.2.2.1, ch.block b4 h.lt4 (by omega)]; exact h.h4
  · rw [set_blk h.h5]
    have hk2 : k = 0 ∨ k = 1 := by omega
    rcases hk2 with rfl | rfl
    · rw [upd_same, upd_other (by omega)]; rfl
    · rw [upd_same, upd_other (by omega)]; rfl
  · rw [(pa j).1, (pa j).2.1, (pa j).2.2.1, (pa j).2.2.2.1, (pa j).2.2.2.2.1, (pa j).2.2.2.2.2.1]
    have h1 := h.lg j hj
    exact (h.wri j hj).ch ch (by omega) (fun q hq => by have := h.la j hj q hq; omega)
  · rw [(pa j).2.2.2.2.2.2.1, (pa j).2.2.2.2.2.2.2.1, (pa j).2.2.2.2.2.2.2.2.1, (pa j).2.2.2.2.2.2.2.2.2]
    exact (h.put j hj).ch ch (fun q hq => by have := h.lp j hj q hq; omega)
  · have h1 := h.fx q o ho'
    have hl := (Array.getElem?_eq_some_iff.1 h1.1).1
    exact ⟨(ch.block q hl (by omega)).trans h1.1, h1.2⟩
  · rw [(pa j).2.2.2.2.2.1]; exact h.ge j hj
  · rw [(pa j).2.2.2.2.2.1]; exact h.lg j hj
  · rw [(pa j).1] at hp; exact h.la j hj p hp
  · rw [(pa j).2.2.2.2.2.2.1] at hp; exact h.lp j hj p hp
theorem St.c4 (h : St w wr b4 b5 E D lab) {k : Nat} (hk : k < 2) : wr.cell? ⟨b4, k, none⟩ = some (.slice (D k).pa (D k).pn (D k).pc) := by
  have h1 := h.h4
  have hk2 : k = 0 ∨ k = 1 := by omega
  rcases hk2 with rfl | rfl <;> simp [World.cell?, h1]
theorem St.c5 (h : St w wr b4 b5 E D lab) {k : Nat} (hk : k < 2) : wr.cell? ⟨b5, k, none⟩ = some (.bool (D k).t) := by
  have h1 := h.h5
  have hk2 : k = 0 ∨ k = 1 := by omega
  rcases hk2 with rfl | rfl <;> simp [World.cell?, h1]
theorem St.f4 (h : St w wr b4 b5 E D lab) (k : Nat) : wr.frozen? ⟨b4, k, none⟩ = false := fz h.h4 k
theorem St.f5 (h : St w wr b4 b5 E D lab) (k : Nat) : wr.frozen? ⟨b5, k, none⟩ = false := fz h.h5 k
end
end Go.Proofs.YtnhnpkedkdefnaaDoor
