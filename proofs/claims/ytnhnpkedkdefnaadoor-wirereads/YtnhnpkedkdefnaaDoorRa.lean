/- Two readers and the document's two readers of the same bytes, in memory, by labels of blocks. -/
import Derived.Test.YtnhnpkedkdefnaaDoorZd
import Derived.Test.YtnhnpkedkdefnaaDoorYe
namespace Go.Proofs.YtnhnpkedkdefnaaDoor
open Go.ChangeShapes Go.WideShapes Go.ChangeAt Go.RowKit
set_option linter.unusedVariables false
set_option linter.unusedSimpArgs false
theorem Rdr.ch {w w' : World} {g B : Nat} {a : Option Addr} {n c : Nat} {l : List Nat} {p : Nat} {S : Nat → Prop} (h : Rdr w g B a n c l p) (hc : Ch w w' S) (hg : ¬ S g) (hn : ∀ q, blkOf a = some q → ¬ S q) : Rdr w' g B a n c l p := ⟨(hc.block g h.lt hg).trans h.blk, h.own.ch hc hn, h.ne, h.le, h.sz⟩
/- bytes that came in -/
structure Bs where
  a : Option Addr
  n : Nat
  c : Nat
  l : List Nat
structure Bs.ok (b : Bs) (w : World) : Prop where
  sl : Sln w b.a b.n b.l
  nc : b.n ≤ b.c
  z : b.a = none → b.c = 0
  sz : b.n ≤ 140737488351232
structure Rd where
  g : Nat
  a : Option Addr
  c : Nat
  p : Nat
  gm : Nat
  pm : Nat
def updR (D : Nat → Rd) (k : Nat) (d : Rd) : Nat → Rd := fun j => if j = k then d else D j
theorem updR_same (D : Nat → Rd) (k : Nat) (d : Rd) : updR D k d k = d := if_pos rfl
theorem updR_other {D : Nat → Rd} {k j : Nat} {d : Rd} (h : j ≠ k) : updR D k d j = D j := if_neg h
theorem updR_updR (D : Nat → Rd) (k : Nat) (d e : Rd) : updR (updR D k d) k e = updR D k e := by
  funext j
  unfold updR
  split <;> rfl
structure Sr (w wr : World) (E : List (Nat × Obj)) (B : Nat → Bs) (K : Nat) (D : Nat → Rd) (lab : Nat → Nat) : Prop where
  bel : Below w.heap.size w wr
  rd : ∀ j, j < K → Rdr wr (D j).g w.heap.size (D j).a (B j).n (D j).c (B j).l (D j).p
  rf : ∀ j, j < K → wr.heap[(D j).gm]? = some (.cells #[.slice (B j).a (B j).n (B j).c, .int .i64 ((D j).pm : Int)] 49 (0, 0)) ∧ (D j).pm ≤ (B j).n
  fx : ∀ q o, (q, o) ∈ E → wr.heap[q]? = some o ∧ lab q = 0
  ge : ∀ j, j < K → w.heap.size ≤ (D j).g ∧ w.heap.size ≤ (D j).gm
  lg : ∀ j, j < K → lab (D j).g = 3 + j
  la : ∀ j, j < K → ∀ p, blkOf (D j).a = some p → lab p = 5 + j
  lm : ∀ j, j < K → lab (D j).gm = 7 + j
section
variable {w wr wr' : World} {E : List (Nat × Obj)} {B : Nat → Bs} {K : Nat} {D : Nat → Rd} {lab : Nat → Nat}
theorem Sr.ltm (h : Sr w wr E B K D lab) {j : Nat} (hj : j < K) : (D j).gm < wr.heap.size := (Array.getElem?_eq_some_iff.1 (h.rf j hj).1).1
theorem Sr.rrf (h : Sr w wr E B K D lab) {j : Nat} (hj : j < K) (hb : (B j).ok w) : Rrf wr (D j).gm (B j).a (B j).n (B j).c (B j).l (D j).pm :=
  ⟨(h.rf j hj).1, hb.sl.below h.bel, hb.nc, hb.z, fun b off h1 h2 e => by
    obtain ⟨b', o', h3, h4, _⟩ := hb.sl.sli.2.2.resolve_left h1
    rw [h2] at h3
    simp only [Option.some.injEq, Addr.mk.injEq, and_true] at h3
    have := (h.ge j hj).2
    omega, (h.rf j hj).2⟩
theorem Sr.below (h : Sr w wr E B K D lab) (hb : Below wr.heap.size wr wr') : Sr w wr' E B K D lab :=
  ⟨h.bel.trans (hb.mono h.bel.size), fun j hj => (h.rd j hj).below hb, fun j hj => ⟨(hb.block _ (h.ltm hj)).trans (h.rf j hj).1, (h.rf j hj).2⟩, fun q o ho => ⟨(hb.block _ (Array.getElem?_eq_some_iff.1 (h.fx q o ho).1).1).trans (h.fx q o ho).1, (h.fx q o ho).2⟩, h.ge, h.lg, h.la, h.lm⟩
theorem Sr.less {E' : List (Nat × Obj)} (h : Sr w wr E B K D lab) (he : ∀ x ∈ E', x ∈ E) : Sr w wr E' B K D lab := { h with fx := fun q o ho => h.fx q o (he _ ho) }
theorem Sr.mark (v : Nat) (h : Sr w wr E B K D lab) (hb : Below wr.heap.size wr wr') : Sr w wr' E B K D (rel wr.heap.size v lab) := by
  have h1 := h.below hb
  exact { h1 with
    fx := fun q o ho => ⟨(h1.fx q o ho).1, by rw [rel_old (Array.getElem?_eq_some_iff.1 (h.fx q o ho).1).1]; exact (h.fx q o ho).2⟩
    lg := fun k hk => by rw [rel_old (h.rd k hk).lt]; exact h.lg k hk
    la := fun k hk p hp => by rw [rel_old ((h.rd k hk).own.ge p hp).2]; exact h.la k hk p hp
    lm := fun k hk => by rw [rel_old (h.ltm hk)]; exact h.lm k hk }
theorem Sr.fix (h : Sr w wr E B K D lab) (hb : Below wr.heap.size wr wr') {q : Nat} {o : Obj} (hq : wr.heap.size ≤ q) (ho : wr'.heap[q]? = some o) : Sr w wr' ((q, o) :: E) B K D (rel wr.heap.size 0 lab) := by
  have h1 := h.mark 0 hb
  exact { h1 with
    fx := fun q' o' ho' => by
      rcases List.mem_cons.1 ho' with e | e
      · simp only [Prod.mk.injEq] at e
        obtain ⟨rfl, rfl⟩ := e
        exact ⟨ho, rel_new hq⟩
      · exact h1.fx q' o' e }
/- blocks of other labels are written over -/
theorem Sr.other {S : Nat → Prop} (h : Sr w wr E B K D lab) (ch : Ch wr wr' S) (hge : ∀ q, q < wr.heap.size → S q → w.heap.size ≤ q) (hS : ∀ q, q < wr.heap.size → S q → lab q ≠ 0 ∧ ∀ j, j < K → lab q ≠ 3 + j ∧ lab q ≠ 5 + j ∧ lab q ≠ 7 + j) : Sr w wr' E B K D lab :=
  ⟨ch.belowB h.bel h.bel.size hge, fun j hj => (h.rd j hj).ch ch (fun e => ((hS _ (h.rd j hj).lt e).2 j hj).1 (h.lg j hj)) (fun q hq e => ((hS q ((h.rd j hj).own.ge q hq).2 e).2 j hj).2.1 (h.la j hj q hq)),
   fun j hj => ⟨(ch.block _ (h.ltm hj) (fun e => ((hS _ (h.ltm hj) e).2 j hj).2.2 (h.lm j hj))).trans (h.rf j hj).1, (h.rf j hj).2⟩,
   fun q o ho => ⟨(ch.block q (Array.getElem?_eq_some_iff.1 (h.fx q o ho).1).1 (fun e => (hS q (Array.getElem?_eq_some_iff.1 (h.fx q o ho).1).1 e).1 (h.fx q o ho).2)).trans (h.fx q o ho).1, (h.fx q o ho).2⟩, h.ge, h.lg, h.la, h.lm⟩
/- reader k goes on -/
theorem Sr.r {k p' : Nat} (hk : k < K) (hK : K ≤ 2) (h : Sr w wr E B K D lab) (hr : Rdr wr' (D k).g w.heap.size (D k).a (B k).n (D k).c (B k).l p') (f : Wfr wr wr' (D k).g none) : Sr w wr' E B K (updR D k { D k with p := p' }) lab := by
  have ch := (Ch.wfr f).weak (T := fun q => lab q = 3 + k) (fun q _ hq => by rcases hq with e | e; rw [e]; exact h.lg k hk; simp [blkOf] at e)
  have pa : ∀ j, (updR D k { D k with p := p' } j).g = (D j).g ∧ (updR D k { D k with p := p' } j).a = (D j).a ∧ (updR D k { D k with p := p' } j).c = (D j).c ∧ (updR D k { D k with p := p' } j).gm = (D j).gm ∧ (updR D k { D k with p := p' } j).pm = (D j).pm := fun j => by
    by_cases e : j = k
    · subst e; rw [updR_same]; exact ⟨rfl, rfl, rfl, rfl, rfl⟩
    · rw [updR_other e]; exact ⟨rfl, rfl, rfl, rfl, rfl⟩
  refine ⟨(Ch.wfr f).belowB h.bel h.bel.size (fun q _ hq => by rcases hq with e | e; rw [e]; exact (h.ge k hk).1; simp [blkOf] at e), fun j hj => ?_, fun j hj => ?_, fun q o ho => ?_, fun j hj => ?_, fun j hj => ?_, fun j hj p hp => ?_, fun j hj => ?_⟩
  · by_cases e : j = k
    · subst e; rw [updR_same]; exact hr
    · rw [updR_other e]
      have h1 := h.lg j hj
      exact (h.rd j hj).ch ch (by omega) (fun q hq => by have := h.la j hj q hq; omega)
  · rw [(pa j).2.2.2.1, (pa j).2.2.2.2]
    exact ⟨(ch.block _ (h.ltm hj) (by have := h.lm j hj; omega)).trans (h.rf j hj).1, (h.rf j hj).2⟩
  · exact ⟨(ch.block q (Array.getElem?_eq_some_iff.1 (h.fx q o ho).1).1 (by have := (h.fx q o ho).2; omega)).trans (h.fx q o ho).1, (h.fx q o ho).2⟩
  · rw [(pa j).1, (pa j).2.2.2.1]; exact h.ge j hj
  · rw [(pa j).1]; exact h.lg j hj
  · rw [(pa j).2.1] at hp; exact h.la j hj p hp
  · rw [(pa j).2.2.2.1]; exact h.lm j hj
/- the document's reader k goes on -/
theorem Sr.m {k p' : Nat} (hk : k < K) (hK : K ≤ 2) (h : Sr w wr E B K D lab) (hr : wr'.heap[(D k).gm]? = some (.cells #[.slice (B k).a (B k).n (B k).c, .int .i64 (p' : Int)] 49 (0, 0))) (hp' : p' ≤ (B k).n) (f : Wfr wr wr' (D k).gm none) : Sr w wr' E B K (updR D k { D k with pm := p' }) lab := by
  have ch := (Ch.wfr f).weak (T := fun q => lab q = 7 + k) (fun q _ hq => by rcases hq with e | e; rw [e]; exact h.lm k hk; simp [blkOf] at e)
  have pa : ∀ j, (updR D k { D k with pm := p' } j).g = (D j).g ∧ (updR D k { D k with pm := p' } j).a = (D j).a ∧ (updR D k { D k with pm := p' } j).c = (D j).c ∧ (updR D k { D k with pm := p' } j).gm = (D j).gm ∧ (updR D k { D k with pm := p' } j).p = (D j).p := fun j => by
    by_cases e : j = k
    · subst e; rw [updR_same]; exact ⟨rfl, rfl, rfl, rfl, rfl⟩
    · rw [updR_other e]; exact ⟨rfl, rfl, rfl, rfl, rfl⟩
  refine ⟨(Ch.wfr f).belowB h.bel h.bel.size (fun q _ hq => by rcases hq with e | e; rw [e]; exact (h.ge k hk).2; simp [blkOf] at e), fun j hj => ?_, fun j hj => ?_, fun q o ho => ?_, fun j hj => ?_, fun j hj => ?_, fun j hj p hp => ?_, fun j hj => ?_⟩
  · rw [(pa j).1, (pa j).2.1, (pa j).2.2.1, (pa j).2.2.2.2]
    have h1 := h.lg j hj
    exact (h.rd j hj).ch ch (by omega) (fun q hq => by have := h.la j hj q hq; omega)
  · by_cases e : j = k
    · subst e; rw [updR_same]; exact ⟨hr, hp'⟩
    · rw [updR_other e]
      exact ⟨(ch.block _ (h.ltm hj) (by have := h.lm j hj; omega)).trans (h.rf j hj).1, (h.rf j hj).2⟩
  · exact ⟨(ch.block q (Array.getElem?_eq_some_iff.1 (h.fx q o ho).1).1 (by have := (h.fx q o ho).2; omega)).trans (h.fx q o ho).1, (h.fx q o ho).2⟩
  · rw [(pa j).1, (pa j).2.2.2.1]; exact h.ge j hj
  · rw [(pa j).1]; exact h.lg j hj
  · rw [(pa j).2.1] at hp; exact h.la j hj p hp
  · rw [(pa j).2.2.2.1]; exact h.lm j hj
end
theorem Sr.loc {w wr : World} {q K : Nat} {E : List (Nat × Obj)} {B : Nat → Bs} {D : Nat → Rd} {lab : Nat → Nat} {x : Opt} {ab : Option Addr} {nb cb : Nat} (h : Sr w wr E B K D lab) (hq : (q, oO x ab nb cb) ∈ E) : Loc wr q x ab nb cb := ⟨(h.fx q _ hq).1⟩
/- what is known of reader k now -/
structure NowR (w wr : World) (E : List (Nat × Obj)) (B : Nat → Bs) (D : Nat → Rd) (lab : Nat → Nat) (k : Nat) (b : Bs) (d : Rd) : Prop where
  st : Sr w wr E B 2 D lab
  eq : D k = d
  eb : B k = b
  ok : b.ok w
section
variable {w wr wr' : World} {E : List (Nat × Obj)} {B : Nat → Bs} {D : Nat → Rd} {lab : Nat → Nat} {k : Nat} {b : Bs} {d : Rd}
theorem NowR.rd (h : NowR w wr E B D lab k b d) (hk : k < 2) : Rdr wr d.g w.heap.size d.a b.n d.c b.l d.p := by rw [← h.eq, ← h.eb]; exact h.st.rd k hk
theorem NowR.rf (h : NowR w wr E B D lab k b d) (hk : k < 2) : Rrf wr d.gm b.a b.n b.c b.l d.pm := by have := h.st.rrf hk (by rw [h.eb]; exact h.ok); rw [h.eq, h.eb] at this; exact this
theorem NowR.below (h : NowR w wr E B D lab k b d) (hb : Below wr.heap.size wr wr') : NowR w wr' E B D lab k b d := ⟨h.st.below hb, h.eq, h.eb, h.ok⟩
theorem NowR.r (h : NowR w wr E B D lab k b d) (hk : k < 2) {p' : Nat} (hr : Rdr wr' d.g w.heap.size d.a b.n d.c b.l p') (f : Wfr wr wr' d.g none) : NowR w wr' E B (updR D k { d with p := p' }) lab k b { d with p := p' } := by
  have e := h.eq
  have e2 := h.eb
  subst e e2
  exact ⟨h.st.r hk (Nat.le_refl _) hr f, updR_same _ _ _, rfl, h.ok⟩
theorem NowR.m (h : NowR w wr E B D lab k b d) (hk : k < 2) {p' : Nat} (hr : Rrf wr' d.gm b.a b.n b.c b.l p') (f : Wfr wr wr' d.gm none) : NowR w wr' E B (updR D k { d with pm := p' }) lab k b { d with pm := p' } := by
  have e := h.eq
  have e2 := h.eb
  subst e e2
  exact ⟨h.st.m hk (Nat.le_refl _) hr.blk hr.le f, updR_same _ _ _, rfl, h.ok⟩
end
/- between two rounds -/
structure InvR (Gs Ms : Nat → Nat) (D : Nat → Rd) : Prop where
  g : ∀ j, j < 2 → (D j).g = Gs j
  m : ∀ j, j < 2 → (D j).gm = Ms j
  p : ∀ j, j < 2 → (D j).pm = (D j).p
theorem InvR.upd {Gs Ms : Nat → Nat} {D : Nat → Rd} {k : Nat} {d : Rd} (h : InvR Gs Ms D) (h1 : d.g = Gs k) (h2 : d.gm = Ms k) (h3 : d.pm = d.p) : InvR Gs Ms (updR D k d) := by
  refine ⟨fun j hj => ?_, fun j hj => ?_, fun j hj => ?_⟩ <;> by_cases e : j = k
  · subst e; rw [updR_same]; exact h1
  · rw [updR_other e]; exact h.g j hj
  · subst e; rw [updR_same]; exact h2
  · rw [updR_other e]; exact h.m j hj
  · subst e; rw [updR_same]; exact h3
  · rw [updR_other e]; exact h.p j hj
/- End where something is left -/
set_option maxHeartbeats 1000000 in
theorem end_bad {w : World} {g B M : Nat} {a : Option Addr} {n c : Nat} {l : List Nat} {p : Nat} {E : Nat → Addr} (hR : Hid (Rdr w g B a n c l p)) (hp : Hid (p < n)) (hE : Hid (Sent w M E)) (hM : 2 ≤ M) :
    Calls Tryd.prog 26 #[.pointer (some ⟨g, 0, none⟩)] w fun e w' => e = .returned (.iface 85 (.pointer (some (E 1)))) ∧ Hid (∃ j, w' = w.drewN j) := by
  obtain ⟨d, Hd⟩ : ∃ d, Hid (n - p = d) := ⟨_, rfl⟩
  have i1 : (0 : Int) < (d : Int) := by have h1 := Hd.out; have h2 := hp.out; omega
  go_enter Tryd.func26, Tryd.ntmps26
  go_wp2_with (first
    | (go_at_call 27; refine (lft_n hR).mono ?_; rintro e w1 ⟨rfl, H1⟩; rw [Hd.out]
       have ce : w1.cell? ⟨1, 0, none⟩ = some (.iface 85 (.pointer (some (E 1)))) := by obtain ⟨j, hj⟩ := H1.out; rw [hj, cell_drewN]; exact hE.out.c 1 (by omega)))
  go_ret
  exact ⟨rfl, H1.out⟩
end Go.Proofs.YtnhnpkedkdefnaaDoor
