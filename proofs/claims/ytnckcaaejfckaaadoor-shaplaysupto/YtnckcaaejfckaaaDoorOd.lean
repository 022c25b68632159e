/- Two hashes and what was given to each, in memory, by labels of blocks. -/
import Derived.Test.YtnckcaaejfckaaaDoorOc
import Derived.Test.YtnckcaaejfckaaaDoorSg
namespace Go.Proofs.YtnckcaaejfckaaaDoor
open Go.ChangeShapes Go.WideShapes Go.ChangeAt Go.RowKit
set_option linter.unusedVariables false
set_option linter.unusedSimpArgs false
theorem HS.ch {w w' : World} {g : Nat} {A : List Nat} {S : Nat → Prop} (h : HS w g A) (hc : Ch w w' S) (hg : ¬ S g) : HS w' g A := ⟨⟨(hc.block g (Array.getElem?_eq_some_iff.1 h.h.blk).1 hg).trans h.h.blk, h.h.l1, h.h.l2⟩, h.lt⟩
theorem HS.glt {w : World} {g : Nat} {A : List Nat} (h : HS w g A) : g < w.heap.size := (Array.getElem?_eq_some_iff.1 h.h.blk).1
theorem Ch.but {w w' : World} {g : Nat} (h : But g w w') : Ch w w' (fun q => q = g) := ⟨h.os, h.tape, h.output, h.size, fun k hk hn => h.block k hk hn⟩
theorem Ch.oth {g : Nat} {w w' : World} (h : Oth g w w') : Ch w w' (fun q => q = g) := ⟨h.os, h.tape, h.output, Nat.le_of_eq h.size.symm, fun k _ hn => h.block k hn⟩
structure Hw where
  g : Nat
  X : List Nat
  pa : Option Addr
  pn : Nat
  pc : Nat
  P : List Nat
def updH (D : Nat → Hw) (k : Nat) (d : Hw) : Nat → Hw := fun j => if j = k then d else D j
theorem updH_same (D : Nat → Hw) (k : Nat) (d : Hw) : updH D k d k = d := if_pos rfl
theorem updH_other {D : Nat → Hw} {k j : Nat} {d : Hw} (h : j ≠ k) : updH D k d j = D j := if_neg h
theorem updH_updH (D : Nat → Hw) (k : Nat) (d e : Hw) : updH (updH D k d) k e = updH D k e := by
  funext j
  unfold updH
  split <;> rfl
structure SP (w wr : World) (b4 : Nat) (E : List (Nat × Obj)) (D : Nat → Hw) (lab : Nat → Nat) : Prop where
  bel : Below w.heap.size w wr
  h4 : wr.heap[b4]? = some (.cells #[.slice (D 0).pa (D 0).pn (D 0).pc, .slice (D 1).pa (D 1).pn (D 1).pc] 33 (0, 0))
  hs : ∀ k, k < 2 → HS wr (D k).g (D k).X
  put : ∀ k, k < 2 → Own wr w.heap.size (D k).pa (D k).pn (D k).pc (D k).P
  fx : ∀ q o, (q, o) ∈ E → wr.heap[q]? = some o ∧ lab q = 0
  ge : ∀ k, k < 2 → w.heap.size ≤ (D k).g
  ge4 : w.heap.size ≤ b4
  l4 : lab b4 = 1
  lg : ∀ k, k < 2 → lab (D k).g = 3 + k
  lp : ∀ k, k < 2 → ∀ p, blkOf (D k).pa = some p → lab p = 7 + k
section
variable {w wr wr' : World} {b4 : Nat} {E : List (Nat × Obj)} {D : Nat → Hw} {lab : Nat → Nat}
theorem SP.lt4 (h : SP w wr b4 E D lab) : b4 < wr.heap.size := (Array.getElem?_eq_some_iff.1 h.h4).1
theorem SP.below (h : SP w wr b4 E D lab) (hb : Below wr.heap.size wr wr') : SP w wr' b4 E D lab :=
  ⟨h.bel.trans (hb.mono h.bel.size), (hb.block _ h.lt4).trans h.h4, fun k hk => (h.hs k hk).ch (Ch.below hb) id, fun k hk => (h.put k hk).below hb, fun q o ho => ⟨(hb.block _ (Array.getElem?_eq_some_iff.1 (h.fx q o ho).1).1).trans (h.fx q o ho).1, (h.fx q o ho).2⟩, h.ge, h.ge4, h.l4, h.lg, h.lp⟩
theorem SP.less {E' : List (Nat × Obj)} (h : SP w wr b4 E D lab) (he : ∀ x ∈ E', x ∈ E) : SP w wr b4 E' D lab := { h with fx := fun q o ho => h.fx q o (he _ ho) }
theorem SP.mark (v : Nat) (h : SP w wr b4 E D lab) (hb : Below wr.heap.size wr wr') : SP w wr' b4 E D (rel wr.heap.size v lab) := by
  have h1 := h.below hb
  exact { h1 with
    fx := fun q o ho => ⟨(h1.fx q o ho).1, by rw [rel_old (Array.getElem?_eq_some_iff.1 (h.fx q o ho).1).1]; exact (h.fx q o ho).2⟩
    l4 := by rw [rel_old h.lt4]; exact h.l4
    lg := fun k hk => by rw [rel_old (h.hs k hk).glt]; exact h.lg k hk
    lp := fun k hk p hp => by rw [rel_old ((h.put k hk).ge p hp).2]; exact h.lp k hk p hp }
theorem SP.fix (h : SP w wr b4 E D lab) (hb : Below wr.heap.size wr wr') {q : Nat} {o : Obj} (hq : wr.heap.size ≤ q) (ho : wr'.heap[q]? = some o) : SP w wr' b4 ((q, o) :: E) D (rel wr.heap.size 0 lab) := by
  have h1 := h.mark 0 hb
  exact { h1 with
    fx := fun q' o' ho' => by
      rcases List.mem_cons.1 ho' with e | e
      · simp only [Prod.mk.injEq] at e
        obtain ⟨rfl, rfl⟩ := e
        exact ⟨ho, rel_new hq⟩
      · exact h1.fx q' o' e }
theorem SP.one {gb v : Nat} (hv : 9 ≤ v) (h : SP w wr b4 E D lab) (hg : lab gb = v) (hge : w.heap.size ≤ gb) (ch : Ch wr wr' (fun q => q = gb)) : SP w wr' b4 E D lab := by
  have l4 := h.l4
  exact { h with
    bel := ch.belowB h.bel h.bel.size (fun q _ e => by rw [e]; exact hge)
    h4 := (ch.block b4 h.lt4 (fun e => by rw [e] at l4; omega)).trans h.h4
    hs := fun j hj => (h.hs j hj).ch ch (fun e => by have := h.lg j hj; rw [e] at this; omega)
    put := fun j hj => (h.put j hj).ch ch (fun q hq e => by have := h.lp j hj q hq; rw [e] at this; omega)
    fx := fun q o ho => ⟨(ch.block q (Array.getElem?_eq_some_iff.1 (h.fx q o ho).1).1 (fun e => by have := (h.fx q o ho).2; rw [e] at this; omega)).trans (h.fx q o ho).1, (h.fx q o ho).2⟩ }
/- hash k is given more -/
theorem SP.hstep {k : Nat} (hk : k < 2) {X' : List Nat} (h : SP w wr b4 E D lab) (hh : HS wr' (D k).g X') (f : But (D k).g wr wr') : SP w wr' b4 E (updH D k { D k with X := X' }) lab := by
  have l4 := h.l4
  have ch := (Ch.but f).weak (T := fun q => lab q = 3 + k) (fun q _ hq => by rw [hq]; exact h.lg k hk)
  have pa : ∀ j, (updH D k { D k with X := X' } j).g = (D j).g ∧ (updH D k { D k with X := X' } j).pa = (D j).pa ∧ (updH D k { D k with X := X' } j).pn = (D j).pn ∧ (updH D k { D k with X := X' } j).pc = (D j).pc ∧ (updH D k { D k with X := X' } j).P = (D j).P := fun j => by
    by_cases e : j = k
    · subst e; rw [updH_same]; exact ⟨rfl, rfl, rfl, rfl, rfl⟩
    · rw [updH_other e]; exact ⟨rfl, rfl, rfl, rfl, rfl⟩
  refine ⟨(Ch.but f).belowB h.bel h.bel.size (fun q _ e => by rw [e]; exact h.ge k hk), ?_, fun j hj => ?_, fun j hj => ?_, fun q o ho => ?_, fun j hj => ?_, h.ge4, l4, fun j hj => ?_, fun j hj p hp => ?_⟩
  · rw [(pa 0).2.1, (pa 0).2.2.1, (pa 0).2.2.2.1, (pa 1).2.1, (pa 1).2.2.1, (pa 1).2.2.2.1, ch.block b4 h.lt4 (by omega)]; exact h.h4
  · by_cases e : j = k
    · subst e; rw [updH_same]; exact hh
    · rw [updH_other e]; exact (h.hs j hj).ch ch (by have := h.lg j hj; omega)
  · rw [(pa j).2.1, (pa j).2.2.1, (pa j).2.2.2.1, (pa j).2.2.2.2]
    exact (h.put j hj).ch ch (fun q hq => by have := h.lp j hj q hq; omega)
  · exact ⟨(ch.block q (Array.getElem?_eq_some_iff.1 (h.fx q o ho).1).1 (by have := (h.fx q o ho).2; omega)).trans (h.fx q o ho).1, (h.fx q o ho).2⟩
  · rw [(pa j).1]; exact h.ge j hj
  · rw [(pa j).1]; exact h.lg j hj
  · rw [(pa j).2.1] at hp; exact h.lp j hj p hp
/- the row grows, and is kept at its place -/
theorem SP.pstep {k : Nat} (hk : k < 2) {wr1 : World} {pa' : Option Addr} {pn' pc' : Nat} {P' : List Nat} (h : SP w wr b4 E D lab) (ho : Own wr1 w.heap.size pa' pn' pc' P') (gr : Ch wr wr1 (fun q => blkOf (D k).pa = some q)) (new : New wr (D k).pa pa') :
    SP w (wr1.setCell ⟨b4, k, none⟩ (.slice pa' pn' pc')) b4 E (updH D k { D k with pa := pa', pn := pn', pc := pc', P := P' }) (rel wr.heap.size (7 + k) lab) := by
  have ch1 := gr.weak (T := fun q => lab q = 7 + k) (fun q _ hq => h.lp k hk q hq)
  have l4 := h.l4
  have h41 := (ch1.block b4 h.lt4 (by omega)).trans h.h4
  have ch := (ch1.trans (Ch.set wr1 b4 k (.slice pa' pn' pc'))).weak (T := fun q => lab q = 7 + k ∨ lab q = 1) (fun q _ hq => hq.imp id (fun e => by rw [e]; exact l4))
  have pa : ∀ j, (updH D k { D k with pa := pa', pn := pn', pc := pc', P := P' } j).g = (D j).g ∧ (updH D k { D k with pa := pa', pn := pn', pc := pc', P := P' } j).X = (D j).X := fun j => by
    by_cases e : j = k
    · subst e; rw [updH_same]; exact ⟨rfl, rfl⟩
    · rw [updH_other e]; exact ⟨rfl, rfl⟩
  have new4 : ∀ q, blkOf pa' = some q → q ≠ b4 := fun q hq e => by
    rcases new q hq with h1 | h1
    · have := h.lp k hk q h1; rw [e] at this; omega
    · have := h.lt4; omega
  refine ⟨(gr.trans (Ch.set wr1 b4 k _)).belowB h.bel h.bel.size (fun q _ hq => by rcases hq with e | e; exact ((h.put k hk).ge q e).1; rw [e]; exact h.ge4), ?_, fun j hj => ?_, fun j hj => ?_, fun q o ho' => ?_, fun j hj => ?_, h.ge4, ?_, fun j hj => ?_, fun j hj p hp => ?_⟩
  · rw [set_blk h41]
    have hk2 : k = 0 ∨ k = 1 := by omega
    rcases hk2 with rfl | rfl
    · rw [updH_same, updH_other (by omega)]; rfl
    · rw [updH_same, updH_other (by omega)]; rfl
  · rw [(pa j).1, (pa j).2]
    exact (h.hs j hj).ch ch (by have := h.lg j hj; omega)
  · by_cases e : j = k
    · subst e
      rw [updH_same]
      exact ho.block (fun q hq => Below.heap_setCell _ _ _ _ (new4 q hq))
    · rw [updH_other e]
      exact (h.put j hj).ch ch (fun q hq => by have := h.lp j hj q hq; omega)
  · have h1 := h.fx q o ho'
    have hl := (Array.getElem?_eq_some_iff.1 h1.1).1
    exact ⟨(ch.block q hl (by omega)).trans h1.1, by rw [rel_old hl]; exact h1.2⟩
  · rw [(pa j).1]; exact h.ge j hj
  · rw [rel_old h.lt4]; exact l4
  · rw [(pa j).1, rel_old (h.hs j hj).glt]; exact h.lg j hj
  · by_cases e : j = k
    · subst e
      rw [updH_same] at hp
      rcases new p hp with h1 | h1
      · rw [rel_old ((h.put j hj).ge p h1).2]; exact h.lp j hj p h1
      · exact rel_new h1
    · rw [updH_other e] at hp
      rw [rel_old ((h.put j hj).ge p hp).2]; exact h.lp j hj p hp
theorem SP.c4 (h : SP w wr b4 E D lab) {k : Nat} (hk : k < 2) : wr.cell? ⟨b4, k, none⟩ = some (.slice (D k).pa (D k).pn (D k).pc) := by
  have h1 := h.h4
  have hk2 : k = 0 ∨ k = 1 := by omega
  rcases hk2 with rfl | rfl <;> simp [World.cell?, h1]
end
abbrev oO (x : Opt) (ab : Option Addr) (nb cb : Nat) : Obj := .cells #[.int .i64 x.kind, .int .i64 x.which, .slice ab nb cb] 35
structure Loc (w : World) (q : Nat) (x : Opt) (ab : Option Addr) (nb cb : Nat) : Prop where
  blk : w.heap[q]? = some (.cells #[.int .i64 x.kind, .int .i64 x.which, .slice ab nb cb] 35 (0, 0))
theorem Loc.c0 {w : World} {q : Nat} {x : Opt} {ab : Option Addr} {nb cb : Nat} (h : Loc w q x ab nb cb) : w.cell? ⟨q, 0, none⟩ = some (.int .i64 x.kind) := by have := h.blk; simp [World.cell?, this]
theorem Loc.c1 {w : World} {q : Nat} {x : Opt} {ab : Option Addr} {nb cb : Nat} (h : Loc w q x ab nb cb) : w.cell? ⟨q, 1, none⟩ = some (.int .i64 x.which) := by have := h.blk; simp [World.cell?, this]
theorem Loc.c2 {w : World} {q : Nat} {x : Opt} {ab : Option Addr} {nb cb : Nat} (h : Loc w q x ab nb cb) : w.cell? ⟨q, 2, none⟩ = some (.slice ab nb cb) := by have := h.blk; simp [World.cell?, this]
theorem SP.loc {w wr : World} {b4 q : Nat} {E : List (Nat × Obj)} {D : Nat → Hw} {lab : Nat → Nat} {x : Opt} {ab : Option Addr} {nb cb : Nat} (h : SP w wr b4 E D lab) (hq : (q, oO x ab nb cb) ∈ E) : Loc wr q x ab nb cb := ⟨(h.fx q _ hq).1⟩
/- what is known of hash k now -/
structure NowP (w wr : World) (b4 : Nat) (E : List (Nat × Obj)) (D : Nat → Hw) (lab : Nat → Nat) (k : Nat) (d : Hw) : Prop where
  st : SP w wr b4 E D lab
  eq : D k = d
section
variable {w wr wr' : World} {b4 k : Nat} {E : List (Nat × Obj)} {D : Nat → Hw} {lab : Nat → Nat} {d : Hw}
theorem NowP.hs (h : NowP w wr b4 E D lab k d) (hk : k < 2) : HS wr d.g d.X := by rw [← h.eq]; exact h.st.hs k hk
theorem NowP.own (h : NowP w wr b4 E D lab k d) (hk : k < 2) : Own wr w.heap.size d.pa d.pn d.pc d.P := by rw [← h.eq]; exact h.st.put k hk
theorem NowP.c4 (h : NowP w wr b4 E D lab k d) (hk : k < 2) : wr.cell? ⟨b4, k, none⟩ = some (.slice d.pa d.pn d.pc) := by rw [← h.eq]; exact h.st.c4 hk
theorem NowP.below (h : NowP w wr b4 E D lab k d) (hb : Below wr.heap.size wr wr') : NowP w wr' b4 E D lab k d := ⟨h.st.below hb, h.eq⟩
theorem NowP.h (h : NowP w wr b4 E D lab k d) (hk : k < 2) {X' : List Nat} (hh : HS wr' d.g X') (f : But d.g wr wr') : NowP w wr' b4 E (updH D k { d with X := X' }) lab k { d with X := X' } := by
  have e := h.eq
  subst e
  exact ⟨h.st.hstep hk hh f, updH_same _ _ _⟩
theorem NowP.p {q : Nat} {Y : List Nat} {x : Opt} {ab : Option Addr} {nb cb : Nat} (h : NowP w wr b4 E D lab k d) (hk : k < 2) (hq : (q, oO x ab nb cb) ∈ E) (hY : Sln wr ab nb Y) (hz : ab = none → cb = 0) (hb : d.pn + nb ≤ 140737488352256) :
    ∃ a8 c8 w8, (Builtin.append_ #[22, 22] 22 #[.slice d.pa d.pn d.pc, .slice ab nb cb]).run Tryd.prog wr = .ok (.slice a8 (d.pn + nb) c8) w8 ∧ (w8.cell? ⟨b4, k, none⟩ = some (.slice d.pa d.pn d.pc) ∧ Loc w8 q x ab nb cb ∧ w8.frozen? ⟨b4, k, none⟩ = false) ∧
      NowP w (w8.setCell ⟨b4, k, none⟩ (.slice a8 (d.pn + nb) c8)) b4 E (updH D k { d with pa := a8, pn := d.pn + nb, pc := c8, P := d.P ++ Y }) (rel wr.heap.size (7 + k) lab) k { d with pa := a8, pn := d.pn + nb, pc := c8, P := d.P ++ Y } ∧ Ch wr (w8.setCell ⟨b4, k, none⟩ (.slice a8 (d.pn + nb) c8)) (fun j => lab j = 7 + k ∨ lab j = 1) := by
  have e := h.eq
  subst e
  have P7 := h.st.put k hk
  obtain ⟨a8, c8, w8, hrun, own8, gr8, new8⟩ := app_any (c2 := cb) P7 hY hz hb h.st.bel.size
  have lpk := h.st.lp k hk
  have l4 := h.st.l4
  have c4 := h.st.c4 hk
  have e4 := gr8.block b4 h.st.lt4 (fun e => by have := lpk b4 e.symm; omega)
  have hql := (h.st.fx q _ hq).2
  have L7 := h.st.loc hq
  have eq := gr8.block q (Array.getElem?_eq_some_iff.1 L7.blk).1 (fun e => by have := lpk q e.symm; omega)
  refine ⟨a8, c8, w8, hrun, ⟨(World.cell?_of_block (w := wr) e4).trans c4, ⟨eq.trans L7.blk⟩, fz (e4.trans h.st.h4) k⟩, ⟨h.st.pstep hk own8 (Ch.grown gr8) new8, updH_same _ _ _⟩, ?_⟩
  exact (((Ch.grown gr8).trans (Ch.set w8 b4 k _)).weak (fun j _ h => h.imp (fun e => lpk j e) (fun e => by rw [e]; exact l4)))
end
structure InvP (Gs : Nat → Nat) (bd : Nat) (D : Nat → Hw) : Prop where
  g : ∀ j, j < 2 → (D j).g = Gs j
  P : ∀ j, j < 2 → (D j).P = (D j).X
  n : ∀ j, j < 2 → (D j).pn ≤ bd
theorem InvP.upd {Gs : Nat → Nat} {bd bd' k : Nat} {D : Nat → Hw} {d : Hw} (h : InvP Gs bd D) (hb : bd ≤ bd') (h1 : d.g = Gs k) (h2 : d.P = d.X) (h4 : d.pn ≤ bd') : InvP Gs bd' (updH D k d) := by
  refine ⟨fun j hj => ?_, fun j hj => ?_, fun j hj => ?_⟩ <;> by_cases e : j = k
  · subst e; rw [updH_same]; exact h1
  · rw [updH_other e]; exact h.g j hj
  · subst e; rw [updH_same]; exact h2
  · rw [updH_other e]; exact h.P j hj
  · subst e; rw [updH_same]; exact h4
  · rw [updH_other e]; exact Nat.le_trans (h.n j hj) hb
theorem InvP.more {Gs : Nat → Nat} {bd bd' : Nat} {D : Nat → Hw} (h : InvP Gs bd D) (hb : bd ≤ bd') : InvP Gs bd' D := ⟨h.g, h.P, fun j hj => Nat.le_trans (h.n j hj) hb⟩
theorem end_roundP {w wr : World} {b4 k bd bd' : Nat} {Gs : Nat → Nat} {E : List (Nat × Obj)} {y : Nat × Obj} {D D' : Nat → Hw} {lab : Nat → Nat} {d : Hw} (h : SP w wr b4 (y :: E) D' lab) (he : D' = updH D k d) (hi : InvP Gs bd D) (hb : bd ≤ bd') (h1 : d.g = Gs k) (h2 : d.P = d.X) (h4 : d.pn ≤ bd') : ∃ (D : Nat → Hw) (lab : Nat → Nat), SP w wr b4 E D lab ∧ InvP Gs bd' D := by
  subst he
  exact ⟨_, _, h.less (fun z hz => List.mem_cons_of_mem _ hz), hi.upd hb h1 h2 h4⟩
abbrev ptrs (g0 g1 : Nat) : Obj := .cells #[.pointer (some ⟨g0, 0, none⟩), .pointer (some ⟨g1, 0, none⟩)] 32
theorem ptrs_cell {w : World} {b g0 g1 k : Nat} (h : w.heap[b]? = some (ptrs g0 g1)) (hk : k < 2) : w.cell? ⟨b, k, none⟩ = some (.pointer (some ⟨if k = 0 then g0 else g1, 0, none⟩)) := by
  have hk2 : k = 0 ∨ k = 1 := by omega
  rcases hk2 with rfl | rfl <;> simp [World.cell?, h]
def D00 (g0 g1 : Nat) : Nat → Hw := fun k => ⟨if k = 0 then g0 else g1, [], none, 0, 0, []⟩
theorem sp_begin {w w3 : World} {g0 g1 : Nat} (B3 : Below w.heap.size w w3) (h0 : HS w3 g0 []) (h1 : HS w3 g1 []) (ge0 : w.heap.size ≤ g0) (ge1 : g0 < g1) : SP w ((w3.alloc (ptrs g0 g1)).alloc (.cells #[.slice none 0 0, .slice none 0 0] 33)) (w3.heap.size + 1) [(w3.heap.size, ptrs g0 g1)] (D00 g0 g1) (fun p => if p = g0 then 3 else if p = g1 then 4 else if p = w3.heap.size then 0 else 1) := by
  have hs := B3.size
  have bl : Below w3.heap.size w3 ((w3.alloc (ptrs g0 g1)).alloc (.cells #[.slice none 0 0, .slice none 0 0] 33)) := ((Below.refl _ _).alloc (Nat.le_refl _) _).alloc (by simp) _
  have l0 := h0.glt
  have l1 := h1.glt
  refine ⟨B3.trans (bl.mono hs), blk_new _ (by simp), fun k hk => ?_, fun k hk => Own.nil _ _, fun q o ho => ?_, fun k hk => ?_, by omega, ?_, fun k hk => ?_, fun k hk p hp => by simp [D00, blkOf] at hp⟩
  · have hk2 : k = 0 ∨ k = 1 := by omega
    rcases hk2 with rfl | rfl
    · exact h0.ch (Ch.below bl) id
    · exact h1.ch (Ch.below bl) id
  · simp only [List.mem_cons, List.not_mem_nil, or_false, Prod.mk.injEq] at ho
    obtain ⟨rfl, rfl⟩ := ho
    exact ⟨blk_keep (blk_new _ rfl) _, by rw [if_neg (by omega), if_neg (by omega), if_pos rfl]⟩
  · have hk2 : k = 0 ∨ k = 1 := by omega
    rcases hk2 with rfl | rfl
    · exact ge0
    · show _ ≤ g1; omega
  · rw [if_neg (by omega), if_neg (by omega), if_neg (by omega)]
  · have hk2 : k = 0 ∨ k = 1 := by omega
    rcases hk2 with rfl | rfl
    · show (if g0 = g0 then 3 else _) = _; rw [if_pos rfl]
    · show (if g1 = g0 then 3 else if g1 = g1 then 4 else _) = _; rw [if_neg (by omega), if_pos rfl]
end Go.Proofs.YtnckcaaejfckaaaDoor
