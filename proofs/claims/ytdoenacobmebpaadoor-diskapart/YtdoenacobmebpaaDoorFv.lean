/- A range over a function whose iterator keeps cells of its own, laid between the loop's beginning and a bound Z: the caller may change and make what lies behind Z. -/
import Derived.Test.YtdoenacobmebpaaDoorDf
import Derived.RangeFuncNested
import Derived.RangeFuncBound
import Derived.RangeFuncCalls
import Derived.RangeFuncLeaves
import Derived.Shelf.Abstract
import Derived.Shelf.RegionOpen
import Derived.WalkKit
import Derived.OwnWalkIn
import Derived.TacticsInMore
import Derived.LoopNIn
import Derived.LoopIn
namespace Go.Proofs.YtdoenacobmebpaaDoor
open Go.RowKit Go.Shelf
set_option linter.unusedVariables false
theorem put_below {m k : Nat} {W : World} (o : Obj) (h : m ≤ k) (hk : k < W.heap.size) : Below m W (W.putObj k o) :=
  (Below.refl m W).grown (grownBy_putObj' W k o) (by omega) (fun j e => by cases e; omega)
/- all but the blocks from lo to hi is as it was -/
structure Slack (lo hi : Nat) (A B : World) : Prop where
  bel : Below lo A B
  top : ∀ b, hi ≤ b → b < A.heap.size → B.heap[b]? = A.heap[b]?
theorem Slack.mono {lo hi lo' hi' : Nat} {A B : World} (h : Slack lo hi A B) (h1 : lo' ≤ lo) (h2 : hi ≤ hi') : Slack lo' hi' A B := ⟨h.bel.mono h1, fun b hb => h.top b (by omega)⟩
theorem Slack.trans {lo hi : Nat} {A B D : World} (h : Slack lo hi A B) (k : Slack lo hi B D) : Slack lo hi A D := ⟨h.bel.trans k.bel, fun b hb hl => (k.top b hb (by have := h.bel.size; omega)).trans (h.top b hb hl)⟩
theorem Slack.of_below {lo hi : Nat} {A B : World} (h : Below A.heap.size A B) (h1 : lo ≤ A.heap.size) : Slack lo hi A B := ⟨h.mono h1, fun b _ hl => h.block b hl⟩
theorem Slack.start {lo hi : Nat} {A B : World} (h : Below lo A B) (h1 : A.heap.size ≤ hi) : Slack lo hi A B := ⟨h, fun b h2 h3 => by omega⟩
theorem Slack.put {lo hi k : Nat} {W : World} (o : Obj) (h : lo ≤ k) (h2 : k < hi) (hk : k < W.heap.size) : Slack lo hi W (W.putObj k o) := ⟨put_below o h hk, fun b hb _ => World.putObj_heap_other (by omega)⟩
theorem Slack.set {lo hi : Nat} {p : Addr} (W : World) (v : Value) (h : lo ≤ p.block) (h2 : p.block < hi) : Slack lo hi W (W.setCell p v) := ⟨(Below.refl _ W).setCell h v, fun b hb _ => Below.heap_setCell W p v b (by omega)⟩
theorem Slack.block {lo hi : Nat} {A B : World} (h : Slack lo hi A B) {b : Nat} (hb : b < A.heap.size) (h1 : b < lo ∨ hi ≤ b) : B.heap[b]? = A.heap[b]? := h1.elim (h.bel.block b) (fun h2 => h.top b h2 hb)
/- what a round keeps: all below Z but the caller's blocks C -/
structure KeepC (C : Nat → Prop) (m Z : Nat) (A B : World) : Prop where
  size : A.heap.size ≤ B.heap.size
  same : ∀ (b : Nat) (o : Obj), A.heap[b]? = some o → b < Z → ¬ C b → (o.isCells = true ∨ m ≤ b) → B.heap[b]? = some o
/- the iterator's contract -/
def SeqC {α : Type} (F : Fence) (n : Nat) (P : Program) (g : Nat) (lb : Array Value) (encs : α → Array Value) (Gd : Nat → List α → α → World → Prop) (C : Nat → Prop) (S Sp : List α → Prop) (w : World) : Prop :=
  ∀ (l : Nat) (J Jx : Nat → List α → World → Prop) (W : World), Below w.heap.size w W →
    (∀ Z s A B, W.heap.size ≤ Z → J Z s A → Slack W.heap.size Z A B → J Z s B) → (∀ Z s A B, W.heap.size ≤ Z → Jx Z s A → Slack W.heap.size Z A B → Jx Z s B) →
    (∀ Z pre x A, W.heap.size ≤ Z → Z ≤ A.heap.size → J Z pre A → Gd Z pre x A → YieldAt F (n - 1) P l (encs x) A fun e B =>
      (e = .returned (.bool true) ∧ J Z (pre ++ [x]) B ∧ KeepC C W.heap.size Z A B) ∨ (e = .returned (.bool false) ∧ Jx Z (pre ++ [x]) B ∧ KeepC C W.heap.size Z A B)) →
    (∀ Z, W.heap.size ≤ Z → J Z [] W) → CallsIn F n P g (#[.func (.yield l) #[] #[]] ++ lb) W fun e W' => (∃ v, e = .returned v) ∧ ∃ Z, W.heap.size ≤ Z ∧ ((∃ xs, S xs ∧ J Z xs W') ∨ (∃ pre, Sp pre ∧ Jx Z pre W'))
/- how a round's body may end -/
def postC {α : Type} (C : Nat → Prop) (m Z : Nat) (I : List α → World → Prop) (Ix : Code → List α → World → Prop) (xs : List α) (W : World) : Exit → Act → World → Prop
  | .normal, _, W' => KeepC C m Z W W' ∧ I xs W'
  | .ret, _, W' => KeepC C m Z W W' ∧ Ix .ret xs W'
  | .exit id, _, W' => KeepC C m Z W W' ∧ Ix (.exit id) xs W'
  | .goto t, _, W' => KeepC C m Z W W' ∧ Ix (.goto t) xs W'
  | .panic _, _, _ => False
  | .outgrown, _, _ => False
variable {F : Fence} {n : Nat} {P : Program}
theorem rangeC {α : Type} {g : Operand} {ps : Array Tmp} {assign body : Code} {Q : Exit → Act → World → Prop} {a : Act} {w : World}
    (hro : F.round = none) (h1 : 1 ≤ n) {gf : Nat} {lb : Array Value} (hg : a.eval g = .func (.func gf) #[] lb) (hFg : F.fn gf) (eg : ∀ args w, (callFunc gf args).run P w = .ok (.enter gf args) w)
    {encs : α → Array Value} {Gd : Nat → List α → α → World → Prop} {C : Nat → Prop} {S Sp : List α → Prop} {w0 : World} (hseq : SeqC F (n - 1) P gf lb encs Gd C S Sp w0) (hb0 : Below w0.heap.size w0 w) (hps : ∀ x, (encs x).size = ps.size)
    (hC : ∀ b, C b → b < w.heap.size)
    (hGd : ∀ Z pre x A k o', k < Z → Gd Z pre x A → Gd Z pre x (A.putObj k o'))
    (I : Nat → List α → World → Prop) (Ix : Nat → Code → List α → World → Prop) (hI : ∀ Z s A B, w.heap.size + 2 ≤ Z → I Z s A → Slack w.heap.size Z A B → I Z s B) (hIx : ∀ Z c s A B, w.heap.size + 2 ≤ Z → Ix Z c s A → Slack w.heap.size Z A B → Ix Z c s B) (h0 : ∀ Z, w.heap.size + 2 ≤ Z → I Z [] w) (a₁ : α → Act)
    (hassign : ∀ (l : Nat) (x : α) (W : World) (K : Act → World → Prop), K (a₁ x) W →
      assign.wpIn (F.inRound l) (n - 1 - 1) P (Exit.then K (fun _ _ _ => False)) { tmps := (ps.zip (encs x)).foldl (fun t (p, v) => t.setIfInBounds p v) a.tmps, defers := [] } W)
    (hbody : ∀ (l Z : Nat) (pre : List α) (x : α) (W : World), w.heap.size + 2 ≤ Z → Z ≤ W.heap.size → I Z pre W → Gd Z pre x W → body.wpIn (F.inRound l) (n - 1 - 1) P (postC C w.heap.size Z (I Z) (Ix Z) (pre ++ [x]) W) (a₁ x) W)
    (hdone : ∀ (D Z : Nat) (xs : List α) (W : World), w.heap.size ≤ D → D + 2 ≤ Z → S xs → I Z xs W → W.heap[D]? = some (.deferred (some [])) → Q .normal { a with defers := { target := .collected D, args := #[] } :: a.defers } W)
    (hstop : ∀ (D Z : Nat) (c : Code) (pre : List α) (W : World), w.heap.size ≤ D → D + 2 ≤ Z → Sp pre → Ix Z c pre W → W.heap[D]? = some (.deferred (some [])) → c.wpIn F n P Q { a with defers := { target := .collected D, args := #[] } :: a.defers } W) :
    (Code.rangeFunc g ps assign body).wpIn F n P Q a w := by
  refine wpIn_rangeFunc fun fn hfn => ?_
  rw [hro]
  obtain ⟨R, hR⟩ : ∃ R : LoopState → Option Code → Loop, R = fun st pe => { state := st, pending := pe, fn, tmps := a.tmps, params := ps, assign, body, defers := w.heap.size } := ⟨_, rfl⟩
  obtain ⟨D, hD⟩ : ∃ D, D = w.heap.size := ⟨_, rfl⟩
  obtain ⟨V, hV⟩ : ∃ V, V = (w.alloc (.deferred (some []))).alloc (.loop (R .ready none)) := ⟨_, rfl⟩
  have sV : V.heap.size = D + 2 := by rw [hV, hD]; simp
  have bV : Below D w V := by rw [hV]; exact ((Below.refl _ w).alloc (by omega) _).alloc (by simp; omega) _
  have lV : V.heap[D + 1]? = some (.loop (R .ready none)) := by
    have e := World.alloc_heap_new (w.alloc (.deferred (some []))) (.loop (R .ready none))
    rw [World.size_alloc, ← hV, ← hD] at e
    exact e
  have dV : V.heap[D]? = some (.deferred (some [])) := by
    rw [hV, hD]; exact (Below.heap_alloc _ _ _ (by simp)).trans (World.alloc_heap_new w _)
  rw [← hD] at hC hI hIx h0 hbody hdone hstop
  refine ⟨D + 1, [{ target := .collected D, args := #[] }], V, { target := .fn (.func gf) lb, args := #[.func (.yield (D + 1)) #[] #[]] }, V, gf, #[.func (.yield (D + 1)) #[] #[]] ++ lb, V, ?_, ?_, ?_, ?_, fun _ => h1, ?_⟩
  · rw [hV, hR, hD]; exact run_enterLoop_outer _ _ _ _ _
  · simp only [resolve, hg]
    simp [go_sem]
  · intro f' hf'; simp [Target.leads] at hf'; subst hf'; exact hFg
  · simp [invoke, go_sem, eg]
  · have cut : ∀ {Z : Nat} {A B : World}, Slack V.heap.size Z A B → Slack D Z A B := fun h => h.mono (by omega) (Nat.le_refl _)
    refine (hseq (D + 1)
      (fun Z pre W => I Z pre W ∧ W.heap[D + 1]? = some (.loop (R .ready none)) ∧ W.heap[D]? = some (.deferred (some [])))
      (fun Z pre W => ∃ c, Ix Z c pre W ∧ W.heap[D + 1]? = some (.loop (R .done (some c))) ∧ W.heap[D]? = some (.deferred (some [])))
      V (hb0.trans ((hD ▸ bV).mono hb0.size))
      (fun Z s A B hZ hs hb => ⟨hI Z s A B (by omega) hs.1 (cut hb), (hb.bel.block _ (by omega)).trans hs.2.1, (hb.bel.block _ (by omega)).trans hs.2.2⟩)
      (fun Z s A B hZ hs hb => by
        obtain ⟨c, h2, h3, h4⟩ := hs
        exact ⟨c, hIx Z c s A B (by omega) h2 (cut hb), (hb.bel.block _ (by omega)).trans h3, (hb.bel.block _ (by omega)).trans h4⟩)
      ?_ (fun Z hZ => ⟨hI Z _ _ _ (by omega) (h0 Z (by omega)) (Slack.start bV (by omega)), lV, dV⟩)).mono ?_
    · rintro Z pre x W hZ hZW ⟨hi, hl, hk⟩ hx
      rw [sV] at hZ ⊢
      have lt1 : D + 1 < W.heap.size := (Array.getElem?_eq_some_iff.1 hl).1
      have hy := run_yield (P := P) (args := encs x) hl (by rw [hR]; exact hps x)
      rw [hR] at hy
      refine ⟨fn, _, assign, body, hy, roundIn_of_wpIn hfn (hassign _ x W _ ⟨_, run_beginRound hl (by rw [hR]), ?_⟩)⟩
      obtain ⟨W2, hW2⟩ : ∃ W2, W2 = W.putObj (D + 1) (.loop { R .ready none with state := .busy }) := ⟨_, rfl⟩
      rw [← hW2]
      have l2 : W2.heap[D + 1]? = some (.loop { R .ready none with state := .busy }) := by rw [hW2]; exact World.putObj_heap_same lt1
      have o2 : ∀ b, b ≠ D + 1 → W2.heap[b]? = W.heap[b]? := fun b hb => by rw [hW2]; exact World.putObj_heap_other (by omega)
      have s2 : W2.heap.size = W.heap.size := by rw [hW2]; simp
      have i2 : I Z pre W2 := by rw [hW2]; exact hI Z _ _ _ hZ hi (Slack.put _ (by omega) (by omega) lt1)
      have g2 : Gd Z pre x W2 := by rw [hW2]; exact hGd Z pre x W (D + 1) _ (by omega) hx
      have cD : ¬ C D := fun e => by have := hC D e; omega
      have cL : ¬ C (D + 1) := fun e => by have := hC _ e; omega
      refine wpIn_mono (hbody _ Z pre x W2 hZ (by omega) i2 g2) ?_
      have fin : ∀ (j : Option Code) (W3 : World), KeepC C D Z W2 W3 →
          ∃ W4, (Instr.endRound (D + 1) j).run P W3 = .ok (.bool j.isNone) W4 ∧ Slack D Z W3 W4 ∧ W4.heap[D + 1]? = some (.loop (R (if j.isNone then .ready else .done) j)) ∧ W4.heap[D]? = some (.deferred (some [])) ∧ KeepC C (D + 2) Z W W4 := by
        intro j W3 k3
        have l3 := k3.same _ _ l2 (by omega) cL (.inr (by omega))
        have d3 := k3.same D _ ((o2 D (by omega)).trans hk) (by omega) cD (.inr (by omega))
        have lt3 : D + 1 < W3.heap.size := (Array.getElem?_eq_some_iff.1 l3).1
        have e3 := run_endRound (P := P) j l3
        refine ⟨_, e3, Slack.put _ (by omega) (by omega) lt3, ?_, (World.putObj_heap_other (by omega)).trans d3, ⟨?_, ?_⟩⟩
        · rw [World.putObj_heap_same lt3, hR]
        · have := k3.size; rw [s2] at this; simpa using this
        · intro b o hb hbZ hcb hor
          have nb : b ≠ D + 1 := fun e => by
            subst e
            rw [hl] at hb
            cases hb
            rcases hor with h | h
            · cases h
            · omega
          rw [World.putObj_heap_other (by omega)]
          exact k3.same b o ((o2 b nb).trans hb) hbZ hcb (hor.imp id (by omega))
      rintro e a3 W3 hp
      cases e with
      | normal =>
        obtain ⟨k3, i3⟩ := hp
        obtain ⟨W4, e4, b4, l4, d4, k4⟩ := fin none W3 k3
        exact ⟨_, _, e4, .inl ⟨rfl, ⟨hI Z _ _ _ hZ i3 b4, l4, d4⟩, k4⟩⟩
      | ret =>
        obtain ⟨k3, i3⟩ := hp
        obtain ⟨W4, e4, b4, l4, d4, k4⟩ := fin (some .ret) W3 k3
        exact ⟨_, _, e4, .inr ⟨rfl, ⟨.ret, hIx Z _ _ _ _ hZ i3 b4, l4, d4⟩, k4⟩⟩
      | exit id =>
        obtain ⟨k3, i3⟩ := hp
        obtain ⟨W4, e4, b4, l4, d4, k4⟩ := fin (some (.exit id)) W3 k3
        exact ⟨_, _, e4, .inr ⟨rfl, ⟨.exit id, hIx Z _ _ _ _ hZ i3 b4, l4, d4⟩, k4⟩⟩
      | goto t =>
        obtain ⟨k3, i3⟩ := hp
        obtain ⟨W4, e4, b4, l4, d4, k4⟩ := fin (some (.goto t)) W3 k3
        exact ⟨_, _, e4, .inr ⟨rfl, ⟨.goto t, hIx Z _ _ _ _ hZ i3 b4, l4, d4⟩, k4⟩⟩
      | panic c => exact hp.elim
      | outgrown => exact hp.elim
    · have last : ∀ {Z : Nat} (hZ : D + 2 ≤ Z) {W2 : World} {st : LoopState} {pe : Option Code}, W2.heap[D + 1]? = some (.loop (R st pe)) → st ≠ .busy → W2.heap[D]? = some (.deferred (some [])) →
          ∃ W3, (Instr.endLoop (D + 1)).run P W2 = .ok pe W3 ∧ Slack D Z W2 W3 ∧ W3.heap[D]? = some (.deferred (some [])) := by
        intro Z hZ W2 st pe hl hst hk
        have lt2 : D + 1 < W2.heap.size := (Array.getElem?_eq_some_iff.1 hl).1
        have e2 := run_endLoop (P := P) hl (by rw [hR]; exact hst)
        have ep : (R st pe).pending = pe := by rw [hR]
        rw [ep] at e2
        exact ⟨_, e2, Slack.put _ (by omega) (by omega) lt2, (World.putObj_heap_other (by omega)).trans hk⟩
      rintro e W2 ⟨⟨v, rfl⟩, Z, hZ, (⟨xs, hS, hi, hl, hk⟩ | ⟨pre, hSp, c, hi, hl, hk⟩)⟩
      · obtain ⟨W3, e3, b3, d3⟩ := last (Z := Z) (by omega) hl (by simp) hk
        exact ⟨none, _, e3, hdone D Z xs _ (Nat.le_refl _) (by omega) hS (hI Z _ _ _ (by omega) hi b3) d3⟩
      · obtain ⟨W3, e3, b3, d3⟩ := last (Z := Z) (by omega) hl (by simp) hk
        exact ⟨some c, _, e3, hstop D Z c pre _ (Nat.le_refl _) (by omega) hSp (hIx Z _ _ _ _ (by omega) hi b3) d3⟩
theorem KeepC.cell {C : Nat → Prop} {m Z : Nat} {A B : World} (h : KeepC C m Z A B) {p : Addr} {v : Value} (hp : A.cell? p = some v) (h0 : p.block < Z) (h1 : ¬ C p.block) : B.cell? p = some v := by
  obtain ⟨o, h3, h4⟩ := cells_of_cell hp
  exact (World.cell?_of_block ((h.same _ _ h3 h0 h1 (.inl h4)).trans h3.symm)).trans hp
theorem KeepC.refl (C : Nat → Prop) (m Z : Nat) (A : World) : KeepC C m Z A A := ⟨Nat.le_refl _, fun _ _ h _ _ _ => h⟩
theorem KeepC.trans {C : Nat → Prop} {m Z : Nat} {A B D : World} (h : KeepC C m Z A B) (k : KeepC C m Z B D) : KeepC C m Z A D := ⟨Nat.le_trans h.size k.size, fun b o h1 h2 h3 h4 => k.same b o (h.same b o h1 h2 h3 h4) h2 h3 h4⟩
theorem KeepC.of_below (C : Nat → Prop) (m Z : Nat) {A B : World} (h : Below A.heap.size A B) : KeepC C m Z A B := ⟨h.size, fun b o h1 _ _ _ => (h.block b (Array.getElem?_eq_some_iff.1 h1).1).trans h1⟩
theorem KeepC.of_grown {C : Nat → Prop} {r : Nat} (m Z : Nat) {A B : World} (h : A.grownBy B (some r)) (hr : C r ∨ Z ≤ r) : KeepC C m Z A B :=
  ⟨h.size, fun b o h1 h0 h2 _ => (h.block b (Array.getElem?_eq_some_iff.1 h1).1 (fun e => by cases e; exact hr.elim h2 (by omega))).trans h1⟩
theorem KeepC.of_set {C : Nat → Prop} (m Z : Nat) (A : World) (p : Addr) (v : Value) (hr : C p.block ∨ Z ≤ p.block) : KeepC C m Z A (A.setCell p v) :=
  ⟨(KeepsOthers.setCell A p v).size, fun b o h1 h0 h2 _ => (Below.heap_setCell A p v b (fun e => by subst e; exact hr.elim h2 (by omega))).trans h1⟩
theorem yield_any {m m' l : Nat} {P : Program} {args : Array Value} {W : World} {R : Ending → World → Prop} (h : YieldAt Fence.wide m P l args W R) : YieldAt Fence.wide m' P l args W R := by
  obtain ⟨fn, tmps, assign, body, hy, hR⟩ := h
  exact ⟨fn, tmps, assign, body, hy, hR.1, fun c cs _ => hR.2 c cs (fun d e => by cases e)⟩
theorem Boxed.blk {W V : World} {B : Nat} {t : TypeId} {v : Value} (h : Boxed W B t v) (e : V.heap[B]? = W.heap[B]?) : Boxed V B t v := e.trans h
theorem boxed_at {W : World} {B D : Nat} {t : TypeId} {v : Value} {o : Obj} (h : Boxed W B t v) (hD : B ≠ D) : Boxed (W.putObj D o) B t v := (World.putObj_heap_other (by omega)).trans h
end Go.Proofs.YtdoenacobmebpaaDoor
