import Derived.RangeFuncNested
import Derived.RangeFuncBound
import Derived.RangeFuncCalls
import Derived.RangeFuncLeaves
import Derived.Shelf.Abstract
import Derived.Shelf.RegionOpen
import Derived.WalkKit
import Derived.OwnWalkIn
import Derived.TacticsInMore
import Derived.LoopNIn
import Derived.LoopIn
/- Fr -/
/- A range over a function whose iterator keeps cells of its own and hands over blocks of its own: what the caller's loop owes, and what it may lean on. -/
namespace Go.Proofs.YtkdgakcmhnadfaaGreatDoor
open Go.RowKit Go.Shelf
set_option linter.unusedVariables false
/- what a round keeps: all but the caller's blocks C and the element's block -/
structure KeepB (C : Nat → Prop) (m : Nat) (bx : Option Nat) (A B : World) : Prop where
  size : A.heap.size ≤ B.heap.size
  same : ∀ (b : Nat) (o : Obj), A.heap[b]? = some o → ¬ C b → bx ≠ some b → (o.isCells = true ∨ m ≤ b) → B.heap[b]? = some o
/- the iterator's contract -/
def SeqB {α : Type} (F : Fence) (n : Nat) (P : Program) (g : Nat) (lb : Array Value) (encs : α → Array Value) (bx : α → Option Nat) (Gd : Nat → List α → α → World → Prop) (C : Nat → Prop) (S Sp : List α → Prop) (w : World) : Prop :=
  ∀ (l : Nat) (J Jx : List α → World → Prop) (W : World), Below w.heap.size w W →
    (∀ s A B, J s A → Below W.heap.size A B → J s B) → (∀ s A B, Jx s A → Below W.heap.size A B → Jx s B) →
    (∀ pre x A, J pre A → Gd W.heap.size pre x A → YieldAt F (n - 1) P l (encs x) A fun e B =>
      (e = .returned (.bool true) ∧ J (pre ++ [x]) B ∧ KeepB C W.heap.size (bx x) A B) ∨ (e = .returned (.bool false) ∧ Jx (pre ++ [x]) B ∧ KeepB C W.heap.size (bx x) A B)) →
    J [] W → CallsIn F n P g (#[.func (.yield l) #[] #[]] ++ lb) W fun e W' => (∃ v, e = .returned v) ∧ ((∃ xs, S xs ∧ J xs W') ∨ (∃ pre, Sp pre ∧ Jx pre W'))
/- how a round's body may end -/
def postB {α : Type} (C : Nat → Prop) (m : Nat) (bx : Option Nat) (I : List α → World → Prop) (Ix : Code → List α → World → Prop) (xs : List α) (W : World) : Exit → Act → World → Prop
  | .normal, _, W' => KeepB C m bx W W' ∧ I xs W'
  | .ret, _, W' => KeepB C m bx W W' ∧ Ix .ret xs W'
  | .exit id, _, W' => KeepB C m bx W W' ∧ Ix (.exit id) xs W'
  | .goto t, _, W' => KeepB C m bx W W' ∧ Ix (.goto t) xs W'
  | .panic _, _, _ => False
  | .outgrown, _, _ => False
theorem put_below {m k : Nat} {W : World} (o : Obj) (h : m ≤ k) (hk : k < W.heap.size) : Below m W (W.putObj k o) :=
  (Below.refl m W).grown (grownBy_putObj' W k o) (by omega) (fun j e => by cases e; omega)
variable {F : Fence} {n : Nat} {P : Program}
theorem rangeB {α : Type} {g : Operand} {ps : Array Tmp} {assign body : Code} {Q : Exit → Act → World → Prop} {a : Act} {w : World}
    (hro : F.round = none) (h1 : 1 ≤ n) {gf : Nat} {lb : Array Value} (hg : a.eval g = .func (.func gf) #[] lb) (hFg : F.fn gf) (eg : ∀ args w, (callFunc gf args).run P w = .ok (.enter gf args) w)
    {encs : α → Array Value} {bx : α → Option Nat} {Gd : Nat → List α → α → World → Prop} {C : Nat → Prop} {S Sp : List α → Prop} {w0 : World} (hseq : SeqB F (n - 1) P gf lb encs bx Gd C S Sp w0) (hb0 : Below w0.heap.size w0 w) (hps : ∀ x, (encs x).size = ps.size)
    (hC : ∀ b, C b → b < w.heap.size) (hbx : ∀ pre x A b, Gd (w.heap.size + 2) pre x A → bx x = some b → w.heap.size + 2 ≤ b)
    (hGd : ∀ pre x A k o', k < w.heap.size + 2 → Gd (w.heap.size + 2) pre x A → Gd (w.heap.size + 2) pre x (A.putObj k o'))
    (I : List α → World → Prop) (Ix : Code → List α → World → Prop) (hI : ∀ s A B, I s A → Below w.heap.size A B → I s B) (hIx : ∀ c s A B, Ix c s A → Below w.heap.size A B → Ix c s B) (h0 : I [] w) (a₁ : α → Act)
    (hassign : ∀ (l : Nat) (x : α) (W : World) (K : Act → World → Prop), K (a₁ x) W →
      assign.wpIn (F.inRound l) (n - 1 - 1) P (Exit.then K (fun _ _ _ => False)) { tmps := (ps.zip (encs x)).foldl (fun t (p, v) => t.setIfInBounds p v) a.tmps, defers := [] } W)
    (hbody : ∀ (l : Nat) (pre : List α) (x : α) (W : World), w.heap.size + 2 ≤ W.heap.size → I pre W → Gd (w.heap.size + 2) pre x W → body.wpIn (F.inRound l) (n - 1 - 1) P (postB C w.heap.size (bx x) I Ix (pre ++ [x]) W) (a₁ x) W)
    (hdone : ∀ (D : Nat) (xs : List α) (W : World), w.heap.size ≤ D → S xs → I xs W → W.heap[D]? = some (.deferred (some [])) → Q .normal { a with defers := { target := .collected D, args := #[] } :: a.defers } W)
    (hstop : ∀ (D : Nat) (c : Code) (pre : List α) (W : World), w.heap.size ≤ D → Sp pre → Ix c pre W → W.heap[D]? = some (.deferred (some [])) → c.wpIn F n P Q { a with defers := { target := .collected D, args := #[] } :: a.defers } W) :
    (Code.rangeFunc g ps assign body).wpIn F n P Q a w := by
  refine wpIn_rangeFunc fun fn hfn => ?_
  rw [hro]
  obtain ⟨R, hR⟩ : ∃ R : LoopState → Option Code → Loop, R = fun st pe => { state := st, pending := pe, fn, tmps := a.tmps, params := ps, assign, body, defers := w.heap.size } := ⟨_, rfl⟩
  obtain ⟨D, hD⟩ : ∃ D, D = w.heap.size := ⟨_, rfl⟩
  obtain ⟨V, hV⟩ : ∃ V, V = (w.alloc (.deferred (some []))).alloc (.loop (R .ready none)) := ⟨_, rfl⟩
  have sV : V.heap.size = D + 2 := by rw [hV, hD]; simp
  have bV : Below D w V := by rw [hV]; exact ((Below.refl _ w).alloc (by omega) _).alloc (by simp; omega) _
  have lV : V.heap[D + 1]? = some (.loop (R .ready none)) := by
    have e := World.alloc_heap_new (w.alloc (.deferred (some []))) (.loop (R .ready none))
    rw [World.size_alloc, ← hV, ← hD] at e
    exact e
  have dV : V.heap[D]? = some (.deferred (some [])) := by
    rw [hV, hD]; exact (Below.heap_alloc _ _ _ (by simp)).trans (World.alloc_heap_new w _)
  rw [← hD] at hC hbx hGd hI hIx hbody hdone hstop
  refine ⟨D + 1, [{ target := .collected D, args := #[] }], V, { target := .fn (.func gf) lb, args := #[.func (.yield (D + 1)) #[] #[]] }, V, gf, #[.func (.yield (D + 1)) #[] #[]] ++ lb, V, ?_, ?_, ?_, ?_, fun _ => h1, ?_⟩
  · rw [hV, hR, hD]; exact run_enterLoop_outer _ _ _ _ _
  · simp only [resolve, hg]
    simp [go_sem]
  · intro f' hf'; simp [Target.leads] at hf'; subst hf'; exact hFg
  · simp [invoke, go_sem, eg]
  · have cut : ∀ {A B : World}, Below V.heap.size A B → Below D A B := fun h => h.mono (by omega)
    refine (hseq (D + 1)
      (fun pre W => I pre W ∧ W.heap[D + 1]? = some (.loop (R .ready none)) ∧ W.heap[D]? = some (.deferred (some [])))
      (fun pre W => ∃ c, Ix c pre W ∧ W.heap[D + 1]? = some (.loop (R .done (some c))) ∧ W.heap[D]? = some (.deferred (some [])))
      V (hb0.trans ((hD ▸ bV).mono hb0.size))
      (fun s A B hs hb => ⟨hI s A B hs.1 (cut hb), (hb.block _ (by omega)).trans hs.2.1, (hb.block _ (by omega)).trans hs.2.2⟩)
      (fun s A B hs hb => by
        obtain ⟨c, h2, h3, h4⟩ := hs
        exact ⟨c, hIx c s A B h2 (cut hb), (hb.block _ (by omega)).trans h3, (hb.block _ (by omega)).trans h4⟩)
      ?_ ⟨hI _ _ _ h0 bV, lV, dV⟩).mono ?_
    · rintro pre x W ⟨hi, hl, hk⟩ hx
      rw [sV] at hx ⊢
      have lt1 : D + 1 < W.heap.size := (Array.getElem?_eq_some_iff.1 hl).1
      have hy := run_yield (P := P) (args := encs x) hl (by rw [hR]; exact hps x)
      rw [hR] at hy
      refine ⟨fn, _, assign, body, hy, roundIn_of_wpIn hfn (hassign _ x W _ ⟨_, run_beginRound hl (by rw [hR]), ?_⟩)⟩
      obtain ⟨W2, hW2⟩ : ∃ W2, W2 = W.putObj (D + 1) (.loop { R .ready none with state := .busy }) := ⟨_, rfl⟩
      rw [← hW2]
      have l2 : W2.heap[D + 1]? = some (.loop { R .ready none with state := .busy }) := by rw [hW2]; exact World.putObj_heap_same lt1
      have o2 : ∀ b, b ≠ D + 1 → W2.heap[b]? = W.heap[b]? := fun b hb => by rw [hW2]; exact World.putObj_heap_other (by omega)
      have s2 : W2.heap.size = W.heap.size := by rw [hW2]; simp
      have i2 : I pre W2 := by rw [hW2]; exact hI _ _ _ hi (put_below _ (by omega) lt1)
      have g2 : Gd (D + 2) pre x W2 := by rw [hW2]; exact hGd pre x W (D + 1) _ (by omega) hx
      have kD : bx x ≠ some D := fun e => by have := hbx pre x W2 D g2 e; omega
      have kL : bx x ≠ some (D + 1) := fun e => by have := hbx pre x W2 _ g2 e; omega
      have cD : ¬ C D := fun e => by have := hC D e; omega
      have cL : ¬ C (D + 1) := fun e => by have := hC _ e; omega
      refine wpIn_mono (hbody _ pre x W2 (by omega) i2 g2) ?_
      have fin : ∀ (j : Option Code) (W3 : World), KeepB C D (bx x) W2 W3 →
          ∃ W4, (Instr.endRound (D + 1) j).run P W3 = .ok (.bool j.isNone) W4 ∧ Below D W3 W4 ∧ W4.heap[D + 1]? = some (.loop (R (if j.isNone then .ready else .done) j)) ∧ W4.heap[D]? = some (.deferred (some [])) ∧ KeepB C (D + 2) (bx x) W W4 := by
        intro j W3 k3
        have l3 := k3.same _ _ l2 cL kL (.inr (by omega))
        have d3 := k3.same D _ ((o2 D (by omega)).trans hk) cD kD (.inr (by omega))
        have lt3 : D + 1 < W3.heap.size := (Array.getElem?_eq_some_iff.1 l3).1
        have e3 := run_endRound (P := P) j l3
        refine ⟨_, e3, put_below _ (by omega) lt3, ?_, (World.putObj_heap_other (by omega)).trans d3, ⟨?_, ?_⟩⟩
        · rw [World.putObj_heap_same lt3, hR]
        · have := k3.size; rw [s2] at this; simpa using this
        · intro b o hb hcb hxb hor
          have nb : b ≠ D + 1 := fun e => by
            subst e
            rw [hl] at hb
            cases hb
            rcases hor with h | h
            · cases h
            · omega
          rw [World.putObj_heap_other (by omega)]
          exact k3.same b o ((o2 b nb).trans hb) hcb hxb (hor.imp id (by omega))
      rintro e a3 W3 hp
      cases e with
      | normal =>
        obtain ⟨k3, i3⟩ := hp
        obtain ⟨W4, e4, b4, l4, d4, k4⟩ := fin none W3 k3
        exact ⟨_, _, e4, .inl ⟨rfl, ⟨hI _ _ _ i3 b4, l4, d4⟩, k4⟩⟩
      | ret =>
        obtain ⟨k3, i3⟩ := hp
        obtain ⟨W4, e4, b4, l4, d4, k4⟩ := fin (some .ret) W3 k3
        exact ⟨_, _, e4, .inr ⟨rfl, ⟨.ret, hIx _ _ _ _ i3 b4, l4, d4⟩, k4⟩⟩
      | exit id =>
        obtain ⟨k3, i3⟩ := hp
        obtain ⟨W4, e4, b4, l4, d4, k4⟩ := fin (some (.exit id)) W3 k3
        exact ⟨_, _, e4, .inr ⟨rfl, ⟨.exit id, hIx _ _ _ _ i3 b4, l4, d4⟩, k4⟩⟩
      | goto t =>
        obtain ⟨k3, i3⟩ := hp
        obtain ⟨W4, e4, b4, l4, d4, k4⟩ := fin (some (.goto t)) W3 k3
        exact ⟨_, _, e4, .inr ⟨rfl, ⟨.goto t, hIx _ _ _ _ i3 b4, l4, d4⟩, k4⟩⟩
      | panic c => exact hp.elim
      | outgrown => exact hp.elim
    · have last : ∀ {W2 : World} {st : LoopState} {pe : Option Code}, W2.heap[D + 1]? = some (.loop (R st pe)) → st ≠ .busy → W2.heap[D]? = some (.deferred (some [])) →
          ∃ W3, (Instr.endLoop (D + 1)).run P W2 = .ok pe W3 ∧ Below D W2 W3 ∧ W3.heap[D]? = some (.deferred (some [])) := by
        intro W2 st pe hl hst hk
        have lt2 : D + 1 < W2.heap.size := (Array.getElem?_eq_some_iff.1 hl).1
        have e2 := run_endLoop (P := P) hl (by rw [hR]; exact hst)
        have ep : (R st pe).pending = pe := by rw [hR]
        rw [ep] at e2
        exact ⟨_, e2, put_below _ (by omega) lt2, (World.putObj_heap_other (by omega)).trans hk⟩
      rintro e W2 ⟨⟨v, rfl⟩, (⟨xs, hS, hi, hl, hk⟩ | ⟨pre, hSp, c, hi, hl, hk⟩)⟩
      · obtain ⟨W3, e3, b3, d3⟩ := last hl (by simp) hk
        exact ⟨none, _, e3, hdone D xs _ (Nat.le_refl _) hS (hI _ _ _ hi b3) d3⟩
      · obtain ⟨W3, e3, b3, d3⟩ := last hl (by simp) hk
        exact ⟨some c, _, e3, hstop D c pre _ (Nat.le_refl _) hSp (hIx _ _ _ _ hi b3) d3⟩
end Go.Proofs.YtkdgakcmhnadfaaGreatDoor
