import Derived.Test.YtkdgakcmhnadfaaGreatDoorMDc
import Derived.Test.YtkdgakcmhnadfaaGreatDoorMFs
import Derived.RangeFuncNested
import Derived.RangeFuncBound
import Derived.RangeFuncCalls
import Derived.RangeFuncLeaves
import Derived.Shelf.Abstract
import Derived.Shelf.RegionOpen
import Derived.WalkKit
import Derived.OwnWalkIn
import Derived.TacticsInMore
import Derived.LoopNIn
import Derived.LoopIn
import Derived.Test.YtkdgakcmhnadfaaGreatDoorMDi
/- Fv -/
/- A range over a function whose iterator keeps cells of its own, laid between the loop's beginning and a bound Z: the caller may change and make what lies behind Z. -/
namespace Go.Proofs.YtkdgakcmhnadfaaGreatDoor
open Go.RowKit Go.Shelf
set_option linter.unusedVariables false
/- all but the blocks from lo to hi is as it was -/
structure Slack (lo hi : Nat) (A B : World) : Prop where
  bel : Below lo A B
  top : ∀ b, hi ≤ b → b < A.heap.size → B.heap[b]? = A.heap[b]?
theorem Slack.mono {lo hi lo' hi' : Nat} {A B : World} (h : Slack lo hi A B) (h1 : lo' ≤ lo) (h2 : hi ≤ hi') : Slack lo' hi' A B := ⟨h.bel.mono h1, fun b hb => h.top b (by omega)⟩
theorem Slack.trans {lo hi : Nat} {A B D : World} (h : Slack lo hi A B) (k : Slack lo hi B D) : Slack lo hi A D := ⟨h.bel.trans k.bel, fun b hb hl => (k.top b hb (by have := h.bel.size; omega)).trans (h.top b hb hl)⟩
theorem Slack.of_below {lo hi : Nat} {A B : World} (h : Below A.heap.size A B) (h1 : lo ≤ A.heap.size) : Slack lo hi A B := ⟨h.mono h1, fun b _ hl => h.block b hl⟩
theorem Slack.start {lo hi : Nat} {A B : World} (h : Below lo A B) (h1 : A.heap.size ≤ hi) : Slack lo hi A B := ⟨h, fun b h2 h3 => by omega⟩
theorem Slack.put {lo hi k : Nat} {W : World} (o : Obj) (h : lo ≤ k) (h2 : k < hi) (hk : k < W.heap.size) : Slack lo hi W (W.putObj k o) := ⟨put_below o h hk, fun b hb _ => World.putObj_heap_other (by omega)⟩
theorem Slack.set {lo hi : Nat} {p : Addr} (W : World) (v : Value) (h : lo ≤ p.block) (h2 : p.block < hi) : Slack lo hi W (W.setCell p v) := ⟨(Below.refl _ W).setCell h v, fun b hb _ => Below.heap_setCell W p v b (by omega)⟩
theorem Slack.block {lo hi : Nat} {A B : World} (h : Slack lo hi A B) {b : Nat} (hb : b < A.heap.size) (h1 : b < lo ∨ hi ≤ b) : B.heap[b]? = A.heap[b]? := h1.elim (h.bel.block b) (fun h2 => h.top b h2 hb)
/- what a round keeps: all below Z but the caller's blocks C -/
structure KeepC (C : Nat → Prop) (m Z : Nat) (A B : World) : Prop where
  size : A.heap.size ≤ B.heap.size
  same : ∀ (b : Nat) (o : Obj), A.heap[b]? = some o → b < Z → ¬ C b → (o.isCells = true ∨ m ≤ b) → B.heap[b]? = some o
/- the iterator's contract -/
def SeqC {α : Type} (F : Fence) (n : Nat) (P : Program) (g : Nat) (lb : Array Value) (encs : α → Array Value) (Gd : Nat → List α → α → World → Prop) (C : Nat → Prop) (S Sp : List α → Prop) (w : World) : Prop :=
  ∀ (l : Nat) (J Jx : Nat → List α → World → Prop) (W : World), Below w.heap.size w W →
    (∀ Z s A B, W.heap.size ≤ Z → J Z s A → Slack W.heap.size Z A B → J Z s B) → (∀ Z s A B, W.heap.size ≤ Z → Jx Z s A → Slack W.heap.size Z A B → Jx Z s B) →
    (∀ Z pre x A, W.heap.size ≤ Z → Z ≤ A.heap.size → J Z pre A → Gd Z pre x A → YieldAt F (n - 1) P l (encs x) A fun e B =>
      (e = .returned (.bool true) ∧ J Z (pre ++ [x]) B ∧ KeepC C W.heap.size Z A B) ∨ (e = .returned (.bool false) ∧ Jx Z (pre ++ [x]) B ∧ KeepC C W.heap.size Z A B)) →
    (∀ Z, W.heap.size ≤ Z → J Z [] W) → CallsIn F n P g (#[.func (.yield l) #[] #[]] ++ lb) W fun e W' => (∃ v, e = .returned v) ∧ ∃ Z, W.heap.size ≤ Z ∧ ((∃ xs, S xs ∧ J Z xs W') ∨ (∃ pre, Sp pre ∧ Jx Z pre W'))
/- how a round's body may end -/
def postC {α : Type} (C : Nat → Prop) (m Z : Nat) (I : List α → World → Prop) (Ix : Code → List α → World → Prop) (xs : List α) (W : World) : Exit → Act → World → Prop
  | .normal, _, W' => KeepC C m Z W W' ∧ I xs W'
  | .ret, _, W' => KeepC C m Z W W' ∧ Ix .ret xs W'
  | .exit id, _, W' => KeepC C m Z W W' ∧ Ix (.exit id) xs W'
  | .goto t, _, W' => KeepC C m Z W W' ∧ Ix (.goto t) xs W'
  | .panic _, _, _ => False
  | .outgrown, _, _ => False
variable {F : Fence} {n : Nat} {P : Program}
theorem rangeC {α : Type} {g : Operand} {ps : Array Tmp} {assign body : Code} {Q : Exit → Act → World → Prop} {a : Act} {w : World}
    (hro : F.round = none) (h1 : 1 ≤ n) {gf : Nat} {lb : Array Value} (hg : a.eval g = .func (.func gf) #[] lb) (hFg : F.fn gf) (eg : ∀ args w, (callFunc gf args).run P w = .ok (.enter gf args) w)
    {encs : α → Array Value} {Gd : Nat → List α → α → World → Prop} {C : Nat → Prop} {S Sp : List α → Prop} {w0 : World} (hseq : SeqC F (n - 1) P gf lb encs Gd C S Sp w0) (hb0 : Below w0.heap.size w0 w) (hps : ∀ x, (encs x).size = ps.size)
    (hC : ∀ b, C b → b < w.heap.size)
    (hGd : ∀ Z pre x A k o', k < Z → Gd Z pre x A → Gd Z pre x (A.putObj k o'))
    (I : Nat → List α → World → Prop) (Ix : Nat → Code → List α → World → Prop) (hI : ∀ Z s A B, w.heap.size + 2 ≤ Z → I Z s A → Slack w.heap.size Z A B → I Z s B) (hIx : ∀ Z c s A B, w.heap.size + 2 ≤ Z → Ix Z c s A → Slack w.heap.size Z A B → Ix Z c s B) (h0 : ∀ Z, w.heap.size + 2 ≤ Z → I Z [] w) (a₁ : α → Act)
    (hassign : ∀ (l : Nat) (x : α) (W : World) (K : Act → World → Prop), K (a₁ x) W →
      assign.wpIn (F.inRound l) (n - 1 - 1) P (Exit.then K (fun _ _ _ => False)) { tmps := (ps.zip (encs x)).foldl (fun t (p, v) => t.setIfInBounds p v) a.tmps, defers := [] } W)
    (hbody : ∀ (l Z : Nat) (pre : List α) (x : α) (W : World), w.heap.size + 2 ≤ Z → Z ≤ W.heap.size → I Z pre W → Gd Z pre x W → body.wpIn (F.inRound l) (n - 1 - 1) P (postC C w.heap.size Z (I Z) (Ix Z) (pre ++ [x]) W) (a₁ x) W)
    (hdone : ∀ (D Z : Nat) (xs : List α) (W : World), w.heap.size ≤ D → D + 2 ≤ Z → S xs → I Z xs W → W.heap[D]? = some (.deferred (some [])) → Q .normal { a with defers := { target := .collected D, args := #[] } :: a.defers } W)
    (hstop : ∀ (D Z : Nat) (c : Code) (pre : List α) (W : World), w.heap.size ≤ D → D + 2 ≤ Z → Sp pre → Ix Z c pre W → W.heap[D]? = some (.deferred (some [])) → c.wpIn F n P Q { a with defers := { target := .collected D, args := #[] } :: a.defers } W) :
    (Code.rangeFunc g ps assign body).wpIn F n P Q a w := by
  refine wpIn_rangeFunc fun fn hfn => ?_
  rw [hro]
  obtain ⟨R, hR⟩ : ∃ R : LoopState → Option Code → Loop, R = fun st pe => { state := st, pending := pe, fn, tmps := a.tmps, params := ps, assign, body, defers := w.heap.size } := ⟨_, rfl⟩
  obtain ⟨D, hD⟩ : ∃ D, D = w.heap.size := ⟨_, rfl⟩
  obtain ⟨V, hV⟩ : ∃ V, V = (w.alloc (.deferred (some []))).alloc (.loop (R .ready none)) := ⟨_, rfl⟩
  have sV : V.heap.size = D + 2 := by rw [hV, hD]; simp
  have bV : Below D w V := by rw [hV]; exact ((Below.refl _ w).alloc (by omega) _).alloc (by simp; omega) _
  have lV : V.heap[D + 1]? = some (.loop (R .ready none)) := by
    have e := World.alloc_heap_new (w.alloc (.deferred (some []))) (.loop (R .ready none))
    rw [World.size_alloc, ← hV, ← hD] at e
    exact e
  have dV : V.heap[D]? = some (.deferred (some [])) := by
    rw [hV, hD]; exact (Below.heap_alloc _ _ _ (by simp)).trans (World.alloc_heap_new w _)
  rw [← hD] at hC hI hIx h0 hbody hdone hstop
  refine ⟨D + 1, [{ target := .collected D, args := #[] }], V, { target := .fn (.func gf) lb, args := #[.func (.yield (D + 1)) #[] #[]] }, V, gf, #[.func (.yield (D + 1)) #[] #[]] ++ lb, V, ?_, ?_, ?_, ?_, fun _ => h1, ?_⟩
  · rw [hV, hR, hD]; exact run_enterLoop_outer _ _ _ _ _
  · simp only [resolve, hg]
    simp [go_sem]
  · intro f' hf'; simp [Target.leads] at hf'; subst hf'; exact hFg
  · simp [invoke, go_sem, eg]
  · have cut : ∀ {Z : Nat} {A B : World}, Slack V.heap.size Z A B → Slack D Z A B := fun h => h.mono (by omega) (Nat.le_refl _)
    refine (hseq (D + 1)
      (fun Z pre W => I Z pre W ∧ W.heap[D + 1]? = some (.loop (R .ready none)) ∧ W.heap[D]? = some (.deferred (some [])))
      (fun Z pre W => ∃ c, Ix Z c pre W ∧ W.heap[D + 1]? = some (.loop (R .done (some c))) ∧ W.heap[D]? = some (.deferred (some [])))
      V (hb0.trans ((hD ▸ bV).mono hb0.size))
      (fun Z s A B hZ hs hb => ⟨hI Z s A B (by omega) hs.1 (cut hb), (hb.bel.block _ (by omega)).trans hs.2.1, (hb.bel.block _ (by omega)).trans hs.2.2⟩)
      (fun Z s A B hZ hs hb => by
        obtain ⟨c, h2, h3, h4⟩ := hs
        exact ⟨c, hIx Z c s A B (by omega) h2 (cut hb), (hb.bel.block _ (by omega)).trans h3, (hb.bel.block _ (by omega)).trans h4⟩)
      ?_ (fun Z hZ => ⟨hI Z _ _ _ (by omega) (h0 Z (by omega)) (Slack.start bV (by omega)), lV, dV⟩)).mono ?_
    · rintro Z pre x W hZ hZW ⟨hi, hl, hk⟩ hx
      rw [sV] at hZ ⊢
      have lt1 : D + 1 < W.heap.size := (Array.getElem?_eq_some_iff.1 hl).1
      have hy := run_yield (P := P) (args := encs x) hl (by rw [hR]; exact hps x)
      rw [hR] at hy
      refine ⟨fn, _, assign, body, hy, roundIn_of_wpIn hfn (hassign _ x W _ ⟨_, run_beginRound hl (by rw [hR]), ?_⟩)⟩
      obtain ⟨W2, hW2⟩ : ∃ W2, W2 = W.putObj (D + 1) (.loop { R .ready none with state := .busy }) := ⟨_, rfl⟩
      rw [← hW2]
      have l2 : W2.heap[D + 1]? = some (.loop { R .ready none with state := .busy }) := by rw [hW2]; exact World.putObj_heap_same lt1
      have o2 : ∀ b, b ≠ D + 1 → W2.heap[b]? = W.heap[b]? := fun b hb => by rw [hW2]; exact World.putObj_heap_other (by omega)
      have s2 : W2.heap.size = W.heap.size := by rw [hW2]; simp
      have i2 : I Z pre W2 := by rw [hW2]; exact hI Z _ _ _ hZ hi (Slack.put _ (by omega) (by omega) lt1)
      have g2 : Gd Z pre x W2 := by rw [hW2]; exact hGd Z pre x W (D + 1) _ (by omega) hx
      have cD : ¬ C D := fun e => by have := hC D e; omega
      have cL : ¬ C (D + 1) := fun e => by have := hC _ e; omega
      refine wpIn_mono (hbody _ Z pre x W2 hZ (by omega) i2 g2) ?_
      have fin : ∀ (j : Option Code) (W3 : World), KeepC C D Z W2 W3 →
          ∃ W4, (Instr.endRound (D + 1) j).run P W3 = .ok (.bool j.isNone) W4 ∧ Slack D Z W3 W4 ∧ W4.heap[D + 1]? = some (.loop (R (if j.isNone then .ready else .done) j)) ∧ W4.heap[D]? = some (.deferred (some [])) ∧ KeepC C (D + 2) Z W W4 := by
        intro j W3 k3
        have l3 := k3.same _ _ l2 (by omega) cL (.inr (by omega))
        have d3 := k3.same D _ ((o2 D (by omega)).trans hk) (by omega) cD (.inr (by omega))
        have lt3 : D + 1 < W3.heap.size := (Array.getElem?_eq_some_iff.1 l3).1
        have e3 := run_endRound (P := P) j l3
        refine ⟨_, e3, Slack.put _ (by omega) (by omega) lt3, ?_, (World.putObj_heap_other (by omega)).trans d3, ⟨?_, ?_⟩⟩
        · rw [World.putObj_heap_same lt3, hR]
        · have := k3.size; rw [s2] at this; simpa using this
        · intro b o hb hbZ hcb hor
          have nb : b ≠ D + 1 := fun e => by
            subst e
            rw [hl] at hb
            cases hb
            rcases hor with h | h
            · cases h
            · omega
          rw [World.putObj_heap_other (by omega)]
          exact k3.same b o ((o2 b nb).trans hb) hbZ hcb (hor.imp id (by omega))
      rintro e a3 W3 hp
      cases e with
      | normal =>
        obtain ⟨k3, i3⟩ := hp
        obtain ⟨W4, e4, b4, l4, d4, k4⟩ := fin none W3 k3
        exact ⟨_, _, e4, .inl ⟨rfl, ⟨hI Z _ _ _ hZ i3 b4, l4, d4⟩, k4⟩⟩
      | ret =>
        obtain ⟨k3, i3⟩ := hp
        obtain ⟨W4, e4, b4, l4, d4, k4⟩ := fin (some .ret) W3 k3
        exact ⟨_, _, e4, .inr ⟨rfl, ⟨.ret, hIx Z _ _ _ _ hZ i3 b4, l4, d4⟩, k4⟩⟩
      | exit id =>
        obtain ⟨k3, i3⟩ := hp
        obtain ⟨W4, e4, b4, l4, d4, k4⟩ := fin (some (.exit id)) W3 k3
        exact ⟨_, _, e4, .inr ⟨rfl, ⟨.exit id, hIx Z _ _ _ _ hZ i3 b4, l4, d4⟩, k4⟩⟩
      | goto t =>
        obtain ⟨k3, i3⟩ := hp
        obtain ⟨W4, e4, b4, l4, d4, k4⟩ := fin (some (.goto t)) W3 k3
        exact ⟨_, _, e4, .inr ⟨rfl, ⟨.goto t, hIx Z _ _ _ _ hZ i3 b4, l4, d4⟩, k4⟩⟩
      | panic c => exact hp.elim
      | outgrown => exact hp.elim
    · have last : ∀ {Z : Nat} (hZ : D + 2 ≤ Z) {W2 : World} {st : LoopState} {pe : Option Code}, W2.heap[D + 1]? = some (.loop (R st pe)) → st ≠ .busy → W2.heap[D]? = some (.deferred (some [])) →
          ∃ W3, (Instr.endLoop (D + 1)).run P W2 = .ok pe W3 ∧ Slack D Z W2 W3 ∧ W3.heap[D]? = some (.deferred (some [])) := by
        intro Z hZ W2 st pe hl hst hk
        have lt2 : D + 1 < W2.heap.size := (Array.getElem?_eq_some_iff.1 hl).1
        have e2 := run_endLoop (P := P) hl (by rw [hR]; exact hst)
        have ep : (R st pe).pending = pe := by rw [hR]
        rw [ep] at e2
        exact ⟨_, e2, Slack.put _ (by omega) (by omega) lt2, (World.putObj_heap_other (by omega)).trans hk⟩
      rintro e W2 ⟨⟨v, rfl⟩, Z, hZ, (⟨xs, hS, hi, hl, hk⟩ | ⟨pre, hSp, c, hi, hl, hk⟩)⟩
      · obtain ⟨W3, e3, b3, d3⟩ := last (Z := Z) (by omega) hl (by simp) hk
        exact ⟨none, _, e3, hdone D Z xs _ (Nat.le_refl _) (by omega) hS (hI Z _ _ _ (by omega) hi b3) d3⟩
      · obtain ⟨W3, e3, b3, d3⟩ := last (Z := Z) (by omega) hl (by simp) hk
        exact ⟨some c, _, e3, hstop D Z c pre _ (Nat.le_refl _) (by omega) hSp (hIx Z _ _ _ _ (by omega) hi b3) d3⟩
theorem KeepC.cell {C : Nat → Prop} {m Z : Nat} {A B : World} (h : KeepC C m Z A B) {p : Addr} {v : Value} (hp : A.cell? p = some v) (h0 : p.block < Z) (h1 : ¬ C p.block) : B.cell? p = some v := by
  obtain ⟨o, h3, h4⟩ := cells_of_cell hp
  exact (World.cell?_of_block ((h.same _ _ h3 h0 h1 (.inl h4)).trans h3.symm)).trans hp
theorem KeepC.refl (C : Nat → Prop) (m Z : Nat) (A : World) : KeepC C m Z A A := ⟨Nat.le_refl _, fun _ _ h _ _ _ => h⟩
theorem KeepC.trans {C : Nat → Prop} {m Z : Nat} {A B D : World} (h : KeepC C m Z A B) (k : KeepC C m Z B D) : KeepC C m Z A D := ⟨Nat.le_trans h.size k.size, fun b o h1 h2 h3 h4 => k.same b o (h.same b o h1 h2 h3 h4) h2 h3 h4⟩
theorem KeepC.of_below (C : Nat → Prop) (m Z : Nat) {A B : World} (h : Below A.heap.size A B) : KeepC C m Z A B := ⟨h.size, fun b o h1 _ _ _ => (h.block b (Array.getElem?_eq_some_iff.1 h1).1).trans h1⟩
theorem KeepC.of_grown {C : Nat → Prop} {r : Nat} (m Z : Nat) {A B : World} (h : A.grownBy B (some r)) (hr : C r ∨ Z ≤ r) : KeepC C m Z A B :=
  ⟨h.size, fun b o h1 h0 h2 _ => (h.block b (Array.getElem?_eq_some_iff.1 h1).1 (fun e => by cases e; exact hr.elim h2 (by omega))).trans h1⟩
theorem KeepC.of_set {C : Nat → Prop} (m Z : Nat) (A : World) (p : Addr) (v : Value) (hr : C p.block ∨ Z ≤ p.block) : KeepC C m Z A (A.setCell p v) :=
  ⟨(KeepsOthers.setCell A p v).size, fun b o h1 h0 h2 _ => (Below.heap_setCell A p v b (fun e => by subst e; exact hr.elim h2 (by omega))).trans h1⟩
theorem boxed_at {W : World} {B D : Nat} {t : TypeId} {v : Value} {o : Obj} (h : Boxed W B t v) (hD : B ≠ D) : Boxed (W.putObj D o) B t v := (World.putObj_heap_other (by omega)).trans h
end Go.Proofs.YtkdgakcmhnadfaaGreatDoor

/- Dj -/
/- List of package disk: an iterator over the names; what the names are. -/
namespace Go.Proofs.YtkdgakcmhnadfaaGreatDoor
open Go.ChangeShapes Go.WideShapes Go.ChangeAt Go.RowKit Go.Shelf
set_option maxRecDepth 20000
set_option linter.unusedVariables false
set_option linter.unusedSimpArgs false
theorem values_n (w : World) (a : Option Addr) (k c : Nat) : Calls Tryz.prog 101 #[.slice a k c] w fun e w' => e = .returned (.func (.func 126) #[] #[.pointer (some ⟨w.heap.size, 0, none⟩)]) ∧ w' = w.alloc (.cells #[.slice a k c] 97) := by
  go_enter Tryz.func101, Tryz.ntmps101
  go_wp2
  go_ret
  exact ⟨rfl, rfl⟩
/- names that rise, each once -/
def Rises (ks : List ByteArray) : Prop := ks.Pairwise fun x y => x.data.toList < y.data.toList
set_option maxHeartbeats 1000000 in
theorem list_n {w : World} {d m : Nat} {D : DataW Unit} {full : Bool} {lost : Int} (hD : Hid (Drv w d m D full lost)) :
    Calls Tryz.prog 62 #[.pointer (some ⟨d, 0, none⟩)] w fun e w' => ∃ K a k c ks, e = .returned (.func (.func 126) #[] #[.pointer (some ⟨K, 0, none⟩)]) ∧ Hid (Kn w' w.heap.size a k ks ∧ w'.cell? ⟨K, 0, none⟩ = some (.slice a k c) ∧ w.heap.size ≤ K ∧ (∃ ss : List (List UInt8), ss.Perm (strKeys D) ∧ ks = (ss.mergeSort (fun x y => decide (x ≤ y))).map fun x => ⟨x.toArray⟩) ∧ Below w.heap.size w w') := by
  go_enter Tryz.func62, Tryz.ntmps62
  go_wp2_with (first
    | (go_at_call 55; refine (names_n hD).mono ?_; rintro e w1 ⟨a, k, c, ks, rfl, H1⟩)
    | (go_at_call 101; refine (values_n _ _ _ _).mono ?_; rintro e w2 ⟨rfl, h2⟩; have H2 : Hid (w2 = w1.alloc (.cells #[.slice a k c] 97)) := h2; clear h2))
  go_ret
  have b2 : Below w1.heap.size w1 w2 := by rw [H2.out]; exact alloc1 w1 _
  refine ⟨w1.heap.size, a, k, c, ks, rfl, H1.out.1.keep (fun g h1 h2 => b2.block g h2), ?_, H1.out.2.2.size, H1.out.2.1, H1.out.2.2.trans (b2.mono H1.out.2.2.size)⟩
  rw [H2.out]
  exact (Boxed.new w1 97 _).cell
/- what the names of a drive are -/
structure Nmd (v : ByteArray → Option Fl) (ks : List ByteArray) : Prop where
  nd : ks.Nodup
  mem : ∀ t, t ∈ ks ↔ (v t).isSome = true
  up : Rises ks
theorem key_has {w : World} {d m : Nat} {D : DataW Unit} {full : Bool} {lost : Int} (hD : Drv w d m D full lost) {x : List UInt8} (h1 : x ∈ strKeys D) : (vw D ⟨x.toArray⟩).isSome = true := by
  obtain ⟨es, e3, hkk⟩ := hD.own.keysOf
  rw [vw_some]
  subst e3
  obtain ⟨p, hp, hpx⟩ := List.mem_map.1 h1
  obtain ⟨v, hv⟩ := hkk p hp
  obtain ⟨y, _, hy, _⟩ := Maps.keyOf_str Tryz.underlying9 hv
  rw [Maps.has_eq, List.any_eq_true]
  refine ⟨p, hp, ?_⟩
  rw [hy] at hpx ⊢
  simp [strOf] at hpx
  simp [kl, Lit.sameKey, hpx]
theorem nmd_of {w : World} {d m : Nat} {D : DataW Unit} {full : Bool} {lost : Int} (hD : Drv w d m D full lost) {v : ByteArray → Option Fl} (hv : ∀ t, vw D t = v t) {ks : List ByteArray} {ss : List (List UInt8)} (hS : ss.Perm (strKeys D)) (hk : ks = (ss.mergeSort (fun x y => decide (x ≤ y))).map fun x => ⟨x.toArray⟩) : Nmd v ks := by
  have nd : (strKeys D).Nodup := by
    obtain ⟨es, e, hkk⟩ := hD.own.keysOf
    obtain ⟨es2, e2, hp⟩ := hD.tidy
    rw [e] at e2
    cases e2
    rw [e]
    refine List.pairwise_map.2 (hp.imp_of_mem fun {p q} hp' hq' hne e => hne ?_)
    obtain ⟨u, hu⟩ := hkk p hp'
    obtain ⟨u', hu'⟩ := hkk q hq'
    obtain ⟨x, _, hx, _⟩ := Maps.keyOf_str Tryz.underlying9 hu
    obtain ⟨x', _, hx', _⟩ := Maps.keyOf_str Tryz.underlying9 hu'
    rw [hx, hx'] at e ⊢
    exact congrArg _ e
  obtain ⟨T, hT⟩ : ∃ T, T = ss.mergeSort (fun x y => decide (x ≤ y)) := ⟨_, rfl⟩
  rw [← hT] at hk
  have tp : T.Perm (strKeys D) := by rw [hT]; exact (List.mergeSort_perm _ _).trans hS
  have tnd : T.Nodup := tp.nodup_iff.2 nd
  have tle : T.Pairwise (fun x y => decide (x ≤ y) = true) := by
    rw [hT]
    exact List.pairwise_mergeSort (fun a b c h1 h2 => by simp only [decide_eq_true_eq] at *; exact List.le_trans h1 h2) (fun a b => by simp only [Bool.or_eq_true, decide_eq_true_eq]; exact List.le_total a b) ss
  have tlt : T.Pairwise (fun x y => x < y) := (tle.and tnd).imp (fun {a b} h => (List.le_iff_lt_or_eq.1 (of_decide_eq_true h.1)).resolve_right h.2)
  have up : Rises ks := by
    rw [hk]
    unfold Rises
    refine List.pairwise_map.2 (tlt.imp fun {a b} h => ?_)
    simpa using h
  refine ⟨?_, fun t => ⟨fun ht => ?_, fun ht => ?_⟩, up⟩
  · refine up.imp fun {a b} h e => ?_
    rw [e] at h
    exact List.lt_irrefl _ h
  · rw [hk] at ht
    obtain ⟨x, hx, rfl⟩ := List.mem_map.1 ht
    rw [← hv]
    exact key_has hD (tp.mem_iff.1 hx)
  · rw [← hv] at ht
    have h1 := tp.mem_iff.2 (mem_keys ht)
    rw [hk]
    refine List.mem_map.2 ⟨_, h1, ?_⟩
    cases t
    simp
theorem list_w {w : World} {d m k : Nat} {v : ByteArray → Option Fl} {fu : Bool} (hD : Hid (Dw w d m v k fu)) :
    Calls Tryz.prog 62 #[.pointer (some ⟨d, 0, none⟩)] w fun e w' => ∃ K a n c ks, e = .returned (.func (.func 126) #[] #[.pointer (some ⟨K, 0, none⟩)]) ∧ Hid (Kn w' w.heap.size a n ks ∧ w'.cell? ⟨K, 0, none⟩ = some (.slice a n c) ∧ w.heap.size ≤ K ∧ Nmd v ks ∧ n ≤ 512 ∧ Below w.heap.size w w') := by
  obtain ⟨D, lo, h1, h2, h3⟩ := hD.out
  refine (list_n (show Hid (Drv w d m D fu lo) from h1)).mono ?_
  rintro e w' ⟨K, a, n, c, ks, rfl, H⟩
  obtain ⟨ss, hp, hk⟩ := H.out.2.2.2.1
  refine ⟨K, a, n, c, ks, rfl, H.out.1, H.out.2.1, H.out.2.2.1, nmd_of h1 h2 hp hk, ?_, H.out.2.2.2.2⟩
  have e1 : n = ks.length := H.out.1.len
  have e2 : ks.length = ss.length := by rw [hk, List.length_map, List.length_mergeSort]
  have e3 := hp.length_eq
  have e4 : (strKeys D).length = Maps.size D := by
    obtain ⟨es, e, _⟩ := h1.own.keysOf
    rw [e]
    simp [strKeys, Maps.size]
  have := h1.size
  omega
theorem names_w {w : World} {d m k : Nat} {v : ByteArray → Option Fl} {fu : Bool} (hD : Hid (Dw w d m v k fu)) :
    Calls Tryz.prog 55 #[.pointer (some ⟨d, 0, none⟩)] w fun e w' => ∃ a n c ks, e = .returned (.slice a n c) ∧ Hid (Kn w' w.heap.size a n ks ∧ Nmd v ks ∧ n ≤ 512 ∧ Below w.heap.size w w') := by
  obtain ⟨D, lo, h1, h2, h3⟩ := hD.out
  refine (names_n (show Hid (Drv w d m D fu lo) from h1)).mono ?_
  rintro e w' ⟨a, n, c, ks, rfl, H⟩
  obtain ⟨ss, hp, hk⟩ := H.out.2.1
  refine ⟨a, n, c, ks, rfl, H.out.1, nmd_of h1 h2 hp hk, ?_, H.out.2.2⟩
  have e1 : n = ks.length := H.out.1.len
  have e2 : ks.length = ss.length := by rw [hk, List.length_map, List.length_mergeSort]
  have e3 := hp.length_eq
  have e4 : (strKeys D).length = Maps.size D := by
    obtain ⟨es, e, _⟩ := h1.own.keysOf
    rw [e]
    simp [strKeys, Maps.size]
  have := h1.size
  omega
end Go.Proofs.YtkdgakcmhnadfaaGreatDoor

/- Dk -/
/- slices.Values' closure as an iterator's contract. -/
namespace Go.Proofs.YtkdgakcmhnadfaaGreatDoor
open Go.ChangeShapes Go.WideShapes Go.ChangeAt Go.RowKit Go.Shelf
set_option maxRecDepth 20000
set_option linter.unusedVariables false
set_option linter.unusedSimpArgs false
attribute [local go_sem] Oper.semAt_some
abbrev e0 : ByteArray := ⟨#[]⟩
theorem range_snoc (q : Nat) : List.range (q + 1) = List.range q ++ [q] := List.range_succ
theorem Kn.keepC {w w' : World} {B : Nat} {a : Option Addr} {k : Nat} {ks : List ByteArray} {C : Nat → Prop} {mm Z : Nat} (h : Kn w B a k ks) (hk : KeepC C mm Z w w') (hZ : ∀ g, a = some ⟨g, 0, none⟩ → g < Z ∧ ¬ C g) : Kn w' B a k ks := by
  refine ⟨h.len, h.row.imp id ?_⟩
  rintro ⟨g, cs, h1, h2, h3, h4⟩
  exact ⟨g, cs, h1, h2, hk.same g _ h3 (hZ g h1).1 (hZ g h1).2 (.inl rfl), h4⟩
set_option maxHeartbeats 2000000 in
theorem values_seqC (N : Nat) (hN : 1 ≤ N) (K k c B : Nat) (a : Option Addr) (ks : List ByteArray) (C : Nat → Prop) (w : World) (hk : w.cell? ⟨K, 0, none⟩ = some (.slice a k c)) (kn : Kn w B a k ks) (hkb : k ≤ 512) (hC : ∀ g, 0 < k → a = some ⟨g, 0, none⟩ → ¬ C g) :
    SeqC Fence.wide N Tryz.prog 126 #[.pointer (some ⟨K, 0, none⟩)] (fun i : Nat => #[.string (ks.getD i e0)]) (fun _ pre x _ => x = pre.length ∧ x < k) C (fun xs => xs = List.range k) (fun _ => True) w := fun l J Jx W hW hJ hJx hY h0 => by
  have c1 : W.cell? ⟨K, 0, none⟩ = some (.slice a k c) := (hW.cell (p := ⟨K, 0, none⟩) (cell_lt hk)).trans hk
  have k1 : Kn W B a k ks := kn.keep (fun g h1 h2 => hW.block g h2)
  have J0 := h0 W.heap.size (Nat.le_refl _)
  have gW : Hid (∀ g, 0 < k → a = some ⟨g, 0, none⟩ → g < W.heap.size ∧ ¬ C g) := fun g h1 h2 => by
    obtain ⟨g', e1, _, e2, _⟩ := k1.at_ h1
    rw [h2] at e1
    cases e1
    exact ⟨e2, hC g h1 h2⟩
  have kl : Hid (k = ks.length) := kn.len
  refine callsIn_of_wp Tryz.func126 rfl trivial ?_ rfl
  simp only [Tryz.ntmps126, List.size_toArray, List.length_cons, List.length_nil, Nat.reduceAdd, Nat.reduceSub, Array.replicate_succ, Array.replicate_zero, List.push_toArray, List.append_toArray, List.nil_append, List.cons_append]
  have R0 : Hid (J W.heap.size [] W ∧ Kn W B a k ks ∧ W.heap.size ≤ W.heap.size) := ⟨J0, k1, Nat.le_refl _⟩
  clear k1 J0 h0 kn
  gi_wp2
  clear c1 hk
  gi_loopw [7] (fun i wr => ∃ q : Nat, i = .int .i64 (q : Int) ∧ q ≤ k ∧ Hid (J W.heap.size (List.range q) wr ∧ Kn wr B a k ks ∧ W.heap.size ≤ wr.heap.size)) (fun i _ => k - (intOf i).toNat)
  case atStart => exact ⟨0, rfl, by omega, R0.out⟩
  case round =>
    obtain ⟨q, rfl, hq, HQ⟩ := hrel
    clear R0
    by_cases hlt : q < k
    · obtain ⟨g, rfl, hg1, hg2, hc⟩ := HQ.out.2.1.at_ hlt
      have e1 : ks[q]'(by have := kl.out; omega) = ks.getD q e0 := by
        have : q < ks.length := by have := kl.out; omega
        simp [List.getD, this]
      rw [e1] at hc
      obtain ⟨fn, tmps, assign, body, hy, hR⟩ := hY W.heap.size (List.range q) q wr (Nat.le_refl _) HQ.out.2.2 HQ.out.1 ⟨by simp, hlt⟩
      have i1 : (q : Int) < (k : Int) := by omega
      have hR2 := hR.mono (R' := fun e W3 => ∃ bb : Bool, e = .returned (.bool bb) ∧ Hid (KeepC C W.heap.size W.heap.size wr W3 ∧ ((bb = true ∧ J W.heap.size (List.range q ++ [q]) W3) ∨ (bb = false ∧ Jx W.heap.size (List.range q ++ [q]) W3)))) (fun e W3 h => by
        rcases h with ⟨h1, h2, h3⟩ | ⟨h1, h2, h3⟩
        · exact ⟨true, h1, h3, .inl ⟨rfl, h2⟩⟩
        · exact ⟨false, h1, h3, .inr ⟨rfl, h2⟩⟩)
      have HK : Hid (Kn wr B (some ⟨g, 0, none⟩) k ks ∧ W.heap.size ≤ wr.heap.size) := HQ.out.2
      obtain ⟨s, Hs⟩ : ∃ s, Hid (ks.getD q e0 = s) := ⟨_, rfl⟩
      simp only [Hs.out] at hc hy
      clear hR HQ e1 hY
      gi_wp2
      refine hR2.mono ?_
      rintro e2 W3 ⟨bb, rfl, H3⟩
      cases bb with
      | true =>
        have NX : Hid (J W.heap.size (List.range (q + 1)) W3 ∧ Kn W3 B (some ⟨g, 0, none⟩) k ks ∧ W.heap.size ≤ W3.heap.size) := by
          refine ⟨?_, HK.out.1.keepC H3.out.1 (fun g' h' => gW.out g' (by omega) h'), Nat.le_trans HK.out.2 H3.out.1.size⟩
          rw [range_snoc]
          rcases H3.out.2 with h | h
          · exact h.2
          · cases h.1
        clear H3 HK hR2 hy
        gi_wp2
        go_roundw
        case rel => exact ⟨q + 1, by go_num, by omega, NX.out⟩
        case measure => simp [intOf]; omega
      | false =>
        have FX : Hid (Jx W.heap.size (List.range q ++ [q]) W3) := by
          rcases H3.out.2 with h | h
          · cases h.1
          · exact h.2
        clear H3 HK hR2 hy
        gi_wp2
        refine bodyPost_ret (results_none rfl _ _ _) rfl ?_
        exact ⟨⟨_, rfl⟩, _, Nat.le_refl _, .inr ⟨_, trivial, FX.out⟩⟩
    · obtain rfl : q = k := by omega
      have FJ : Hid (J W.heap.size (List.range q) wr) := HQ.out.1
      clear HQ hY
      gi_wp2
      go_end0
      exact ⟨⟨_, rfl⟩, _, Nat.le_refl _, .inl ⟨_, rfl, FJ.out⟩⟩
end Go.Proofs.YtkdgakcmhnadfaaGreatDoor
