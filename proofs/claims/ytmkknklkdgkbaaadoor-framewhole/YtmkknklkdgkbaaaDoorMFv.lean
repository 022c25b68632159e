import Derived.Test.YtmkknklkdgkbaaaDoorGf
import Derived.Test.YtmkknklkdgkbaaaDoorXa
import Derived.WalkLawsBesides
import Derived.Test.YtmkknklkdgkbaaaDoorFt
import Derived.Test.YtmkknklkdgkbaaaDoorFu
/- La -/
/- The document's Blocks: a row of rows; what is read of it. -/
namespace Go.Proofs.YtmkknklkdgkbaaaDoor
open Go.ChangeShapes Go.WideShapes Go.ChangeAt Go.RowKit
set_option maxRecDepth 20000
set_option linter.unusedVariables false
set_option linter.unusedSimpArgs false
theorem info26 : (Tryd.prog.info? 26).map (fun i => (i.zero, i.size, i.bytes)) = some (some (.slice none 0 0), 1, 24) := by kernel_rfl
theorem app_rv (w : World) (B g k cap : Nat) (vs : List Value) (v : Value) (own : w.ownsRow B 26 1 (.slice (some ⟨g, 0, none⟩) k cap) k vs) (hv : v.oneCell' = true) (hB : B ≤ w.heap.size) (hk : (k + 1) * 24 ≤ 140737488355328) :
    ∃ g' cap' w', (Builtin.append_ #[47, 47] 47 #[.slice (some ⟨g, 0, none⟩) k cap, .slice (some ⟨w.heap.size, 0, none⟩) 1 1]).run Tryd.prog (w.alloc (.cells #[v] 26)) = .ok (.slice (some ⟨g', 0, none⟩) (k + 1) cap') w' ∧ w'.ownsRow B 26 1 (.slice (some ⟨g', 0, none⟩) (k + 1) cap') (k + 1) (vs ++ [v]) ∧ (w.alloc (.cells #[v] 26)).grownBy w' (some g) := by
  obtain ⟨i, hi, hz0, hz1, hz2⟩ := info_parts info26
  obtain ⟨v', w', hrun, hown, hgr, _⟩ := run_append_own (P := Tryd.prog) (w.alloc (.cells #[v] 26)) B 47 47 26 i (.slice none 0 0) 1 24 Tryd.underlying47 hi hz0 hz1 hz2 rfl (by decide) _ k vs (own.alloc _) ⟨w.heap.size, 0, none⟩ 1 1 [v] rfl (fun j u hu => by
      have hj : j = 0 := by
        have := (List.getElem?_eq_some_iff.1 hu).1
        simp at this; omega
      subst hj
      simp at hu
      subst hu
      simp [Addr.add]) (by intro u hu; simp at hu; rw [hu]; exact hv) (by unfold maxLen; omega) (by omega) (by simp; omega)
  rcases hown.2 with ⟨_, h0⟩ | ⟨g', cap', cur, rfl, _⟩
  · omega
  · exact ⟨g', cap', w', hrun, hown, hgr⟩
theorem wpList_app47 {ops : Array Oper} {rest : List Oper} {o : Oper} {a : Act} {Q : Exit → Act → World → Prop} {w w' : World} {v v1 v2 : Value} (hgd : o.guard = none) (s x : Operand)
    (ho : o.op = .call { callee := .builtin .append, args := #[s, x], argTypes := #[47, 47] }) (hty : o.type = 47) (hs : a.eval s = v1) (hx : a.eval x = v2) (hrun : Hid ((Builtin.append_ #[47, 47] 47 #[v1, v2]).run Tryd.prog w = .ok v w'))
    (h : wpList Tryd.prog ops Q rest (a.put o.dst v) w') : wpList Tryd.prog ops Q (o :: rest) a w := by
  refine wpList_plain hgd fun K hK => ?_
  have hr := hrun.out
  unfold Oper.wp
  simp [execOp, ho, resolve, invoke, builtin, hs, hx, hty, hr, Result.andThen]
  exact hK _ _ h
/- a row of k rows, each of them new, the i-th of which reads as piece i -/
structure Bls (w : World) (B g k cap : Nat) (l : List Nat) (vs : List Value) : Prop where
  own : w.ownsRow B 26 1 (.slice (some ⟨g, 0, none⟩) k cap) k vs
  rows : ∀ i, i < k → ∃ a e c, vs[i]? = some (.slice a e c) ∧ Own w B a e c (pc l i)
theorem Bls.lt {w : World} {B g k cap : Nat} {l : List Nat} {vs : List Value} (h : Bls w B g k cap l vs) : B ≤ g ∧ g < w.heap.size := h.own.lt g rfl
theorem Bls.cellsOf {w : World} {B g k cap : Nat} {l : List Nat} {vs : List Value} (h : Bls w B g k cap l vs) : ∃ cur, w.heap[g]? = some (.cells cur 26 (0, 0)) ∧ cur.toList.take k = vs := by
  rcases h.own.2 with ⟨h1, _⟩ | ⟨g', cap', cur, h1, _, h2, _, _, _, h3⟩
  · cases h1
  · cases h1
    rw [Nat.mul_one] at h3
    exact ⟨cur, h2, h3⟩
theorem Bls.ne {w : World} {B g k cap : Nat} {l : List Nat} {vs : List Value} (h : Bls w B g k cap l vs) {a : Option Addr} {e c : Nat} {L : List Nat} (o : Own w B a e c L) : blkOf a ≠ some g := by
  intro hq
  obtain ⟨cur, h2, _⟩ := h.cellsOf
  rcases o.own.2 with ⟨h1, _⟩ | ⟨g', cap', cur', h1, _, h3, _⟩
  · simp at h1
    rw [h1.1] at hq
    cases hq
  · simp at h1
    rw [h1.1] at hq
    cases hq
    rw [h2] at h3
    cases h3
theorem Bls.cell {w : World} {B g k cap : Nat} {l : List Nat} {vs : List Value} (h : Bls w B g k cap l vs) {i : Nat} (hi : i < k) : ∃ a e c, w.cell? ⟨g, i, none⟩ = some (.slice a e c) ∧ Own w B a e c (pc l i) := by
  obtain ⟨a, e, c, h1, h2⟩ := h.rows i hi
  obtain ⟨cur, h3, h4⟩ := h.cellsOf
  refine ⟨a, e, c, ?_, h2⟩
  rw [← h4, List.getElem?_take_of_lt hi] at h1
  simp only [World.cell?, h3]
  simpa using h1
theorem Bls.below {w w' : World} {B g k cap : Nat} {l : List Nat} {vs : List Value} (h : Bls w B g k cap l vs) (hb : Below w.heap.size w w') : Bls w' B g k cap l vs := by
  refine ⟨?_, fun i hi => ?_⟩
  · obtain ⟨h5, h6⟩ := h.own
    refine ⟨h5, h6.imp id ?_⟩
    rintro ⟨g', cap', cur, e1, e2, e3, e4⟩
    exact ⟨g', cap', cur, e1, e2, (hb.block _ (Array.getElem?_eq_some_iff.1 e3).1).trans e3, e4⟩
  · obtain ⟨a, e, c, h1, h2⟩ := h.rows i hi
    exact ⟨a, e, c, h1, h2.below hb⟩
theorem Bls.snoc {w w4 : World} {B g k cap g' cap' : Nat} {l : List Nat} {vs : List Value} {a : Option Addr} {e c : Nat} (h : Bls w B g k cap l vs) (o : Own w B a e c (pc l k)) (own : w4.ownsRow B 26 1 (.slice (some ⟨g', 0, none⟩) (k + 1) cap') (k + 1) (vs ++ [.slice a e c])) (gr : (w.alloc (.cells #[.slice a e c] 26)).grownBy w4 (some g)) : Bls w4 B g' (k + 1) cap' l (vs ++ [.slice a e c]) := by
  have kp : ∀ {a' : Option Addr} {e' c' : Nat} {L : List Nat}, Own w B a' e' c' L → Own w4 B a' e' c' L := fun o' =>
    o'.block (fun q hq => (gr.block q (by have := (o'.ge q hq).2; simp; omega) (fun e => h.ne o' (by rw [hq]; exact e))).trans (Below.heap_alloc w _ q (o'.ge q hq).2))
  refine ⟨own, fun i hi => ?_⟩
  have hl : vs.length = k := by have := h.own.1; omega
  by_cases hik : i < k
  · obtain ⟨a', e', c', h1, h2⟩ := h.rows i hik
    exact ⟨a', e', c', by rw [List.getElem?_append_left (by omega)]; exact h1, kp h2⟩
  · obtain rfl : i = k := by omega
    exact ⟨a, e, c, by rw [List.getElem?_append_right (by omega), hl]; simp, kp o⟩
def BlsEx (w w' : World) (g k cap : Nat) (l : List Nat) : Prop := ∃ vs, Bls w' w.heap.size g k cap l vs ∧ Below w.heap.size w w'
set_option maxHeartbeats 4000000 in
theorem refBlocks_n {w : World} {a : Option Addr} {n c : Nat} {l : List Nat} (hS : Hid (Sln w a n l)) (hc : Hid (a = none → c = 0)) (hnc : n ≤ c) :
    Calls Tryd.prog 21 #[.slice a n c] w fun e w' => ∃ g cap, e = .returned (.slice (some ⟨g, 0, none⟩) (blks n) cap) ∧ Hid (BlsEx w w' g (blks n) cap l) := by
  have ln : Hid (n = l.length) := hS.out.len
  have nb : n ≤ 140737488352256 := by rw [ln.out]; exact hS.out.sli.2.1
  have B0 : Hid (BlsEx w (w.alloc (.cells #[] 26)) w.heap.size 0 0 l) :=
    ⟨[], ⟨World.ownsRow_made w #[] 0 (Nat.le_refl _) (by unfold maxLen; omega) (by simp), fun i hi => by omega⟩, (Below.refl _ w).alloc (Nat.le_refl _) _⟩
  go_enter Tryd.func21, Tryd.ntmps21
  go_wp2
  go_loopw [3, 4] (fun t i wr => ∃ (k g cap q : Nat), i = .int .i64 (q : Int) ∧ q = 32 * k ∧ k ≤ blks n ∧ t = .slice (some ⟨g, 0, none⟩) k cap ∧ Hid (BlsEx w wr g k cap l)) (fun _ i _ => n + 64 - (intOf i).toNat)
  case atStart => exact ⟨0, w.heap.size, 0, 0, rfl, rfl, by omega, rfl, B0.out⟩
  case round =>
    clear B0
    obtain ⟨k, g, cap, q, rfl, hq, hk, rfl, HK⟩ := hrel
    have hkb : 32 * blks n ≤ n + 31 := by unfold blks; omega
    have hq2 : q ≤ n + 31 := by omega
    by_cases hlt : q < n
    · have i1 : (q : Int) < (n : Int) := by omega
      obtain ⟨vs, hB, hBel⟩ := HK.out
      obtain ⟨e, He⟩ : ∃ e, Hid (min 32 (n - q) = e) := ⟨_, rfl⟩
      have he1 : e ≤ 32 := by have := He.out; omega
      have he2 : q + e ≤ n := by have := He.out; omega
      have em : (if n < q + 32 then (n : Int) else ((q : Int) + 32)) = ((q + e : Nat) : Int) := by have := He.out; split <;> omega
      have em2 : (if (n : Int) < (q : Int) + 32 then (n : Int) else ((q : Int) + 32)) = ((q + e : Nat) : Int) := by have := He.out; split <;> omega
      have lne : l ≠ [] := fun h => by have h2 := ln.out; rw [h] at h2; simp at h2; omega
      obtain ⟨b, off, hab, hbl, _⟩ := hS.out.sli.2.2.resolve_left lne
      have S1 : Sln (wr.alloc (.cells #[] 5)) (some ⟨b, off + q, none⟩) e (pc l k) := by
        have h1 := slice_from hS.out (lo := q) (by omega) hnc
        have h2 := h1.take (k := e) (by omega)
        rw [if_neg (by omega), hab] at h2
        have e4 : (some (⟨b, off, none⟩ : Addr)).map (·.add q) = some ⟨b, off + q, none⟩ := by simp [Addr.add]
        rw [e4] at h2
        have e5 : (l.drop q).take e = pc l k := by
          have h3 := He.out
          have h4 := ln.out
          unfold pc
          rw [← hq]
          by_cases h5 : 32 ≤ n - q
          · have : e = 32 := by omega
            rw [this]
          · rw [List.take_of_length_le (by simp; omega), List.take_of_length_le (by simp; omega)]
        rw [e5] at h2
        exact h2.below (hBel.alloc hBel.size _)
      have bs := hBel.size
      obtain ⟨a2, c2, w2, hrun, own2, gr2, new2⟩ := app_any (c2 := c - q) (own_empty wr) S1 (by simp) (by omega) (by simp)
      rw [Nat.zero_add] at hrun own2
      rw [List.nil_append] at own2
      have AP1 : Hid ((Builtin.append_ #[26, 26] 26 #[.slice (some ⟨wr.heap.size, 0, none⟩) 0 0, .slice (some ⟨b, off + q, none⟩) (q + e - q) (c - q)]).run Tryd.prog (wr.alloc (.cells #[] 5)) = .ok (.slice a2 e c2) w2) := by rw [show q + e - q = e by omega]; exact hrun
      have b2 : Below wr.heap.size wr w2 := ((Below.refl _ wr).alloc (Nat.le_refl _) _).grown gr2 (by simp) (fun k e => by simp [blkOf] at e; omega)
      have hB2 := hB.below b2
      obtain ⟨g4, cap4, w4, hrun4, own4, gr4⟩ := app_rv w2 w.heap.size g k cap vs (.slice a2 e c2) hB2.own rfl (by have := b2.size; omega) (by omega)
      have AP2 : Hid ((Builtin.append_ #[47, 47] 47 #[.slice (some ⟨g, 0, none⟩) k cap, .slice (some ⟨w2.heap.size, 0, none⟩) 1 1]).run Tryd.prog (w2.alloc (.cells #[.slice a2 e c2] 26)) = .ok (.slice (some ⟨g4, 0, none⟩) (k + 1) cap4) w4) := hrun4
      have F4 : Hid (BlsEx w w4 g4 (k + 1) cap4 l) := by
        refine ⟨vs ++ [.slice a2 e c2], hB2.snoc (own2.base bs) own4 gr4, ?_⟩
        exact ((hBel.trans (b2.mono bs)).alloc (by have := b2.size; omega) _).grown gr4 (by have := b2.size; simp; omega) (fun j e => by cases e; exact hB2.lt.1)
      have HE : Hid (q = 32 * k ∧ q < n) := ⟨hq, hlt⟩
      have hcq : ¬ (c = q) := by omega
      have hqe : q + e ≤ c := by omega
      subst hab
      clear hrun own2 gr2 new2 b2 hB2 hrun4 own4 gr4 S1 hB hBel bs lne hbl hq hkb
      go_wp2_with (first
        | (at_builtin; refine wpList_app (by rfl) (.tmp 13) (.tmp 21) (by rfl) (by rfl) (by rfl) (by rfl) AP1 ?_)
        | (at_builtin; refine wpList_app47 (by rfl) (.tmp 12) (.tmp 23) (by rfl) (by rfl) (by rfl) (by rfl) AP2 ?_))
      go_roundw
      case rel => exact ⟨k + 1, g4, cap4, q + 32, by go_num, by have := HE.out.1; omega, by have := HE.out; unfold blks; omega, rfl, F4.out⟩
      case measure => simp [intOf]; omega
    · have hk2 : k = blks n := by unfold blks at hk ⊢; omega
      subst hk2
      go_wp2
      go_ret
      exact ⟨g, cap, rfl, HK.out⟩
/- a row of rows: the pieces of l -/
def PcS (W : World) (g k : Nat) (l : List Nat) : Prop := ∀ i, i < k → ∃ a e c, W.cell? ⟨g, i, none⟩ = some (.slice a e c) ∧ Sln W a e (pc l i) ∧ (a = none → c = 0)
theorem PcS.below {W W' : World} {g k : Nat} {l : List Nat} (h : PcS W g k l) (hb : Below W.heap.size W W') : PcS W' g k l := fun i hi => by
  obtain ⟨a, e, c, h1, h2, h3⟩ := h i hi
  exact ⟨a, e, c, (hb.cell (p := ⟨g, i, none⟩) (cell_lt h1)).trans h1, h2.below hb, h3⟩
theorem Bls.pcs {W : World} {B g k cap : Nat} {l : List Nat} {vs : List Value} (h : Bls W B g k cap l vs) : PcS W g k l := fun i hi => by
  obtain ⟨a, e, c, h1, h2⟩ := h.cell hi
  exact ⟨a, e, c, h1, h2.sln (by rw [h2.len, pc_len]; omega), h2.cap0⟩
end Go.Proofs.YtmkknklkdgkbaaaDoor

/- Fv -/
/- A range over a function whose iterator keeps cells of its own, laid between the loop's beginning and a bound Z: the caller may change and make what lies behind Z. -/
namespace Go.Proofs.YtmkknklkdgkbaaaDoor
open Go.RowKit Go.Shelf
set_option linter.unusedVariables false
/- all but the blocks from lo to hi is as it was -/
structure Slack (lo hi : Nat) (A B : World) : Prop where
  bel : Below lo A B
  top : ∀ b, hi ≤ b → b < A.heap.size → B.heap[b]? = A.heap[b]?
theorem Slack.mono {lo hi lo' hi' : Nat} {A B : World} (h : Slack lo hi A B) (h1 : lo' ≤ lo) (h2 : hi ≤ hi') : Slack lo' hi' A B := ⟨h.bel.mono h1, fun b hb => h.top b (by omega)⟩
theorem Slack.trans {lo hi : Nat} {A B D : World} (h : Slack lo hi A B) (k : Slack lo hi B D) : Slack lo hi A D := ⟨h.bel.trans k.bel, fun b hb hl => (k.top b hb (by have := h.bel.size; omega)).trans (h.top b hb hl)⟩
theorem Slack.of_below {lo hi : Nat} {A B : World} (h : Below A.heap.size A B) (h1 : lo ≤ A.heap.size) : Slack lo hi A B := ⟨h.mono h1, fun b _ hl => h.block b hl⟩
theorem Slack.start {lo hi : Nat} {A B : World} (h : Below lo A B) (h1 : A.heap.size ≤ hi) : Slack lo hi A B := ⟨h, fun b h2 h3 => by omega⟩
theorem Slack.put {lo hi k : Nat} {W : World} (o : Obj) (h : lo ≤ k) (h2 : k < hi) (hk : k < W.heap.size) : Slack lo hi W (W.putObj k o) := ⟨put_below o h hk, fun b hb _ => World.putObj_heap_other (by omega)⟩
theorem Slack.set {lo hi : Nat} {p : Addr} (W : World) (v : Value) (h : lo ≤ p.block) (h2 : p.block < hi) : Slack lo hi W (W.setCell p v) := ⟨(Below.refl _ W).setCell h v, fun b hb _ => Below.heap_setCell W p v b (by omega)⟩
theorem Slack.block {lo hi : Nat} {A B : World} (h : Slack lo hi A B) {b : Nat} (hb : b < A.heap.size) (h1 : b < lo ∨ hi ≤ b) : B.heap[b]? = A.heap[b]? := h1.elim (h.bel.block b) (fun h2 => h.top b h2 hb)
/- what a round keeps: all below Z but the caller's blocks C -/
structure KeepC (C : Nat → Prop) (m Z : Nat) (A B : World) : Prop where
  size : A.heap.size ≤ B.heap.size
  same : ∀ (b : Nat) (o : Obj), A.heap[b]? = some o → b < Z → ¬ C b → (o.isCells = true ∨ m ≤ b) → B.heap[b]? = some o
/- the iterator's contract -/
def SeqC {α : Type} (F : Fence) (n : Nat) (P : Program) (g : Nat) (lb : Array Value) (encs : α → Array Value) (Gd : Nat → List α → α → World → Prop) (C : Nat → Prop) (S Sp : List α → Prop) (w : World) : Prop :=
  ∀ (l : Nat) (J Jx : Nat → List α → World → Prop) (W : World), Below w.heap.size w W →
    (∀ Z s A B, W.heap.size ≤ Z → J Z s A → Slack W.heap.size Z A B → J Z s B) → (∀ Z s A B, W.heap.size ≤ Z → Jx Z s A → Slack W.heap.size Z A B → Jx Z s B) →
    (∀ Z pre x A, W.heap.size ≤ Z → Z ≤ A.heap.size → J Z pre A → Gd Z pre x A → YieldAt F (n - 1) P l (encs x) A fun e B =>
      (e = .returned (.bool true) ∧ J Z (pre ++ [x]) B ∧ KeepC C W.heap.size Z A B) ∨ (e = .returned (.bool false) ∧ Jx Z (pre ++ [x]) B ∧ KeepC C W.heap.size Z A B)) →
    (∀ Z, W.heap.size ≤ Z → J Z [] W) → CallsIn F n P g (#[.func (.yield l) #[] #[]] ++ lb) W fun e W' => (∃ v, e = .returned v) ∧ ∃ Z, W.heap.size ≤ Z ∧ ((∃ xs, S xs ∧ J Z xs W') ∨ (∃ pre, Sp pre ∧ Jx Z pre W'))
/- how a round's body may end -/
def postC {α : Type} (C : Nat → Prop) (m Z : Nat) (I : List α → World → Prop) (Ix : Code → List α → World → Prop) (xs : List α) (W : World) : Exit → Act → World → Prop
  | .normal, _, W' => KeepC C m Z W W' ∧ I xs W'
  | .ret, _, W' => KeepC C m Z W W' ∧ Ix .ret xs W'
  | .exit id, _, W' => KeepC C m Z W W' ∧ Ix (.exit id) xs W'
  | .goto t, _, W' => KeepC C m Z W W' ∧ Ix (.goto t) xs W'
  | .panic _, _, _ => False
  | .outgrown, _, _ => False
variable {F : Fence} {n : Nat} {P : Program}
theorem rangeC {α : Type} {g : Operand} {ps : Array Tmp} {assign body : Code} {Q : Exit → Act → World → Prop} {a : Act} {w : World}
    (hro : F.round = none) (h1 : 1 ≤ n) {gf : Nat} {lb : Array Value} (hg : a.eval g = .func (.func gf) #[] lb) (hFg : F.fn gf) (eg : ∀ args w, (callFunc gf args).run P w = .ok (.enter gf args) w)
    {encs : α → Array Value} {Gd : Nat → List α → α → World → Prop} {C : Nat → Prop} {S Sp : List α → Prop} {w0 : World} (hseq : SeqC F (n - 1) P gf lb encs Gd C S Sp w0) (hb0 : Below w0.heap.size w0 w) (hps : ∀ x, (encs x).size = ps.size)
    (hC : ∀ b, C b → b < w.heap.size)
    (hGd : ∀ Z pre x A k o', k < Z → Gd Z pre x A → Gd Z pre x (A.putObj k o'))
    (I : Nat → List α → World → Prop) (Ix : Nat → Code → List α → World → Prop) (hI : ∀ Z s A B, w.heap.size + 2 ≤ Z → I Z s A → Slack w.heap.size Z A B → I Z s B) (hIx : ∀ Z c s A B, w.heap.size + 2 ≤ Z → Ix Z c s A → Slack w.heap.size Z A B → Ix Z c s B) (h0 : ∀ Z, w.heap.size + 2 ≤ Z → I Z [] w) (a₁ : α → Act)
    (hassign : ∀ (l : Nat) (x : α) (W : World) (K : Act → World → Prop), K (a₁ x) W →
      assign.wpIn (F.inRound l) (n - 1 - 1) P (Exit.then K (fun _ _ _ => False)) { tmps := (ps.zip (encs x)).foldl (fun t (p, v) => t.setIfInBounds p v) a.tmps, defers := [] } W)
    (hbody : ∀ (l Z : Nat) (pre : List α) (x : α) (W : World), w.heap.size + 2 ≤ Z → Z ≤ W.heap.size → I Z pre W → Gd Z pre x W → body.wpIn (F.inRound l) (n - 1 - 1) P (postC C w.heap.size Z (I Z) (Ix Z) (pre ++ [x]) W) (a₁ x) W)
    (hdone : ∀ (D Z : Nat) (xs : List α) (W : World), w.heap.size ≤ D → D + 2 ≤ Z → S xs → I Z xs W → W.heap[D]? = some (.deferred (some [])) → Q .normal { a with defers := { target := .collected D, args := #[] } :: a.defers } W)
    (hstop : ∀ (D Z : Nat) (c : Code) (pre : List α) (W : World), w.heap.size ≤ D → D + 2 ≤ Z → Sp pre → Ix Z c pre W → W.heap[D]? = some (.deferred (some [])) → c.wpIn F n P Q { a with defers := { target := .collected D, args := #[] } :: a.defers } W) :
    (Code.rangeFunc g ps assign body).wpIn F n P Q a w := by
  refine wpIn_rangeFunc fun fn hfn => ?_
  rw [hro]
  obtain ⟨R, hR⟩ : ∃ R : LoopState → Option Code → Loop, R = fun st pe => { state := st, pending := pe, fn, tmps := a.tmps, params := ps, assign, body, defers := w.heap.size } := ⟨_, rfl⟩
  obtain ⟨D, hD⟩ : ∃ D, D = w.heap.size := ⟨_, rfl⟩
  obtain ⟨V, hV⟩ : ∃ V, V = (w.alloc (.deferred (some []))).alloc (.loop (R .ready none)) := ⟨_, rfl⟩
  have sV : V.heap.size = D + 2 := by rw [hV, hD]; simp
  have bV : Below D w V := by rw [hV]; exact ((Below.refl _ w).alloc (by omega) _).alloc (by simp; omega) _
  have lV : V.heap[D + 1]? = some (.loop (R .ready none)) := by
    have e := World.alloc_heap_new (w.alloc (.deferred (some []))) (.loop (R .ready none))
    rw [World.size_alloc, ← hV, ← hD] at e
    exact e
  have dV : V.heap[D]? = some (.deferred (some [])) := by
    rw [hV, hD]; exact (Below.heap_alloc _ _ _ (by simp)).trans (World.alloc_heap_new w _)
  rw [← hD] at hC hI hIx h0 hbody hdone hstop
  refine ⟨D + 1, [{ target := .collected D, args := #[] }], V, { target := .fn (.func gf) lb, args := #[.func (.yield (D + 1)) #[] #[]] }, V, gf, #[.func (.yield (D + 1)) #[] #[]] ++ lb, V, ?_, ?_, ?_, ?_, fun _ => h1, ?_⟩
  · rw [hV, hR, hD]; exact run_enterLoop_outer _ _ _ _ _
  · simp only [resolve, hg]
    simp [go_sem]
  · intro f' hf'; simp [Target.leads] at hf'; subst hf'; exact hFg
  · simp [invoke, go_sem, eg]
  · have cut : ∀ {Z : Nat} {A B : World}, Slack V.heap.size Z A B → Slack D Z A B := fun h => h.mono (by omega) (Nat.le_refl _)
    refine (hseq (D + 1)
      (fun Z pre W => I Z pre W ∧ W.heap[D + 1]? = some (.loop (R .ready none)) ∧ W.heap[D]? = some (.deferred (some [])))
      (fun Z pre W => ∃ c, Ix Z c pre W ∧ W.heap[D + 1]? = some (.loop (R .done (some c))) ∧ W.heap[D]? = some (.deferred (some [])))
      V (hb0.trans ((hD ▸ bV).mono hb0.size))
      (fun Z s A B hZ hs hb => ⟨hI Z s A B (by omega) hs.1 (cut hb), (hb.bel.block _ (by omega)).trans hs.2.1, (hb.bel.block _ (by omega)).trans hs.2.2⟩)
      (fun Z s A B hZ hs hb => by
        obtain ⟨c, h2, h3, h4⟩ := hs
        exact ⟨c, hIx Z c s A B (by omega) h2 (cut hb), (hb.bel.block _ (by omega)).trans h3, (hb.bel.block _ (by omega)).trans h4⟩)
      ?_ (fun Z hZ => ⟨hI Z _ _ _ (by omega) (h0 Z (by omega)) (Slack.start bV (by omega)), lV, dV⟩)).mono ?_
    · rintro Z pre x W hZ hZW ⟨hi, hl, hk⟩ hx
      rw [sV] at hZ ⊢
      have lt1 : D + 1 < W.heap.size := (Array.getElem?_eq_some_iff.1 hl).1
      have hy := run_yield (P := P) (args := encs x) hl (by rw [hR]; exact hps x)
      rw [hR] at hy
      refine ⟨fn, _, assign, body, hy, roundIn_of_wpIn hfn (hassign _ x W _ ⟨_, run_beginRound hl (by rw [hR]), ?_⟩)⟩
      obtain ⟨W2, hW2⟩ : ∃ W2, W2 = W.putObj (D + 1) (.loop { R .ready none with state := .busy }) := ⟨_, rfl⟩
      rw [← hW2]
      have l2 : W2.heap[D + 1]? = some (.loop { R .ready none with state := .busy }) := by rw [hW2]; exact World.putObj_heap_same lt1
      have o2 : ∀ b, b ≠ D + 1 → W2.heap[b]? = W.heap[b]? := fun b hb => by rw [hW2]; exact World.putObj_heap_other (by omega)
      have s2 : W2.heap.size = W.heap.size := by rw [hW2]; simp
      have i2 : I Z pre W2 := by rw [hW2]; exact hI Z _ _ _ hZ hi (Slack.put _ (by omega) (by omega) lt1)
      have g2 : Gd Z pre x W2 := by rw [hW2]; exact hGd Z pre x W (D + 1) _ (by omega) hx
      have cD : ¬ C D := fun e => by have := hC D e; omega
      have cL : ¬ C (D + 1) := fun e => by have := hC _ e; omega
      refine wpIn_mono (hbody _ Z pre x W2 hZ (by omega) i2 g2) ?_
      have fin : ∀ (j : Option Code) (W3 : World), KeepC C D Z W2 W3 →
          ∃ W4, (Instr.endRound (D + 1) j).run P W3 = .ok (.bool j.isNone) W4 ∧ Slack D Z W3 W4 ∧ W4.heap[D + 1]? = some (.loop (R (if j.isNone then .ready else .done) j)) ∧ W4.heap[D]? = some (.deferred (some [])) ∧ KeepC C (D + 2) Z W W4 := by
        intro j W3 k3
        have l3 := k3.same _ _ l2 (by omega) cL (.inr (by omega))
        have d3 := k3.same D _ ((o2 D (by omega)).trans hk) (by omega) cD (.inr (by omega))
        have lt3 : D + 1 < W3.heap.size := (Array.getElem?_eq_some_iff.1 l3).1
        have e3 := run_endRound (P := P) j l3
        refine ⟨_, e3, Slack.put _ (by omega) (by omega) lt3, ?_, (World.putObj_heap_other (by omega)).trans d3, ⟨?_, ?_⟩⟩
        · rw [World.putObj_heap_same lt3, hR]
        · have := k3.size; rw [s2] at this; simpa using this
        · intro b o hb hbZ hcb hor
          have nb : b ≠ D + 1 := fun e => by
            subst e
            rw [hl] at hb
            cases hb
            rcases hor with h | h
            · cases h
            · omega
          rw [World.putObj_heap_other (by omega)]
          exact k3.same b o ((o2 b nb).trans hb) hbZ hcb (hor.imp id (by omega))
      rintro e a3 W3 hp
      cases e with
      | normal =>
        obtain ⟨k3, i3⟩ := hp
        obtain ⟨W4, e4, b4, l4, d4, k4⟩ := fin none W3 k3
        exact ⟨_, _, e4, .inl ⟨rfl, ⟨hI Z _ _ _ hZ i3 b4, l4, d4⟩, k4⟩⟩
      | ret =>
        obtain ⟨k3, i3⟩ := hp
        obtain ⟨W4, e4, b4, l4, d4, k4⟩ := fin (some .ret) W3 k3
        exact ⟨_, _, e4, .inr ⟨rfl, ⟨.ret, hIx Z _ _ _ _ hZ i3 b4, l4, d4⟩, k4⟩⟩
      | exit id =>
        obtain ⟨k3, i3⟩ := hp
        obtain ⟨W4, e4, b4, l4, d4, k4⟩ := fin (some (.exit id)) W3 k3
        exact ⟨_, _, e4, .inr ⟨rfl, ⟨.exit id, hIx Z _ _ _ _ hZ i3 b4, l4, d4⟩, k4⟩⟩
      | goto t =>
        obtain ⟨k3, i3⟩ := hp
        obtain ⟨W4, e4, b4, l4, d4, k4⟩ := fin (some (.goto t)) W3 k3
        exact ⟨_, _, e4, .inr ⟨rfl, ⟨.goto t, hIx Z _ _ _ _ hZ i3 b4, l4, d4⟩, k4⟩⟩
      | panic c => exact hp.elim
      | outgrown => exact hp.elim
    · have last : ∀ {Z : Nat} (hZ : D + 2 ≤ Z) {W2 : World} {st : LoopState} {pe : Option Code}, W2.heap[D + 1]? = some (.loop (R st pe)) → st ≠ .busy → W2.heap[D]? = some (.deferred (some [])) →
          ∃ W3, (Instr.endLoop (D + 1)).run P W2 = .ok pe W3 ∧ Slack D Z W2 W3 ∧ W3.heap[D]? = some (.deferred (some [])) := by
        intro Z hZ W2 st pe hl hst hk
        have lt2 : D + 1 < W2.heap.size := (Array.getElem?_eq_some_iff.1 hl).1
        have e2 := run_endLoop (P := P) hl (by rw [hR]; exact hst)
        have ep : (R st pe).pending = pe := by rw [hR]
        rw [ep] at e2
        exact ⟨_, e2, Slack.put _ (by omega) (by omega) lt2, (World.putObj_heap_other (by omega)).trans hk⟩
      rintro e W2 ⟨⟨v, rfl⟩, Z, hZ, (⟨xs, hS, hi, hl, hk⟩ | ⟨pre, hSp, c, hi, hl, hk⟩)⟩
      · obtain ⟨W3, e3, b3, d3⟩ := last (Z := Z) (by omega) hl (by simp) hk
        exact ⟨none, _, e3, hdone D Z xs _ (Nat.le_refl _) (by omega) hS (hI Z _ _ _ (by omega) hi b3) d3⟩
      · obtain ⟨W3, e3, b3, d3⟩ := last (Z := Z) (by omega) hl (by simp) hk
        exact ⟨some c, _, e3, hstop D Z c pre _ (Nat.le_refl _) (by omega) hSp (hIx Z _ _ _ _ (by omega) hi b3) d3⟩
theorem KeepC.cell {C : Nat → Prop} {m Z : Nat} {A B : World} (h : KeepC C m Z A B) {p : Addr} {v : Value} (hp : A.cell? p = some v) (h0 : p.block < Z) (h1 : ¬ C p.block) : B.cell? p = some v := by
  obtain ⟨o, h3, h4⟩ := cells_of_cell hp
  exact (World.cell?_of_block ((h.same _ _ h3 h0 h1 (.inl h4)).trans h3.symm)).trans hp
theorem KeepC.refl (C : Nat → Prop) (m Z : Nat) (A : World) : KeepC C m Z A A := ⟨Nat.le_refl _, fun _ _ h _ _ _ => h⟩
theorem KeepC.trans {C : Nat → Prop} {m Z : Nat} {A B D : World} (h : KeepC C m Z A B) (k : KeepC C m Z B D) : KeepC C m Z A D := ⟨Nat.le_trans h.size k.size, fun b o h1 h2 h3 h4 => k.same b o (h.same b o h1 h2 h3 h4) h2 h3 h4⟩
theorem KeepC.of_below (C : Nat → Prop) (m Z : Nat) {A B : World} (h : Below A.heap.size A B) : KeepC C m Z A B := ⟨h.size, fun b o h1 _ _ _ => (h.block b (Array.getElem?_eq_some_iff.1 h1).1).trans h1⟩
theorem KeepC.of_grown {C : Nat → Prop} {r : Nat} (m Z : Nat) {A B : World} (h : A.grownBy B (some r)) (hr : C r ∨ Z ≤ r) : KeepC C m Z A B :=
  ⟨h.size, fun b o h1 h0 h2 _ => (h.block b (Array.getElem?_eq_some_iff.1 h1).1 (fun e => by cases e; exact hr.elim h2 (by omega))).trans h1⟩
theorem KeepC.of_set {C : Nat → Prop} (m Z : Nat) (A : World) (p : Addr) (v : Value) (hr : C p.block ∨ Z ≤ p.block) : KeepC C m Z A (A.setCell p v) :=
  ⟨(KeepsOthers.setCell A p v).size, fun b o h1 h0 h2 _ => (Below.heap_setCell A p v b (fun e => by subst e; exact hr.elim h2 (by omega))).trans h1⟩
theorem chunk_seqC (F : Fence) (N : Nat) (h61 : F.fn 61) (hro : F.round = none) (hN : 1 ≤ N) (Bs Bn b off n c m : Nat) (a' : Option Addr) (haa : 0 < n → a' = some ⟨b, off, none⟩) (hm : 1 ≤ m) (hm2 : m ≤ 64) (hnc : n ≤ c) (hc : n ≤ 140737488352256) (C : Nat → Prop) (hCs : ¬ C Bs) (hCn : ¬ C Bn) (w : World)
    (hs : w.cell? ⟨Bs, 0, none⟩ = some (.slice a' n c)) (hb : w.cell? ⟨Bn, 0, none⟩ = some (.int .i64 (m : Int))) :
    SeqC F N Tryd.prog 61 #[.pointer (some ⟨Bs, 0, none⟩), .pointer (some ⟨Bn, 0, none⟩)] (fun x : Ck n m => #[ckv b off n m x.1]) (fun _ pre x _ => x.1 = pre.length) C (fun ys => ∃ k, n ≤ m * k ∧ ys = cks n m k) (fun pre => ∃ k, pre = cks n m k) w := fun l J Jx W hW hJ hJx hY h0 => by
  have s1 := (hW.cell (p := ⟨Bs, 0, none⟩) (cell_lt hs)).trans hs
  have b1 := (hW.cell (p := ⟨Bn, 0, none⟩) (cell_lt hb)).trans hb
  have ls := cell_lt s1
  have lb := cell_lt b1
  by_cases hn : 0 < n
  · rw [haa hn] at s1
    refine (chunk1_in F N h61 hro hN l Bs Bn b off n c m hm hm2 hnc hc (fun s A => W.heap.size ≤ A.heap.size ∧ J W.heap.size s A) (fun s A => Jx W.heap.size s A) (fun s A h => ⟨h.1, hJ _ s A _ (Nat.le_refl _) h.2 (Slack.of_below ((Below.refl _ _).drew) h.1)⟩) (fun pre x A hj hx => (hY _ pre x A (Nat.le_refl _) hj.1 hj.2 hx).mono fun e B hB => by
      rcases hB with ⟨h1, h2, h3⟩ | h1
      · exact .inl ⟨h1, ⟨Nat.le_trans hj.1 h3.size, h2⟩, fun v hv => h3.cell hv ls hCs, fun v hv => h3.cell hv lb hCn⟩
      · exact .inr ⟨h1.1, h1.2.1⟩) W s1 b1 ⟨Nat.le_refl _, h0 _ (Nat.le_refl _)⟩).mono ?_
    rintro e W' ⟨h1, h2⟩
    refine ⟨h1, _, Nat.le_refl _, ?_⟩
    rcases h2 with ⟨ys, h3, h4⟩ | h3
    · exact .inl ⟨ys, h3, h4.2⟩
    · exact .inr h3
  · obtain rfl : n = 0 := by omega
    refine (chunk0_in F N h61 hro l Bs Bn c m a' (J W.heap.size []) W s1 (h0 _ (Nat.le_refl _))).mono ?_
    rintro e W' ⟨h1, h2⟩
    exact ⟨h1, _, Nat.le_refl _, .inl ⟨[], ⟨0, by omega, rfl⟩, h2⟩⟩
end Go.Proofs.YtmkknklkdgkbaaaDoor

/- Fx -/
/- Blocks' closure as an iterator's contract, with the bound Z. -/
namespace Go.Proofs.YtmkknklkdgkbaaaDoor
open Go.ChangeShapes Go.WideShapes Go.ChangeAt Go.RowKit Go.Shelf
set_option maxRecDepth 20000
set_option linter.unusedVariables false
set_option linter.unusedSimpArgs false
attribute [local go_sem] Oper.semAt_some
theorem keepC_round {C : Nat → Prop} {m D k Z : Nat} {U w1 W3 : World} (h : KeepC C m Z w1 W3) (hb : Below U.heap.size U w1) (hm : m ≤ D) : KeepC (fun b => C b ∨ b = k) D Z U W3 :=
  ⟨Nat.le_trans hb.size h.size, fun b o h1 h0 h2 h3 => by
    have hl : b < U.heap.size := (Array.getElem?_eq_some_iff.1 h1).1
    exact h.same b o ((hb.block b hl).trans h1) h0 (fun hc => h2 (.inl hc)) (h3.imp id (fun h => by omega))⟩
theorem keepC_set {C : Nat → Prop} {D k Z : Nat} {U W3 : World} (h : KeepC (fun b => C b ∨ b = k) D Z U W3) (v : Value) : KeepC (fun b => C b ∨ b = k) D Z U (W3.setCell ⟨k, 0, none⟩ v) :=
  h.trans (KeepC.of_set D Z W3 ⟨k, 0, none⟩ v (.inl (.inr rfl)))
set_option maxHeartbeats 2000000 in
theorem blocks_seqC (N : Nat) (hN : 9 ≤ N) (K n ck B0 : Nat) (ak : Option Addr) (l : List Nat) (C : Nat → Prop) (w : World) (hk : w.cell? ⟨K, 0, none⟩ = some (.slice ak n ck)) (own : Own w B0 ak n ck l) (hn : n ≤ 140737488352256) (hnc : n ≤ ck)
    (hCK : ¬ C K) (hCa : ∀ q, blkOf ak = some q → ¬ C q) (hCw : ∀ b, C b → b < w.heap.size) :
    SeqC Fence.wide N Tryd.prog 42 #[.pointer (some ⟨K, 0, none⟩)] (bencs (n := n)) (Gdb l n) C (fun xs => ∃ k, n ≤ 32 * k ∧ xs.map Bk.ck = cks n 32 k) (fun pre => ∃ k, pre.map Bk.ck = cks n 32 k) w := fun L J Jx W hW hJ hJx hY h0 => by
  have hk1 := (hW.cell (p := ⟨K, 0, none⟩) (cell_lt hk)).trans hk
  have own1 : Own W B0 ak n ck l := own.block (fun q hq => hW.block q (own.ge q hq).2)
  refine callsIn_of_wp_marks Tryd.func42 rfl trivial ?_ rfl
  simp only [Tryd.ntmps42, List.size_toArray, List.length_cons, List.length_nil, Nat.reduceAdd, Nat.reduceSub, Array.replicate_succ, Array.replicate_zero, List.push_toArray, List.append_toArray, List.nil_append, List.cons_append]
  have h1 : 1 ≤ N := by omega
  have h2 : 1 ≤ N - 1 := by omega
  obtain ⟨W2, hW2⟩ : ∃ W2, W2 = (W.alloc (.cells #[.func (.yield L) #[] #[]] 81)).alloc (.cells #[.int .i64 0] 3) := ⟨_, rfl⟩
  have sW2 : W2.heap.size = W.heap.size + 2 := by rw [hW2]; simp
  have y2 : Boxed W2 W.heap.size 81 (.func (.yield L) #[] #[]) := by rw [hW2]; exact (Boxed.new W 81 _).alloc _
  have n2 : Boxed W2 (W.heap.size + 1) 3 (.int .i64 0) := by
    have e := Boxed.new (W.alloc (.cells #[.func (.yield L) #[] #[]] 81)) 3 (.int .i64 0)
    rw [World.size_alloc, ← hW2] at e
    exact e
  have b2 : Below W.heap.size W W2 := by rw [hW2]; exact ((Below.refl _ W).alloc (Nat.le_refl _) _).alloc (by simp) _
  have hk2 : W2.cell? ⟨K, 0, none⟩ = some (.slice ak n ck) := (b2.cell (p := ⟨K, 0, none⟩) (cell_lt hk1)).trans hk1
  have own2 : Own W2 B0 ak n ck l := own1.block (fun q hq => b2.block q (own1.ge q hq).2)
  have SW2 : Hid (W2.heap.size = W.heap.size + 2) := sW2
  clear sW2
  rw [hW2] at hk2
  gi_wp2_with (refine ⟨trivial, ?_⟩; gi_at_call 43; rw [← hW2]; rw [← hW2] at hk2; clear hW2; refine (chunk_in Fence.wide _ trivial rfl _ _ _ 32 (by omega) _).mono ?_; rintro e V ⟨rfl, hV0⟩; have HV : Hid (V = (W2.alloc (.cells #[.slice ak n ck] 26)).alloc (.cells #[.int .i64 ((32 : Nat) : Int)] 3)) := hV0; clear hV0)
  have hV := HV.out
  have sW2 := SW2.out
  have b4 : Below W2.heap.size W2 V := by rw [hV]; exact ((Below.refl _ W2).alloc (Nat.le_refl _) _).alloc (by simp) _
  have sV : V.heap.size = W.heap.size + 4 := by rw [hV]; simp [sW2]
  have c2 : V.cell? ⟨W2.heap.size, 0, none⟩ = some (.slice ak n ck) := by rw [hV]; exact ((Boxed.new W2 26 _).alloc _).cell
  have c3 : V.cell? ⟨W2.heap.size + 1, 0, none⟩ = some (.int .i64 ((32 : Nat) : Int)) := by
    have e := (Boxed.new (W2.alloc (.cells #[.slice ak n ck] 26)) 3 (.int .i64 ((32 : Nat) : Int))).cell
    rw [World.size_alloc] at e
    rw [hV]
    exact e
  have y4 : Boxed V W.heap.size 81 (.func (.yield L) #[] #[]) := Boxed.blk y2 (b4.block _ (by omega))
  have n4 : Boxed V (W.heap.size + 1) 3 (.int .i64 0) := Boxed.blk n2 (b4.block _ (by omega))
  have own4 : Own V B0 ak n ck l := own2.block (fun q hq => b4.block q (own2.ge q hq).2)
  have b5 : Below W.heap.size W V := b2.trans (b4.mono (by omega))
  obtain ⟨g, hg⟩ : ∃ g, 0 < n → ak = some ⟨g, 0, none⟩ := by
    by_cases h : 0 < n
    · obtain ⟨g, _, h3, _⟩ := own.at h
      exact ⟨g, fun _ => h3⟩
    · exact ⟨0, fun h' => absurd h' h⟩
  clear hV HV hk2 y2 n2 own2
  refine rangeC (C := fun b => C b ∨ b = W.heap.size + 1) rfl (by omega) (gf := 61) (lb := #[.pointer (some ⟨W2.heap.size, 0, none⟩), .pointer (some ⟨W2.heap.size + 1, 0, none⟩)]) rfl trivial (enters_of Tryd.func61 (by kernel_rfl) rfl)
    (chunk_seqC Fence.wide (N - 1) trivial rfl (by omega) W2.heap.size (W2.heap.size + 1) g 0 n ck 32 ak hg (by omega) (by omega) hnc hn _ ?c1 ?c2 V c2 c3) (Below.refl _ _) (fun _ => rfl) ?hC ?hGd
    (fun Z pre U => ∃ xs : List (Bk n), xs.map Bk.ck = pre ∧ J Z xs U ∧ Boxed U W.heap.size 81 (.func (.yield L) #[] #[]) ∧ Boxed U (W.heap.size + 1) 3 (.int .i64 ((pre.length : Nat) : Int)) ∧ Own U B0 ak n ck l)
    (fun Z c pre U => c = .ret ∧ ∃ xs : List (Bk n), xs.map Bk.ck = pre ∧ Jx Z xs U) ?hI ?hIx (fun Z hZ => ⟨[], rfl, hJ Z _ _ _ (by omega) (h0 Z (by omega)) (Slack.start b5 (by omega)), y4, n4, own4⟩)
    (fun x => { tmps := #[.func (.yield L) #[] #[], .pointer (some ⟨K, 0, none⟩), .pointer (some ⟨W.heap.size, 0, none⟩), .pointer (some ⟨W.heap.size + 1, 0, none⟩), ckv g 0 n 32 x.1, .slice ak n ck, .func (.func 61) #[] #[.pointer (some ⟨W2.heap.size, 0, none⟩), .pointer (some ⟨W2.heap.size + 1, 0, none⟩)], ckv g 0 n 32 x.1, undef, undef, undef, undef, undef, undef, undef, undef], defers := [] }) ?assign ?body ?done ?stop
  case c1 => exact fun h => h.elim (fun h => by have := hCw _ h; have := hW.size; omega) (fun h => by omega)
  case c2 => exact fun h => h.elim (fun h => by have := hCw _ h; have := hW.size; omega) (fun h => by omega)
  case hC => exact fun b h => h.elim (fun h => by have := hCw _ h; have := hW.size; omega) (fun h => by omega)
  case hGd => exact fun _ _ _ _ _ _ _ h => h
  case hI =>
    rintro Z pre A B hZ ⟨xs, e1, j1, k1, k2, k3⟩ hb
    exact ⟨xs, e1, hJ Z _ _ _ (by omega) j1 (hb.mono (by omega) (Nat.le_refl _)), Boxed.blk k1 (hb.bel.block _ (by omega)), Boxed.blk k2 (hb.bel.block _ (by omega)), k3.block (fun q hq => hb.bel.block q (by have := (own4.ge q hq).2; omega))⟩
  case hIx =>
    rintro Z c pre A B hZ ⟨e0, xs, e1, j1⟩ hb
    exact ⟨e0, xs, e1, hJx Z _ _ _ (by omega) j1 (hb.mono (by omega) (Nat.le_refl _))⟩
  case assign =>
    clear sW2
    intro l' x U K' hK
    gi_wp2
    exact hK
  case body =>
    rintro l' Z pre x U hZ hU ⟨xs, e1, j1, k1, k2, k3⟩ hx
    have HZ : Hid (V.heap.size + 2 ≤ Z ∧ Z ≤ U.heap.size ∧ V.heap.size = W.heap.size + 4) := ⟨hZ, hU, sV⟩
    have OG : Hid (∀ q, blkOf ak = some q → q < W.heap.size) := fun q hq => (own1.ge q hq).2
    have hp : 0 < n := by have := x.2; omega
    have ha := hg hp
    have hx2 := x.2
    have lx : xs.length = pre.length := by rw [← e1, List.length_map]
    have sl := (k3.sln hn).len
    have S0 : Hid (Sln U.drew (some ⟨g, 0 + 32 * x.1, none⟩) (ckn n 32 x.1) (pc l x.1)) := by
      have h1 := slice_from (k3.sln hn) (Nat.le_of_lt hx2) hnc
      have h2 := h1.take (k := ckn n 32 x.1) (by unfold ckn; omega)
      rw [if_neg (by omega), ha] at h2
      have e3 : (l.drop (32 * x.1)).take (ckn n 32 x.1) = pc l x.1 := by
        unfold pc ckn
        by_cases h3 : 32 ≤ n - 32 * x.1
        · rw [Nat.min_eq_left h3]
        · rw [Nat.min_eq_right (by omega), List.take_of_length_le (by simp; omega), List.take_of_length_le (by simp; omega)]
      rw [e3] at h2
      have e4 : (some (⟨g, 0, none⟩ : Addr)).map (·.add (32 * x.1)) = some ⟨g, 0 + 32 * x.1, none⟩ := by simp [Addr.add]; omega
      rw [e4] at h2
      exact h2.drew
    have e32 : ckn n 32 x.1 ≤ 32 := by unfold ckn; omega
    simp only [ckv]
    obtain ⟨e, He⟩ : ∃ e, Hid (ckn n 32 x.1 = e) := ⟨_, rfl⟩
    obtain ⟨q, Hq⟩ : ∃ q, Hid (0 + 32 * x.1 = q) := ⟨_, rfl⟩
    rw [He.out] at S0 e32 ⊢
    rw [Hq.out] at S0 ⊢
    have HC : Hid ((some (⟨g, q, none⟩ : Addr)) = none → e = 0) := fun h => by cases h
    have cy : U.drew.cell? ⟨W.heap.size, 0, none⟩ = some (.func (.yield L) #[] #[]) := Boxed.cell k1
    have cn : U.drew.cell? ⟨W.heap.size + 1, 0, none⟩ = some (.int .i64 ((pre.length : Nat) : Int)) := Boxed.cell k2
    have J1 : Hid (J Z xs U ∧ Own U B0 ak n ck l ∧ Boxed U W.heap.size 81 (.func (.yield L) #[] #[]) ∧ Boxed U (W.heap.size + 1) 3 (.int .i64 ((pre.length : Nat) : Int))) := ⟨j1, k3, k1, k2⟩
    have HX : Hid (x.1 = pre.length ∧ 32 * x.1 < n) := ⟨hx, hx2⟩
    clear sW2 ha hx2 sl k1 k2 k3 j1 hx hp
    obtain ⟨p, Hp⟩ : ∃ p, Hid (pre.length = p) := ⟨_, rfl⟩
    rw [Hp.out] at cn
    have hpp : 1 ≤ N - 1 - 1 := by omega
    have hmo : Tryd.prog.follows .mixedOrders = true := by kernel_rfl
    have sd : U.drew.heap.size = U.heap.size := rfl
    gi_wp2
    gi_region_with_o (first
      | (refine ⟨trivial, ?_⟩; gi_at_call 41; refine (CallsIn.inRound l' (callsIn_wide.2 (clone_n S0 HC))).mono ?_; rintro e' w1 ⟨a', c', rfl, H1⟩
         obtain ⟨X, HX2⟩ : ∃ X : Bk n, Hid (X = ⟨p, x.1, HX.out.2, a', e, c'⟩) := ⟨_, rfl⟩
         have bd : Below U.heap.size U w1 := ((Below.refl _ U).drew).trans H1.out.2
         have J2 : Hid (J Z xs w1 ∧ Own w1 B0 ak n ck l ∧ Boxed w1 W.heap.size 81 (.func (.yield L) #[] #[]) ∧ Boxed w1 (W.heap.size + 1) 3 (.int .i64 ((pre.length : Nat) : Int))) :=
           ⟨hJ Z _ _ _ (by have := HZ.out; omega) J1.out.1 (Slack.of_below bd (by have := HZ.out; omega)), J1.out.2.1.block (fun q hq => bd.block q (J1.out.2.1.ge q hq).2), Boxed.blk J1.out.2.2.1 (bd.block _ (by have := HZ.out; omega)), Boxed.blk J1.out.2.2.2 (bd.block _ (by have := HZ.out; omega))⟩
         have cy1 : w1.cell? ⟨W.heap.size, 0, none⟩ = some (.func (.yield L) #[] #[]) := Boxed.cell J2.out.2.2.1
         have cn1 : w1.cell? ⟨W.heap.size + 1, 0, none⟩ = some (.int .i64 (p : Int)) := by rw [← Hp.out]; exact Boxed.cell J2.out.2.2.2
         have GX : Gdb l n Z xs X w1 := by
           rw [HX2.out]
           exact ⟨by show p = xs.length; rw [lx, Hp.out], by show x.1 = xs.length; rw [lx]; exact HX.out.1, e32, H1.out.1.base (by have := HZ.out; show Z ≤ U.heap.size; omega)⟩
         have Y := yield_any (m' := N - 1 - 1 - 1) (hY Z xs X w1 (by have := HZ.out; omega) (by have := HZ.out; have := bd.size; omega) J2.out.1 GX)
         have BX : bencs X = #[.int .i64 (p : Int), .slice a' e c'] := by rw [HX2.out]; rfl
         rw [BX] at Y
         obtain ⟨fn, tmps, assign, body, hy, hR0⟩ := Y
         have hR := hR0.mono (R' := fun e2 W3 => ∃ bb : Bool, e2 = .returned (.bool bb) ∧ Hid ((bb = true ∧ J Z (xs ++ [X]) W3 ∧ KeepC C W.heap.size Z w1 W3) ∨ (bb = false ∧ Jx Z (xs ++ [X]) W3 ∧ KeepC C W.heap.size Z w1 W3))) (fun e2 W3 h => by
           rcases h with ⟨h1, h2⟩ | ⟨h1, h2⟩
           · exact ⟨true, h1, .inl ⟨rfl, h2⟩⟩
           · exact ⟨false, h1, .inr ⟨rfl, h2⟩⟩)
         clear hR0 GX BX)
      | (refine hR.mono ?_; rintro e2 W3 ⟨bb, rfl, H3⟩))
    all_goals
      have XA : Hid (X.a = a' ∧ X.ck = x) := by rw [HX2.out]; exact ⟨rfl, rfl⟩
      have K0 : Hid (KeepC C W.heap.size Z w1 W3) := by
        rcases H3.out with h | h
        · exact h.2.2
        · exact h.2.2
      have FR : Hid (KeepC (fun b => C b ∨ b = W.heap.size + 1) V.heap.size Z U W3) := keepC_round K0.out bd (by omega)
      have N3 : Boxed W3 (W.heap.size + 1) 3 (.int .i64 (p : Int)) := by
        have h1 := J2.out.2.2.2
        rw [Hp.out] at h1
        exact K0.out.same _ _ h1 (by have := HZ.out; omega) (fun h => by have := hCw _ h; have := hW.size; omega) (.inl rfl)
      have Y3 : Hid (Boxed W3 W.heap.size 81 (.func (.yield L) #[] #[])) :=
        K0.out.same _ _ J2.out.2.2.1 (by have := HZ.out; omega) (fun h => by have := hCw _ h; have := hW.size; omega) (.inl rfl)
      have O3 : Hid (Own W3 B0 ak n ck l) := J2.out.2.1.block (fun q hq => by
        obtain ⟨o, h1, h2⟩ := own_cells J2.out.2.1 hq
        rw [h1]
        exact K0.out.same _ _ h1 (by have := OG.out q hq; have := HZ.out; omega) (hCa q hq) (.inl h2))
      have cn3 := Boxed.cell N3
      have fn3 := Boxed.frozen N3
      have B3 : Hid (Boxed W3 (W.heap.size + 1) 3 (.int .i64 (p : Int))) := N3
      have pb : p ≤ 140737488352256 := by
        have h1 := HX.out.1
        have h2 := HX.out.2
        rw [Hp.out] at h1
        omega
      have E1 : Hid (xs.map Bk.ck = pre ∧ xs.length = pre.length) := ⟨e1, lx⟩
      clear N3 bd hy hR cy1 cn1 cy cn e1 lx sd sV hU hZ b4 b5 b2 c2 c3 y4 n4 own4 hk own hk1 own1 hY h0 hg
      cases bb with
      | true =>
        have F4 : Hid (postC (fun b => C b ∨ b = W.heap.size + 1) V.heap.size Z (fun pre U => ∃ xs : List (Bk n), xs.map Bk.ck = pre ∧ J Z xs U ∧ Boxed U W.heap.size 81 (.func (.yield L) #[] #[]) ∧ Boxed U (W.heap.size + 1) 3 (.int .i64 ((pre.length : Nat) : Int)) ∧ Own U B0 ak n ck l)
            (fun c pre U => c = .ret ∧ ∃ xs : List (Bk n), xs.map Bk.ck = pre ∧ Jx Z xs U) (pre ++ [x]) U .normal ⟨#[], []⟩ (W3.setCell ⟨W.heap.size + 1, 0, none⟩ (.int .i64 ((p : Int) + 1)))) := by
          refine ⟨keepC_set FR.out _, xs ++ [X], by simp [E1.out.1, XA.out.2], ?_, Boxed.other Y3.out (by omega) _, ?_, ?_⟩
          · rcases H3.out with h | h
            · exact hJ Z _ _ _ (by have := HZ.out; omega) h.2.1 (Slack.set (p := ⟨W.heap.size + 1, 0, none⟩) W3 _ (by show W.heap.size ≤ W.heap.size + 1; omega) (by show W.heap.size + 1 < Z; have := HZ.out; omega))
            · cases h.1
          · have h1 := Boxed.set (.int .i64 ((p : Int) + 1)) B3.out
            have h2 : (((pre ++ [x]).length : Nat) : Int) = (p : Int) + 1 := by rw [List.length_append, Hp.out]; simp
            rw [h2]
            exact h1
          · exact O3.out.block (fun q hq => Below.heap_setCell W3 _ _ q (fun e => by have := OG.out q hq; have e' : q = W.heap.size + 1 := e; omega))
        clear FR Y3 O3 B3 K0 J2 J1 H1 H3 XA HX2 E1 S0 HC He Hq
        clear hW hJ hJx hCK hCa hCw hn hnc OG HX hmo hpp
        gi_wp2
        exact F4.out
      | false =>
        have F4 : Hid (KeepC (fun b => C b ∨ b = W.heap.size + 1) V.heap.size Z U W3 ∧ (∃ xs : List (Bk n), xs.map Bk.ck = pre ++ [x] ∧ Jx Z xs W3)) := by
          refine ⟨FR.out, xs ++ [X], by simp [E1.out.1, XA.out.2], ?_⟩
          rcases H3.out with h | h
          · cases h.1
          · exact h.2.1
        clear FR Y3 O3 B3 K0 J2 J1 H1 H3 XA HX2 E1 S0 HC He Hq
        clear hW hJ hJx hCK hCa hCw hn hnc OG HX pb hmo hpp
        gi_wp2
        exact ⟨F4.out.1, rfl, F4.out.2⟩
  case done =>
    rintro D Z ys U hD hZ ⟨k, q1, q2⟩ ⟨xs, e1, j1, k1, k2, k3⟩ hK
    have lD : D < U.heap.size := (Array.getElem?_eq_some_iff.1 hK).1
    have j2 := hJ Z _ _ _ (by omega) j1 (Slack.put (.deferred none) (show W.heap.size ≤ D by omega) (by omega) lD)
    have zz : W.heap.size ≤ Z := by omega
    clear sW2
    gi_wp2
    refine ⟨by simp, .inl ⟨_, _, rfl, run_takeDeferred hK, ?_⟩⟩
    exact ⟨_, results_none rfl _ _ _, ⟨_, rfl⟩, Z, zz, .inl ⟨xs, ⟨k, q1, e1.trans q2⟩, j2⟩⟩
  case stop =>
    rintro D Z c pre U hD hZ ⟨k, q1⟩ ⟨rfl, xs, e1, j1⟩ hK
    have lD : D < U.heap.size := (Array.getElem?_eq_some_iff.1 hK).1
    have j2 := hJx Z _ _ _ (by omega) j1 (Slack.put (.deferred none) (show W.heap.size ≤ D by omega) (by omega) lD)
    have zz : W.heap.size ≤ Z := by omega
    clear sW2
    gi_wp2
    refine ⟨by simp, .inl ⟨_, _, rfl, run_takeDeferred hK, ?_⟩⟩
    exact ⟨_, results_none rfl _ _ _, ⟨_, rfl⟩, Z, zz, .inr ⟨xs, ⟨k, e1.trans q1⟩, j2⟩⟩
end Go.Proofs.YtmkknklkdgkbaaaDoor

/- Ld -/
/- What a row of this seat lists, taken apart: the constants, the errors, the greatest numbers. -/
namespace Go.Proofs.YtmkknklkdgkbaaaDoor
open Go.ChangeShapes Go.WideShapes Go.ChangeAt Go.RowKit
set_option maxRecDepth 20000
set_option linter.unusedVariables false
set_option linter.unusedSimpArgs false
theorem laidVars_app {P : Program} {W : World} {B : List (String × DataW Unit)} : ∀ (A : List (String × DataW Unit)) (ps : List MemPlace), DataW.LaidVars P W (A ++ B) ps → ∃ p1 p2, DataW.LaidVars P W A p1 ∧ DataW.LaidVars P W B p2 ∧ ps = p1 ++ p2
  | [], ps, h => ⟨[], ps, rfl, h, rfl⟩
  | x :: A, ps, h => by
    obtain ⟨g, t, cs, fuel, p, q, h1, h2, h3, h4, h5, h6⟩ := h
    obtain ⟨p1, p2, k1, k2, rfl⟩ := laidVars_app A q h5
    exact ⟨_, p2, ⟨g, t, cs, fuel, p, p1, h1, h2, h3, h4, k1, rfl⟩, k2, by rw [h6]; simp only [List.append_assoc]⟩
theorem laidMet_app {P : Program} {W : World} {A B : List (String × DataW Unit)} (h : laidMet P (A ++ B) W) : laidMet P A W ∧ laidMet P B W := by
  obtain ⟨ps, h1, h2, h3⟩ := h
  obtain ⟨p1, p2, k1, k2, rfl⟩ := laidVars_app A ps h1
  have n := List.nodup_append.1 h2
  exact ⟨⟨p1, k1, n.1, fun b off hm => h3 b off (List.mem_append_left _ hm)⟩, ⟨p2, k2, n.2.1, fun b off hm => h3 b off (List.mem_append_right _ hm)⟩⟩
theorem datumM : (Rows.laid_bollard_frame_most : DataW Unit) = Lib.tabData .i64 mostL := by rfl
theorem mst_of {W : World} (h : laidMet Tryd.prog [("bollard/frame.most", Rows.laid_bollard_frame_most)] W) : Mst W := by
  rw [datumM] at h
  have T := Lib.tabIs_of_head (g := 18) (t := 64) (e := 3) (n := 7) (by kernel_rfl) (by kernel_rfl) Tryd.underlying64 Tryd.underlying3 (by kernel_rfl) (by kernel_rfl) h
  intro i hi
  exact T.cell (g := 18) (by kernel_rfl) i hi
theorem laid_all {W : World} {laid : List (String × DataW Unit)} (l : List (String × Nat × List UInt8)) (hl : laid = [("bollard/sha.constants", Rows.laid_bollard_sha_constants)] ++ named l ++ [("bollard/frame.most", Rows.laid_bollard_frame_most)]) (hp : laid.all (fun x => x.2.handleName?.isNone) = true) (h : laidMetH Tryd.prog laid W) : Kst W ∧ Mst W ∧ laidMet Tryd.prog (named l) W := by
  rw [MakeChecks.laidMetH_plain _ _ _ hp, hl] at h
  have h1 := laidMet_app h
  have h2 := laidMet_app h1.1
  exact ⟨kst_of h2.1, mst_of h1.2, h2.2⟩
theorem sent_of2 {W : World} {M : Nat} (l : List (String × Nat × List UInt8)) (hg : ∀ v ∈ l, Tryd.prog.globalNamed v.1 = some v.2.1 ∧ (Tryd.prog.globals[v.2.1]?).map (·.type) = some 30)
    (hnd : (l.map (·.2.1)).Nodup) (hM : ∀ g, g < M → ∃ v ∈ l, v.2.1 = g) (h : laidMet Tryd.prog (named l) W) : ∃ E, Sent W M E := by
  obtain ⟨ps, h1, h2, h3⟩ := h
  obtain ⟨E, hE⟩ := sent_ind l ps hg hnd h1 h2 (fun b off hm => (h3 b off hm).2)
  refine ⟨E, fun g hg => ?_, fun g hg => ?_, fun g g' hg hg' hne => ?_⟩
  · obtain ⟨v, hv, rfl⟩ := hM g hg
    exact (hE v hv).1
  · obtain ⟨v, hv, rfl⟩ := hM g hg
    obtain ⟨cs, t, h4⟩ := (h3 _ _ (hE v hv).2.1).1
    exact ⟨cs, t, h4⟩
  · obtain ⟨v, hv, rfl⟩ := hM g hg
    obtain ⟨v', hv', rfl⟩ := hM g' hg'
    exact (hE v hv).2.2 v' hv' hne
end Go.Proofs.YtmkknklkdgkbaaaDoor

/- Lb -/
/- FrameWhole: the blocks one behind the other are the bytes. -/
namespace Go.Proofs.YtmkknklkdgkbaaaDoor
open Go.ChangeShapes Go.WideShapes Go.ChangeAt Go.RowKit Go.Shelf
set_option maxRecDepth 20000
set_option linter.unusedVariables false
set_option linter.unusedSimpArgs false
attribute [local go_sem] Oper.semAt_some
theorem boxed_at {W : World} {B D : Nat} {t : TypeId} {v : Value} {o : Obj} (h : Boxed W B t v) (hD : B ≠ D) : Boxed (W.putObj D o) B t v := (World.putObj_heap_other (by omega)).trans h
theorem KeepC.of_grownO {C : Nat → Prop} {r : Option Nat} (m Z : Nat) {A B : World} (h : A.grownBy B r) (hr : ∀ q, r = some q → C q ∨ Z ≤ q) : KeepC C m Z A B :=
  ⟨h.size, fun b o h1 h0 h2 _ => (h.block b (Array.getElem?_eq_some_iff.1 h1).1 (fun e => by rcases hr b e.symm with h | h; exact h2 h; omega)).trans h1⟩
theorem take_pc (l : List Nat) (j : Nat) : l.take (32 * j) ++ pc l j = l.take (32 * (j + 1)) := by
  rw [pc, show 32 * (j + 1) = 32 * j + 32 by omega, List.take_add]
/- what the loop holds: the row all, wherever it lies, and the boxes -/
structure Wh (w U : World) (R Z : Nat) (a : Option Addr) (k c : Nat) (L : List Nat) (sh : Bool) : Prop where
  own : Own U w.heap.size a k c L
  lies : ∀ q, blkOf a = some q → q = R ∨ Z ≤ q
  b3 : Boxed U (R + 1) 26 (.slice a k c)
  b4 : Boxed U (R + 1 + 1) 4 (.bool sh)
  b2 : Boxed U w.heap.size 4 (.bool false)
  bel : Below w.heap.size w U
theorem Wh.slack {w A B : World} {R Z m : Nat} {a : Option Addr} {k c : Nat} {L : List Nat} {sh : Bool} (h : Wh w A R Z a k c L sh) (hb : Slack m Z A B) (hm : R + 2 < m) (hw : w.heap.size < R) : Wh w B R Z a k c L sh :=
  ⟨h.own.block (fun q hq => hb.block (h.own.ge q hq).2 ((h.lies q hq).imp (fun e => by omega) id)), h.lies, Boxed.blk h.b3 (hb.bel.block _ (by omega)), Boxed.blk h.b4 (hb.bel.block _ (by omega)), Boxed.blk h.b2 (hb.bel.block _ (by omega)), h.bel.trans (hb.bel.mono (by omega))⟩
theorem wh_app {w U : World} {R Z m : Nat} {a : Option Addr} {k c : Nat} {L : List Nat} (h : Wh w U R Z a k c L false) {xa : Option Addr} {xe xc : Nat} {P : List Nat} (ho : Own U Z xa xe xc P) (hroom : k + xe ≤ 140737488352256) (hZ : R + 2 < Z) (hw : w.heap.size < R) (hZU : Z ≤ U.heap.size) (v : Bool) :
    ∃ a' c' U3, Hid ((Builtin.append_ #[26, 26] 26 #[.slice a k c, .slice xa xe xc]).run Tryd.prog (U.setCell ⟨R + 1 + 1, 0, none⟩ (.bool v)) = .ok (.slice a' (k + xe) c') U3) ∧ (U.setCell ⟨R + 1 + 1, 0, none⟩ (.bool v)).cell? ⟨R + 1, 0, none⟩ = some (.slice a k c) ∧
      U3.cell? ⟨R + 1, 0, none⟩ = some (.slice a k c) ∧ U3.frozen? ⟨R + 1, 0, none⟩ = false ∧ Wh w (U3.setCell ⟨R + 1, 0, none⟩ (.slice a' (k + xe) c')) R Z a' (k + xe) c' (L ++ P) v ∧ KeepC (fun b => b = R ∨ b = R + 1 ∨ b = R + 2) m Z U (U3.setCell ⟨R + 1, 0, none⟩ (.slice a' (k + xe) c')) := by
  obtain ⟨W1, HW1⟩ : ∃ W1, W1 = U.setCell ⟨R + 1 + 1, 0, none⟩ (.bool v) := ⟨_, rfl⟩
  rw [← HW1]
  have o1 : ∀ q, q ≠ R + 2 → W1.heap[q]? = U.heap[q]? := fun q hq => by rw [HW1]; exact Below.heap_setCell U _ _ q hq
  have s1 : U.heap.size ≤ W1.heap.size := by rw [HW1]; exact (KeepsOthers.setCell U _ _).size
  have lies := h.lies
  have own1 : Own W1 w.heap.size a k c L := h.own.block (fun q hq => o1 q (by have := lies q hq; omega))
  have S1 : Sln W1 xa xe P := (ho.block (fun q hq => o1 q (by have := (ho.ge q hq).1; omega))).sln (by omega)
  have b31 : Boxed W1 (R + 1) 26 (.slice a k c) := Boxed.blk h.b3 (o1 _ (by omega))
  have b41 : Boxed W1 (R + 1 + 1) 4 (.bool v) := by rw [HW1]; exact h.b4.set _
  have b21 : Boxed W1 w.heap.size 4 (.bool false) := Boxed.blk h.b2 (o1 _ (by omega))
  have bel1 : Below w.heap.size w W1 := by rw [HW1]; exact h.bel.setCell (by show w.heap.size ≤ R + 1 + 1; omega) _
  obtain ⟨a', c', U3, hrun, own3, gr3, new3⟩ := app_any own1 S1 ho.cap0 hroom bel1.size
  have ne : ∀ b, b ≠ R → b < Z → some b ≠ blkOf a := fun b h1 h2 e => by have := lies b e.symm; omega
  have b33 := b31.kept gr3 (ne _ (by omega) (by omega))
  have b43 := b41.kept gr3 (ne _ (by omega) (by omega))
  have b23 := b21.kept gr3 (ne _ (by omega) (by omega))
  have lies' : ∀ q, blkOf a' = some q → q = R ∨ Z ≤ q := fun q hq => by
    rcases new3 q hq with h1 | h1
    · exact lies q h1
    · omega
  refine ⟨a', c', U3, hrun, b31.cell, b33.cell, b33.frozen, ⟨?_, lies', b33.set _, b43.other (by omega) _, b23.other (by omega) _, ?_⟩, ?_⟩
  · exact own3.block (fun q hq => Below.heap_setCell U3 _ _ q (by show q ≠ R + 1; have := lies' q hq; omega))
  · exact (bel1.grown gr3 bel1.size (fun j e => by have := lies j e; have := (own1.ge j e).1; omega)).setCell (by show w.heap.size ≤ R + 1; omega) _
  · have k1 : KeepC (fun b => b = R ∨ b = R + 1 ∨ b = R + 2) m Z U W1 := by rw [HW1]; exact KeepC.of_set m Z U ⟨R + 1 + 1, 0, none⟩ (.bool v) (.inl (.inr (.inr rfl)))
    exact (k1.trans (KeepC.of_grownO m Z gr3 (fun q e => by have := lies q e; omega))).trans (KeepC.of_set m Z U3 ⟨R + 1, 0, none⟩ _ (.inl (.inr (.inl rfl))))
set_option maxHeartbeats 2000000 in
theorem whole_n {w : World} {a : Option Addr} {n c : Nat} {l : List Nat} (hS : Hid (Sln w a n l)) (hc : Hid (a = none → c = 0)) (hM : Hid (Mst w)) (hK : Hid (Kst w)) :
    Calls Tryd.prog 8 #[.slice a n c] w fun e w' => e = .returned (.bool true) ∧ Hid (Below w.heap.size w w') := by
  have nB : Hid (n = l.length ∧ n ≤ 140737488352256) := ⟨hS.out.len, by rw [hS.out.len]; exact hS.out.sli.2.1⟩
  have h19 : Hid (19 < w.heap.size) := cell_lt (hK.out 0 (by omega))
  have b0 : Below w.heap.size w (w.alloc (.cells #[.bool false] 4)) := (Below.refl _ w).alloc (Nat.le_refl _) _
  have M0 : Hid (Mst (w.alloc (.cells #[.bool false] 4))) := hM.out.below b0 hM.out.lt
  have K0 : Hid (Kst (w.alloc (.cells #[.bool false] 4))) := hK.out.below b0 h19.out
  refine (callsIn_wide (n := 20)).1 ?_
  refine callsIn_of_wp_marks Tryd.func8 rfl trivial ?_ rfl
  simp only [Tryd.ntmps8, List.size_toArray, List.length_cons, List.length_nil, Nat.reduceAdd, Nat.reduceSub, Array.replicate_succ, Array.replicate_zero, List.push_toArray, List.append_toArray, List.nil_append, List.cons_append]
  have B0 : Hid (Below w.heap.size w (w.alloc (.cells #[.bool false] 4))) := b0
  have X0 : Hid (Boxed (w.alloc (.cells #[.bool false] 4)) w.heap.size 4 (.bool false)) := Boxed.new w 4 _
  clear b0
  gi_wp2_with (first
    | (refine ⟨trivial, ?_⟩; gi_at_call 9; refine (callsIn_wide.2 (alive_n M0 K0)).mono ?_; rintro e W1 ⟨rfl, H1⟩
       obtain ⟨R, HR⟩ : ∃ R, Hid (W1.heap.size = R) := ⟨_, rfl⟩
       obtain ⟨W2, HW2⟩ : ∃ W2, Hid (((W1.alloc (.cells #[] 5)).alloc (.cells #[.slice (some ⟨W1.heap.size, 0, none⟩) 0 0] 26)).alloc (.cells #[.bool false] 4) = W2) := ⟨_, rfl⟩
       have b2 : Below W1.heap.size W1 W2 := by rw [← HW2.out]; exact (((Below.refl _ W1).alloc (Nat.le_refl _) _).alloc (by simp) _).alloc (by simp; omega) _
       have bw : Below w.heap.size w W2 := B0.out.trans ((H1.out.trans (b2.mono H1.out.size)).mono B0.out.size)
       have S2 : Hid (Sln W2 a n l) := hS.out.below bw
       have BW : Hid (Below w.heap.size w W2 ∧ w.heap.size < R ∧ W2.heap.size = R + 3 ∧ Boxed W2 w.heap.size 4 (.bool false)) := by
         have h1 := H1.out.size
         rw [World.size_alloc] at h1
         refine ⟨bw, by rw [← HR.out]; omega, by rw [← HW2.out, ← HR.out]; simp, ?_⟩
         exact Boxed.blk X0.out ((b2.block _ (by omega)).trans (H1.out.block _ (by simp)))
       clear b2 bw)
    | (refine ⟨trivial, ?_⟩; gi_at_call 22; rw [HW2.out]; refine (callsIn_wide.2 (blocks_n S2 hc)).mono ?_; rintro e V ⟨K, ak, ck, rfl, HV⟩))
  have bV := HV.out.2.2.2.2
  have hwR := BW.out.2.1
  have s2 := BW.out.2.2.1
  have D2 : Hid (∀ Z, Wh w V R Z (some ⟨R, 0, none⟩) 0 0 [] false) := fun Z => by
    have h1 : ∀ q, q < W2.heap.size → V.heap[q]? = W2.heap[q]? := fun q hq => bV.block q hq
    have h2 := HW2.out
    have h3 := HR.out
    have o1 : Own V W1.heap.size (some ⟨W1.heap.size, 0, none⟩) 0 0 [] := (own_empty W1).block (fun q hq => by
      obtain rfl : W1.heap.size = q := by simpa [blkOf] using hq
      refine (h1 _ (by omega)).trans ?_
      rw [← h2]
      exact (Below.heap_alloc _ _ _ (by simp; omega)).trans (Below.heap_alloc _ _ _ (by simp)))
    have x3 : Boxed V (W1.heap.size + 1) 26 (.slice (some ⟨W1.heap.size, 0, none⟩) 0 0) := by
      have h := Boxed.new (W1.alloc (.cells #[] 5)) 26 (.slice (some ⟨W1.heap.size, 0, none⟩) 0 0)
      rw [World.size_alloc] at h
      have h4 := h.alloc (.cells #[.bool false] 4)
      rw [h2] at h4
      exact Boxed.blk h4 (h1 _ (by omega))
    have x4 : Boxed V (W1.heap.size + 1 + 1) 4 (.bool false) := by
      have h := Boxed.new ((W1.alloc (.cells #[] 5)).alloc (.cells #[.slice (some ⟨W1.heap.size, 0, none⟩) 0 0] 26)) 4 (.bool false)
      simp only [World.size_alloc] at h
      rw [h2] at h
      exact Boxed.blk h (h1 _ (by omega))
    rw [h3] at o1 x3 x4
    refine ⟨o1.base (by omega), fun q hq => .inl ?_, x3, x4, Boxed.blk BW.out.2.2.2 (h1 _ (by omega)), BW.out.1.trans (bV.mono (by omega))⟩
    obtain rfl : R = q := by simpa [blkOf] using hq
    rfl
  have sV : Hid (R + 3 ≤ V.heap.size) := by have h1 := bV.size; show _ ≤ _; omega
  have KV : Hid (R + 3 ≤ K ∧ w.heap.size < R) := ⟨by have h1 := HV.out.2.2.1; omega, hwR⟩
  have S2w : Hid (W2.heap.size = R + 3) := s2
  have SV : Hid (Sln V a n l) := S2.out.below bV
  clear S2 M0 K0 B0 X0 hwR s2 bV
  refine rangeC (C := fun b => b = R ∨ b = R + 1 ∨ b = R + 2) rfl (by omega) (gf := 42) (lb := #[.pointer (some ⟨K, 0, none⟩)]) rfl trivial (enters_of Tryd.func42 (by kernel_rfl) rfl)
    (blocks_seqC 19 (by omega) K n ck W2.heap.size ak l _ V HV.out.1 HV.out.2.1 nB.out.2 HV.out.2.1.cap ?c1 ?c2 ?c3) (Below.refl _ _) (fun _ => rfl) ?hC ?hGd
    (fun Z pre U => ∃ aa k c', Wh w U R Z aa k c' (l.take (32 * pre.length)) (decide (n < 32 * pre.length)))
    (fun Z c pre U => False) ?hI ?hIx (fun Z _ => ⟨_, _, _, by simpa using D2.out Z⟩)
    (fun x => { tmps := #[.slice a n c, undef, .pointer (some ⟨w.heap.size, 0, none⟩), .pointer (some ⟨W1.heap.size + 1, 0, none⟩), .pointer (some ⟨W1.heap.size + 1 + 1, 0, none⟩), .int .i64 (x.num : Int), .slice x.a x.e x.c, .bool true, .bool false, .slice (some ⟨W1.heap.size, 0, none⟩) 0 0, .slice a n c, .func (.func 42) #[] #[.pointer (some ⟨K, 0, none⟩)], .int .i64 (x.num : Int), .slice x.a x.e x.c, undef, undef, undef, undef, undef, undef, undef, undef, undef, undef, undef, undef, undef, undef, undef, undef, undef, undef, undef, undef, undef, undef, undef, undef, undef, undef, undef], defers := [] }) ?assign ?body ?done ?stop
  case c1 => have := KV.out; intro h; omega
  case c2 => intro q hq h; have h1 := (HV.out.2.1.ge q hq).1; have h2 := S2w.out; omega
  case c3 => intro b h; have := sV.out; omega
  case hC => intro b h; have := sV.out; omega
  case hGd =>
    rintro Z pre x A k o' hk ⟨h1, h2, h3, h4⟩
    exact ⟨h1, h2, h3, h4.block (fun q hq => World.putObj_heap_other (by have := (h4.ge q hq).1; omega))⟩
  case hI =>
    rintro Z pre A B hZ ⟨aa, k, c', h⟩ hb
    exact ⟨aa, k, c', h.slack hb (by have := sV.out; omega) KV.out.2⟩
  case hIx => exact fun _ _ _ _ _ _ h _ => h
  case assign =>
    intro l' x U K' hK
    unfold bencs
    gi_wp2
    exact hK
  case body =>
    rintro l' Z pre x U hZ hU ⟨aa, k, c', hB⟩ ⟨hx1, hx2, hx3, hx4⟩
    have hj : 32 * pre.length < n := by rw [← hx2]; exact x.h
    have nl := nB.out.1
    have nb := nB.out.2
    have hk : k = 32 * pre.length := by
      have h1 := hB.own.len
      rw [List.length_take] at h1
      omega
    have dec : decide (n < 32 * pre.length) = false := by simp; omega
    rw [dec] at hB
    have he : x.e = min 32 (n - 32 * pre.length) := by
      have h1 := hx4.len
      rw [hx2, pc_len] at h1
      omega
    rw [hx2] at hx4
    have tp := take_pc l pre.length
    have KK : Hid (k = 32 * pre.length ∧ 32 * pre.length < n ∧ x.e = min 32 (n - 32 * pre.length)) := ⟨hk, hj, he⟩
    obtain ⟨p, Hp⟩ : ∃ p, Hid (pre.length = p) := ⟨_, rfl⟩
    have xn : x.num = p := hx1.trans Hp.out
    obtain ⟨xa, xe, xc, HXX⟩ : ∃ xa xe xc, Hid (x.a = xa ∧ x.e = xe ∧ x.c = xc) := ⟨_, _, _, rfl, rfl, rfl⟩
    rw [HXX.out.1, HXX.out.2.1, HXX.out.2.2] at hx4
    rw [HXX.out.2.1] at KK he
    rw [HXX.out.1, HXX.out.2.1, HXX.out.2.2, xn]
    have pk : (p : Int) * 32 = (k : Int) := by have := Hp.out; omega
    have pb : p ≤ 140737488352256 := by have := Hp.out; omega
    have e1 : 1 ≤ xe := by omega
    have e2 : xe ≤ 32 := by omega
    have kb : k ≤ 140737488352256 := by omega
    have room : k + xe ≤ 140737488352256 := by omega
    rw [HR.out]
    have kv := KV.out.2
    have sv := sV.out
    obtain ⟨v, Hv⟩ : ∃ v, decide (n < 32 * (pre.length + 1)) = v := ⟨_, rfl⟩
    obtain ⟨a', c2, U3, AP, cX1, c3, f3, wh', kc⟩ := wh_app (m := V.heap.size) hB hx4 room (by omega) kv hU v
    have cX4 := hB.b4.cell
    have fX4 := hB.b4.frozen
    have cX3 := hB.b3.cell
    have F4 : Hid (postC (fun b => b = R ∨ b = R + 1 ∨ b = R + 2) V.heap.size Z (fun pre U => ∃ aa k c', Wh w U R Z aa k c' (l.take (32 * pre.length)) (decide (n < 32 * pre.length))) (fun _ _ _ => False) (pre ++ [x]) U .normal ⟨#[], []⟩ (U3.setCell ⟨R + 1, 0, none⟩ (.slice a' (k + xe) c2))) := by
      refine ⟨kc, a', k + xe, c2, ?_⟩
      rw [List.length_append]
      show Wh w _ R Z a' (k + xe) c2 (l.take (32 * (pre.length + 1))) (decide (n < 32 * (pre.length + 1)))
      rw [← tp, Hv]
      exact wh'
    have V1 : Hid ((v = true → xe < 32) ∧ (v = false → xe = 32)) := by
      rw [← Hv]
      refine ⟨fun h => ?_, fun h => ?_⟩
      · simp at h; omega
      · simp at h; omega
    clear wh' kc hB hx4 tp D2 HV hx1 hx2 hx3 dec hk hj nl nb SV room Hv he KK hZ hU
    cases v with
    | true =>
      have i1 : (xe : Int) < 32 := by have := V1.out.1 rfl; omega
      have i2 : ¬ ((xe : Int) < 1) := by omega
      have i3 : ¬ (32 < (xe : Int)) := by omega
      gi_wp2_with (gi_at_builtin; refine wpListIn_app (by rfl) (.tmp 35) (.tmp 36) (by rfl) (by rfl) (by rfl) (by rfl) AP ?_)
      exact F4.out
    | false =>
      have i1 : xe = 32 := V1.out.2 rfl
      subst i1
      gi_wp2_with (gi_at_builtin; refine wpListIn_app (by rfl) (.tmp 35) (.tmp 36) (by rfl) (by rfl) (by rfl) (by rfl) AP ?_)
      exact F4.out
  case done =>
    rintro D Z xs U hD hZ ⟨kk, q1, q2⟩ ⟨aa, k, c', hB⟩ hKD
    have lx : xs.length = blks n := by
      have h1 := congrArg List.length q2
      rw [List.length_map, cks_all (by omega)] at h1
      unfold blks
      omega
    rw [lx, List.take_of_length_le (by rw [← nB.out.1]; unfold blks; omega)] at hB
    have kv := KV.out.2
    have sv := sV.out
    have kn : k = n := hB.own.len.trans nB.out.1.symm
    have SA : Hid (Sln U aa k l) := hB.own.sln (by have := nB.out.2; omega)
    have SB : Hid (Sln U a n l) := hS.out.below hB.bel
    have cX : U.cell? ⟨W1.heap.size + 1, 0, none⟩ = some (.slice aa k c') := by rw [HR.out]; exact hB.b3.cell
    have c0 : U.cell? ⟨w.heap.size, 0, none⟩ = some (.bool false) := hB.b2.cell
    have f0 : U.frozen? ⟨w.heap.size, 0, none⟩ = false := hB.b2.frozen
    obtain ⟨U4, HU4⟩ : ∃ U4, Hid (U.setCell ⟨w.heap.size, 0, none⟩ (.bool true) = U4) := ⟨_, rfl⟩
    have b2 : Boxed U4 w.heap.size 4 (.bool true) := by rw [← HU4.out]; exact hB.b2.set _
    have hK2 : U4.heap[D]? = some (.deferred (some [])) := by rw [← HU4.out]; exact (Below.heap_setCell U ⟨w.heap.size, 0, none⟩ _ D (by show D ≠ w.heap.size; omega)).trans hKD
    have lD : D < U4.heap.size := (Array.getElem?_eq_some_iff.1 hK2).1
    have bel4 : Below w.heap.size w U4 := by rw [← HU4.out]; exact hB.bel.setCell (by show w.heap.size ≤ w.heap.size; omega) _
    have pbw := put_below (.deferred none) (show w.heap.size ≤ D by omega) lD
    have e0 : (U4.putObj D (.deferred none)).cell? ⟨w.heap.size, 0, none⟩ = some (.bool true) := (boxed_at b2 (by omega)).cell
    have FIN : Hid (Below w.heap.size w (U4.putObj D (.deferred none))) := bel4.trans pbw
    have DT : Hid (decide (l = l) = true) := by show _ = _; simp
    clear hB lx bel4 pbw b2 lD kv sv HV D2 SV kn q2
    gi_wp2_with (refine ⟨trivial, ?_⟩; gi_at_call 24; refine (callsIn_wide.2 (same_bytes SA SB)).mono ?_; rintro e w0 ⟨rfl, h00⟩; rw [h00, DT.out]; clear h00)
    rw [HU4.out]
    refine ⟨by simp, .inl ⟨_, _, rfl, run_takeDeferred hK2, ?_⟩⟩
    exact ⟨.bool true, by simp [results, Tryd.results8, go_sem, e0], rfl, FIN.out⟩
  case stop => exact fun _ _ _ _ _ _ _ _ h _ => h.elim
end Go.Proofs.YtmkknklkdgkbaaaDoor
