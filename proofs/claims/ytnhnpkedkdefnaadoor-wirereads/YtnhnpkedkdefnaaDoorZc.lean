/- More on two writers in memory; ops of a row of the call's own; a region's condition in one word. -/
import Derived.Test.YtnhnpkedkdefnaaDoorZb
import Derived.Test.YtnhnpkedkdefnaaDoorYc
import Derived.Lib.AppendZeros
namespace Go.Proofs.YtnhnpkedkdefnaaDoor
open Go.ChangeShapes Go.WideShapes Go.ChangeAt Go.RowKit
set_option linter.unusedVariables false
set_option linter.unusedSimpArgs false
/- C till operation c has come up -/
def tl (c : Nat) (C : World → Prop) (L : Array Bool) (W : World) : Prop := L.getD c false = true ∨ C W
theorem tl_set {c i : Nat} {C : World → Prop} {L : Array Bool} {W : World} (h : i ≠ c) : tl c C (L.setIfInBounds i true) W ↔ tl c C L W := by
  unfold tl
  rw [getD_set_ne false h]
theorem tl_get {c : Nat} {C : World → Prop} {L : Array Bool} {W : World} (h : L.getD c true = false) (hs : tl c C L W) : C W := hs.resolve_left (by rw [getD_off1 h]; decide)
section
variable {w wr wr' : World} {b4 b5 : Nat} {E : List (Nat × Obj)} {D : Nat → Wd} {lab : Nat → Nat}
/- new blocks are given a label -/
theorem St.mark (v : Nat) (h : St w wr b4 b5 E D lab) (hb : Below wr.heap.size wr wr') : St w wr' b4 b5 E D (rel wr.heap.size v lab) := by
  have h1 := h.below hb
  exact { h1 with
    fx := fun q o ho => ⟨(h1.fx q o ho).1, by rw [rel_old (Array.getElem?_eq_some_iff.1 (h.fx q o ho).1).1]; exact (h.fx q o ho).2⟩
    l4 := by rw [rel_old h.lt4]; exact h.l4
    l5 := by rw [rel_old h.lt5]; exact h.l5
    lg := fun k hk => by rw [rel_old (h.wri k hk).lt]; exact h.lg k hk
    la := fun k hk p hp => by rw [rel_old ((h.wri k hk).own.ge p hp).2]; exact h.la k hk p hp
    lp := fun k hk p hp => by rw [rel_old ((h.put k hk).ge p hp).2]; exact h.lp k hk p hp }
/- one of the new blocks stays as it is -/
theorem St.fix (h : St w wr b4 b5 E D lab) (hb : Below wr.heap.size wr wr') {q : Nat} {o : Obj} (hq : wr.heap.size ≤ q) (ho : wr'.heap[q]? = some o) : St w wr' b4 b5 ((q, o) :: E) D (rel wr.heap.size 0 lab) := by
  have h1 := h.mark 0 hb
  exact { h1 with
    fx := fun q' o' ho' => by
      rcases List.mem_cons.1 ho' with e | e
      · simp only [Prod.mk.injEq] at e
        obtain ⟨rfl, rfl⟩ := e
        exact ⟨ho, rel_new hq⟩
      · exact h1.fx q' o' e }
/- a block of another label is written over -/
theorem St.other {v : Nat} (hv : 9 ≤ v) (h : St w wr b4 b5 E D lab) (ch : Ch wr wr' (fun q => lab q = v)) (hge : ∀ q, q < wr.heap.size → lab q = v → w.heap.size ≤ q) : St w wr' b4 b5 E D lab := by
  have l4 := h.l4
  have l5 := h.l5
  exact { h with
    bel := ch.belowB h.bel h.bel.size hge
    h4 := (ch.block b4 h.lt4 (by omega)).trans h.h4
    h5 := (ch.block b5 h.lt5 (by omega)).trans h.h5
    wri := fun j hj => (h.wri j hj).ch ch (by have := h.lg j hj; omega) (fun q hq => by have := h.la j hj q hq; omega)
    put := fun j hj => (h.put j hj).ch ch (fun q hq => by have := h.lp j hj q hq; omega)
    fx := fun q o ho => ⟨(ch.block q (Array.getElem?_eq_some_iff.1 (h.fx q o ho).1).1 (by have := (h.fx q o ho).2; omega)).trans (h.fx q o ho).1, (h.fx q o ho).2⟩ }
end
/- what holds between two rounds -/
structure Inv (s bd : Nat) (D : Nat → Wd) : Prop where
  g : ∀ j, j < 2 → (D j).g = s + j
  P : ∀ j, j < 2 → (D j).P = (D j).X
  t : ∀ j, j < 2 → (D j).t = (D j).s
  n : ∀ j, j < 2 → (D j).n ≤ bd
theorem upd_upd (D : Nat → Wd) (k : Nat) (d e : Wd) : upd (upd D k d) k e = upd D k e := by
  funext j
  unfold upd
  split <;> rfl
theorem Inv.upd {s bd bd' k : Nat} {D : Nat → Wd} {d : Wd} (h : Inv s bd D) (hb : bd ≤ bd') (h1 : d.g = s + k) (h2 : d.P = d.X) (h3 : d.t = d.s) (h4 : d.n ≤ bd') : Inv s bd' (upd D k d) := by
  refine ⟨fun j hj => ?_, fun j hj => ?_, fun j hj => ?_, fun j hj => ?_⟩ <;> by_cases e : j = k
  · subst e; rw [upd_same]; exact h1
  · rw [upd_other e]; exact h.g j hj
  · subst e; rw [upd_same]; exact h2
  · rw [upd_other e]; exact h.P j hj
  · subst e; rw [upd_same]; exact h3
  · rw [upd_other e]; exact h.t j hj
  · subst e; rw [upd_same]; exact h4
  · rw [upd_other e]; exact Nat.le_trans (h.n j hj) hb
theorem Inv.more {s bd bd' : Nat} {D : Nat → Wd} (h : Inv s bd D) (hb : bd ≤ bd') : Inv s bd' D := ⟨h.g, h.P, h.t, fun j hj => Nat.le_trans (h.n j hj) hb⟩
theorem and_one (z : Int) : ∃ k : Nat, k < 2 ∧ bits .and .i64 z 1 = (k : Int) := by
  refine ⟨(BitVec.ofInt 64 z).toNat &&& 1, ?_, ?_⟩
  · have : (BitVec.ofInt 64 z).toNat &&& 1 ≤ 1 := Nat.and_le_right
    omega
  · have h : (BitVec.ofInt 64 z).toNat &&& 1 ≤ 1 := Nat.and_le_right
    show IntKind.i64.wrap ((BitVec.ofInt 64 z &&& BitVec.ofInt 64 ((1 : Nat) : Int)).toNat : Int) = _
    rw [BitVec.toNat_and, ofInt_i64 1 (by omega), IntKind.wrap_i64]
    omega
/- the cells of op i of a row -/
theorem row_op {W wr : World} {g : Nat} {Q : List Oq} (hc : ∀ j u, (qcells Q)[j]? = some u → W.cell? ⟨g, 0 + j, none⟩ = some u) (he : wr.heap[g]? = W.heap[g]?) {i : Nat} (hi : i < Q.length) :
    wr.cell? ⟨g, i * 4, none⟩ = some (.int .i64 (Q.getD i default).x.kind) ∧ wr.cell? ⟨g, i * 4 + 1, none⟩ = some (.int .i64 (Q.getD i default).x.which) ∧ wr.cell? ⟨g, i * 4 + 2, none⟩ = some (.int .i64 (Q.getD i default).x.num) ∧ wr.cell? ⟨g, i * 4 + 3, none⟩ = some (.slice (Q.getD i default).a (Q.getD i default).n (Q.getD i default).c) := by
  have g' : ∀ r, r < 4 → ∀ u, (Q.getD i default).cells[r]? = some u → wr.cell? ⟨g, i * 4 + r, none⟩ = some u := fun r hr u hu => by
    have := hc (i * 4 + r) u (by rw [qcells_get Q i r hi hr]; exact hu)
    rw [Nat.zero_add] at this
    rw [World.cell?_of_block (w := W) he]
    exact this
  exact ⟨g' 0 (by omega) _ rfl, g' 1 (by omega) _ rfl, g' 2 (by omega) _ rfl, g' 3 (by omega) _ rfl⟩
theorem getD_mem {Q : List Oq} {i : Nat} (hi : i < Q.length) : Q.getD i default ∈ Q := by
  have e : Q.getD i default = Q[i] := by simp [List.getD, hi]
  rw [e]
  exact List.getElem_mem hi
theorem tot_nextq {Q : List Oq} {i : Nat} (hi : i < Q.length) : tot ((Q.map (·.x)).take (i + 1)) = tot ((Q.map (·.x)).take i) + (Q.getD i default).x.bs.length + 1 := by
  rw [take_opt (by simpa using hi), tot_snoc]
  have e : (Q.map (·.x)).getD i o0 = (Q.getD i default).x := by simp [List.getD, hi]
  rw [e]
theorem wpList_app22 {ops : Array Oper} {rest : List Oper} {o : Oper} {a : Act} {Q : Exit → Act → World → Prop} {w w' : World} {v v1 v2 : Value} (hgd : o.guard = none) (s x : Operand)
    (ho : o.op = .call { callee := .builtin .append, args := #[s, x], argTypes := #[22, 22] }) (hty : o.type = 22) (hs : a.eval s = v1) (hx : a.eval x = v2) (hrun : Hid ((Builtin.append_ #[22, 22] 22 #[v1, v2]).run Tryd.prog w = .ok v w'))
    (h : wpList Tryd.prog ops Q rest (a.put o.dst v) w') : wpList Tryd.prog ops Q (o :: rest) a w := by
  refine wpList_plain hgd fun K hK => ?_
  have hr := hrun.out
  unfold Oper.wp
  simp [execOp, ho, resolve, invoke, builtin, hs, hx, hty, hr, Result.andThen]
  exact hK _ _ h
/- the four ops that are put behind a script -/
def ask0 : Oq := ⟨⟨4, 0, 0, []⟩, none, 0, 0⟩
def ask1 : Oq := ⟨⟨4, 1, 0, []⟩, none, 0, 0⟩
def num5 : Oq := ⟨⟨1, 0, 5, []⟩, none, 0, 0⟩
theorem quiet_ok (w : World) (z y x : Int) (hz : (Lit.int .i64 z).wf = true) (hy : (Lit.int .i64 y).wf = true) (hx : (Lit.int .i64 x).wf = true) : Oq.ok ⟨⟨z, y, x, []⟩, none, 0, 0⟩ w := ⟨hz, hy, hx, ⟨rfl, by simp, by simp, .inl rfl⟩, Nat.le_refl _, Nat.zero_le _, fun _ => rfl⟩
def four4 : List Oq := [ask0, ask1, num5, ask0]
theorem four_ok (w : World) : ∀ q ∈ four4, q.ok w := by
  intro q hq
  simp only [four4, List.mem_cons, List.not_mem_nil, or_false] at hq
  rcases hq with rfl | rfl | rfl | rfl
  · exact quiet_ok w 4 0 0 (by decide) (by decide) (by decide)
  · exact quiet_ok w 4 1 0 (by decide) (by decide) (by decide)
  · exact quiet_ok w 1 0 5 (by decide) (by decide) (by decide)
  · exact quiet_ok w 4 0 0 (by decide) (by decide) (by decide)
abbrev fourO : Obj := .cells #[.int .i64 4, .int .i64 0, .int .i64 0, .slice none 0 0, .int .i64 4, .int .i64 1, .int .i64 0, .slice none 0 0, .int .i64 1, .int .i64 0, .int .i64 5, .slice none 0 0, .int .i64 4, .int .i64 0, .int .i64 0, .slice none 0 0] 31
theorem four_cells (w : World) : ∀ j u, (qcells four4)[j]? = some u → (w.alloc fourO).cell? ⟨w.heap.size, 0 + j, none⟩ = some u := by
  intro j u hu
  rw [Nat.zero_add]
  have hb : (w.alloc fourO).heap[w.heap.size]? = some fourO := heap_alloc_new w _
  unfold World.cell?
  rw [hb]
  simpa [qcells, four4, Oq.cells, ask0, ask1, num5] using hu
end Go.Proofs.YtnhnpkedkdefnaaDoor
