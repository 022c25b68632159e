/- Rows of structs in memory of the call's own, whatever the struct; appends of one element; several operations that may come up. -/
import Derived.Test.YtemhhlongfabmaaGreatDoorOr
import Derived.Laws.MakeOwn
import Derived.Laws.Rows
namespace Go.Proofs.YtemhhlongfabmaaGreatDoor
open Go.ChangeShapes Go.WideShapes Go.ChangeAt Go.RowKit
set_option maxRecDepth 20000
set_option linter.unusedVariables false
set_option linter.unusedSimpArgs false
/- how something lies in z cells -/
structure Enc (α : Type) where
  e : α → List Value
  z : Nat
  len : ∀ x, (e x).length = z
  one : ∀ x, ∀ v ∈ e x, v.oneCell' = true
section
variable {α : Type} (E : Enc α)
def Enc.fl (l : List α) : List Value := l.flatMap E.e
theorem Enc.fl_app (l r : List α) : E.fl (l ++ r) = E.fl l ++ E.fl r := by simp [Enc.fl]
theorem Enc.fl_nil : E.fl [] = [] := rfl
theorem Enc.fl_one (x : α) : E.fl [x] = E.e x := by simp [Enc.fl]
theorem Enc.fl_cons (x : α) (l : List α) : E.fl (x :: l) = E.e x ++ E.fl l := rfl
theorem Enc.fl_len (l : List α) : (E.fl l).length = l.length * E.z := by
  induction l with
  | nil => simp [Enc.fl]
  | cons x l ih => rw [E.fl_cons, List.length_append, ih, E.len, List.length_cons, Nat.succ_mul]; omega
theorem Enc.fl_oc (l : List α) : ∀ v ∈ E.fl l, v.oneCell' = true := fun v hv => by
  obtain ⟨x, _, h⟩ := List.mem_flatMap.1 hv
  exact E.one x v h
theorem Enc.fl_cut (l : List α) {i : Nat} (hi : i < l.length) : E.fl l = E.fl (l.take i) ++ (E.e l[i] ++ E.fl (l.drop (i + 1))) := by
  have e : l = l.take i ++ l[i] :: l.drop (i + 1) := by rw [List.getElem_cons_drop, List.take_append_drop]
  have h : E.fl l = E.fl (l.take i ++ l[i] :: l.drop (i + 1)) := by rw [← e]
  rw [h, E.fl_app]
  rfl
theorem Enc.fl_take (l : List α) (i : Nat) : E.fl (l.take i) = (E.fl l).take (i * E.z) := by
  by_cases hi : i ≤ l.length
  · have h : E.fl l = E.fl (l.take i) ++ E.fl (l.drop i) := by rw [← E.fl_app, List.take_append_drop]
    have hl : (E.fl (l.take i)).length = i * E.z := by rw [E.fl_len, List.length_take, Nat.min_eq_left hi]
    rw [h]
    exact (List.take_left' hl).symm
  · rw [List.take_of_length_le (by omega), List.take_of_length_le]
    rw [E.fl_len]; exact Nat.mul_le_mul_right _ (by omega)
theorem Enc.fl_drop (l : List α) (i : Nat) : E.fl (l.drop i) = (E.fl l).drop (i * E.z) := by
  by_cases hi : i ≤ l.length
  · have h : E.fl l = E.fl (l.take i) ++ E.fl (l.drop i) := by rw [← E.fl_app, List.take_append_drop]
    have hl : (E.fl (l.take i)).length = i * E.z := by rw [E.fl_len, List.length_take, Nat.min_eq_left hi]
    rw [h]
    exact (List.drop_left' hl).symm
  · rw [List.drop_of_length_le (by omega), List.drop_of_length_le]
    · rfl
    · rw [E.fl_len]; exact Nat.mul_le_mul_right _ (by omega)
end
/- a row of them of the call's own, in a block from lo on and below hi -/
structure Rw {α : Type} (w : World) (lo : Nat) (t : TypeId) (E : Enc α) (a : Option Addr) (n c : Nat) (l : List α) : Prop where
  row : w.ownsRow lo t E.z (.slice a n c) n (E.fl l)
  pos : 0 < E.z
section
variable {α : Type} {E : Enc α} {w w' : World} {lo lo' : Nat} {t : TypeId} {a : Option Addr} {n c : Nat} {l : List α}
theorem Rw.len (h : Rw w lo t E a n c l) : n = l.length := by
  have h1 := h.row.1
  rw [E.fl_len] at h1
  exact (Nat.eq_of_mul_eq_mul_right h.pos h1).symm
theorem Rw.lt (h : Rw w lo t E a n c l) {q : Nat} (e : blkOf a = some q) : lo ≤ q ∧ q < w.heap.size := h.row.lt q (by rw [ownBlock_slice]; exact e)
theorem Rw.keep (h : Rw w lo t E a n c l) (hb : ∀ q, lo ≤ q → q < w.heap.size → w'.heap[q]? = w.heap[q]?) : Rw w' lo t E a n c l :=
  ⟨rown_bel h.row (fun q e => by rw [ownBlock_slice] at e; exact hb q (h.lt e).1 (h.lt e).2), h.pos⟩
theorem Rw.keep1 (h : Rw w lo t E a n c l) (hb : ∀ q, blkOf a = some q → w'.heap[q]? = w.heap[q]?) : Rw w' lo t E a n c l :=
  ⟨rown_bel h.row (fun q e => hb q (by rw [ownBlock_slice] at e; exact e)), h.pos⟩
theorem Rw.below (h : Rw w lo t E a n c l) (hb : Below w.heap.size w w') : Rw w' lo t E a n c l := h.keep fun q _ hq => hb.block q hq
theorem Rw.mono (h : Rw w lo t E a n c l) (hl : lo' ≤ lo) : Rw w lo' t E a n c l := ⟨rown_mono h.row hl, h.pos⟩
theorem Rw.nil (w : World) (lo : Nat) (t : TypeId) (E : Enc α) (hp : 0 < E.z) : Rw w lo t E none 0 0 [] := ⟨World.ownsRow_nil w lo t E.z, hp⟩
theorem Rw.cap (h : Rw w lo t E a n c l) : n ≤ c := rown_cap h.row
theorem Rw.cap0 (h : Rw w lo t E a n c l) : a = none → c = 0 := rown_cap0 h.row
theorem Rw.at_ (h : Rw w lo t E a n c l) {i : Nat} (hi' : i < l.length) : ∃ g, a = some ⟨g, 0, none⟩ ∧ lo ≤ g ∧ g < w.heap.size ∧ w.rangeAt g (i * E.z) (E.e l[i]) := by
  have hn := h.len
  obtain ⟨g, rfl, h2, h3, _⟩ := rown_at h.row (by omega)
  refine ⟨g, rfl, h2, h3, fun j v hv => ?_⟩
  have hj := (List.getElem?_eq_some_iff.1 hv).1
  rw [E.len] at hj
  have hm : i * E.z + j < n * E.z := by
    have : (i + 1) * E.z ≤ n * E.z := Nat.mul_le_mul_right _ (by omega)
    rw [Nat.succ_mul] at this
    omega
  rw [h.row.cellAt _ hm, E.fl_cut l hi', List.getElem?_append_right (by rw [E.fl_len, List.length_take, Nat.min_eq_left (by omega)]; omega), E.fl_len, List.length_take, Nat.min_eq_left (by omega), Nat.add_sub_cancel_left, List.getElem?_append_left (by rw [E.len]; exact hj)]
  exact hv
theorem Rw.blk (h : Rw w lo t E a n c l) {q : Nat} (e : blkOf a = some q) : ∃ cur, w.heap[q]? = some (.cells cur t (0, 0)) ∧ a = some ⟨q, 0, none⟩ := by
  rcases h.row.2 with ⟨h1, _⟩ | ⟨g, cap, cur, h1, _, h3, _⟩
  · cases h1; cases e
  · cases h1; cases e; exact ⟨cur, h3, rfl⟩
/- rows of unlike types lie apart -/
theorem Rw.apart {β : Type} {F : Enc β} {t' : TypeId} {lo2 : Nat} {b : Option Addr} {m d : Nat} {r : List β} (h : Rw w lo t E a n c l) (h' : Rw w lo2 t' F b m d r) (ht : t ≠ t') {q : Nat} (e : blkOf a = some q) (e' : blkOf b = some q) : False := by
  obtain ⟨c1, h1, _⟩ := h.blk e
  obtain ⟨c2, h2, _⟩ := h'.blk e'
  rw [h1] at h2
  cases h2
  exact ht rfl
end
def setL (xs : List Value) : Nat → List Value → List Value
  | _, [] => xs
  | o, v :: vs => setL (xs.set o v) (o + 1) vs
theorem setL_eq : ∀ (vs xs : List Value) (o : Nat), o + vs.length ≤ xs.length → setL xs o vs = xs.take o ++ vs ++ xs.drop (o + vs.length)
  | [], xs, o, h => by simp [setL]
  | v :: vs, xs, o, h => by
    rw [List.length_cons] at h
    unfold setL
    rw [setL_eq vs (xs.set o v) (o + 1) (by rw [List.length_set]; omega)]
    rw [List.length_cons]
    exact list_seg_step xs o v vs h
theorem rown_setCells {B : Nat} {t : TypeId} {z g n c : Nat} : ∀ (vs : List Value) (o : Nat) (W : World) (xs : List Value), W.ownsRow B t z (.slice (some ⟨g, 0, none⟩) n c) n xs → (W.setCells g o vs).ownsRow B t z (.slice (some ⟨g, 0, none⟩) n c) n (setL xs o vs)
  | [], o, W, xs, h => h
  | v :: vs, o, W, xs, h => rown_setCells vs (o + 1) (W.setCell ⟨g, o, none⟩ v) (xs.set o v) (row_set h o v)
theorem ch_setCells {g : Nat} : ∀ (vs : List Value) (o : Nat) (W : World), Ch W (W.setCells g o vs) (fun q => q = g)
  | [], o, W => Ch.refl _ _
  | v :: vs, o, W => (Ch.set W g o v).trans (ch_setCells vs (o + 1) (W.setCell ⟨g, o, none⟩ v))
section
variable {α : Type} {E : Enc α} {w : World} {lo : Nat} {t s : TypeId} {g n c p : Nat} {l : List α} {y : α}
theorem Rw.setAt (h : Rw w lo t E (some ⟨g, 0, none⟩) n c l) (hp : p < n) (y : α) : Rw (w.setCells g (p * E.z) (E.e y)) lo t E (some ⟨g, 0, none⟩) n c (l.set p y) := by
  have hl := h.len
  have ez : (p + 1) * E.z = p * E.z + E.z := Nat.succ_mul p E.z
  have le : (p + 1) * E.z ≤ n * E.z := Nat.mul_le_mul_right _ (by omega)
  have e : setL (E.fl l) (p * E.z) (E.e y) = E.fl (l.set p y) := by
    rw [setL_eq _ _ _ (by rw [E.len, E.fl_len, ← hl]; omega), E.len, ← ez, ← E.fl_take, ← E.fl_drop, List.set_eq_take_append_cons_drop, if_pos (by omega), E.fl_app, E.fl_cons, List.append_assoc]
  refine ⟨?_, h.pos⟩
  rw [← e]
  exact rown_setCells _ _ _ _ h.row
theorem Rw.thereAt (h : Rw w lo t E (some ⟨g, 0, none⟩) n c l) (hp : p < n) : w.there g (p * E.z) E.z := fun j hj => by
  have ez : (p + 1) * E.z = p * E.z + E.z := Nat.succ_mul p E.z
  have le : (p + 1) * E.z ≤ n * E.z := Nat.mul_le_mul_right _ (by omega)
  refine ⟨?_, h.row.frozenAt _⟩
  rw [h.row.cellAt _ (by omega), List.getElem?_eq_getElem (by rw [E.fl_len, ← h.len]; omega)]
  rfl
end
theorem zeros_size (z : Value) (k : Nat) : (Builtin.zeroCells z.cells k).size = k * z.cells.size := by
  simp [Builtin.zeroCells]
theorem box_any (W : World) (t : TypeId) (Z A : Array Value) : ∃ w2, Hid ((W.alloc (.cells Z t)).setRow W.heap.size A = w2) ∧ Hid (w2.heap[W.heap.size]? = some (.cells A t (0, 0)) ∧ Below W.heap.size W w2 ∧ w2.heap.size = W.heap.size + 1) :=
  ⟨_, rfl, setRow_heap _ _ _ _ _ _ (heap_alloc_new W _), below_setRow (alloc1 W _) (Nat.le_refl _) A, by rw [setRow_size]; simp⟩
theorem arr_sz {α : Type} {E : Enc α} {A : Array Value} {x : α} (h : A = (E.e x).toArray) : A.size = E.z := by rw [h]; simp [E.len]
theorem arr_all {α : Type} {E : Enc α} {A : Array Value} {x : α} (h : A = (E.e x).toArray) : A.all (·.oneCell') = true := by rw [h]; exact all_oneCell_toArray (E.one x)
section
variable {P : Program} {ops : Array Oper} {Q : Exit → Act → World → Prop} {md : Region.Mode} {S : Array Bool → World → Prop}
/- what is to be shown of an operation that comes up -/
def TillOp (P : Program) (md : Region.Mode) (ops : Array Oper) (Q : Exit → Act → World → Prop) (S : Array Bool → World → Prop) (f : Nat) (L : Array Bool) (a : Act) (w : World) (i : Nat) : Prop :=
  ∃ o, ops[i]? = some o ∧ ∀ K' : Act → World → Prop, Shut (∀ a w, S (L.setIfInBounds i true) w → (S (L.setIfInBounds i true) w → wpTill P md ops Q S f (L.setIfInBounds i true) a w) → K' a w) → if Region.wanted o (yielded ops a.tmps) = true then Oper.wp P o a w K' Q else K' (a.put o.dst undef) w
theorem till_some {is : List Nat} {f : Nat} {L : Array Bool} {a : Act} {w : World} (hr : Region.ready md ops L = is) (hne : is ≠ []) (h : ∀ i ∈ is, TillOp P md ops Q S f L a w i) : wpTill P md ops Q S (f + 1) L a w := by
  refine ⟨fun h0 => (by rw [hr] at h0; exact absurd h0 hne), fun j hj => ?_⟩
  rw [hr] at hj
  obtain ⟨o, ho, hK⟩ := h j hj
  exact wpOp_step ho (fun K' hK' => hK K' (fun a w hS hW => hK' a w ⟨hS, hW hS⟩))
theorem till_two {i j : Nat} {f : Nat} {L : Array Bool} {a : Act} {w : World} (hr : Region.ready md ops L = [i, j]) (h1 : TillOp P md ops Q S f L a w i) (h2 : TillOp P md ops Q S f L a w j) : wpTill P md ops Q S (f + 1) L a w :=
  till_some hr (by simp) (fun k hk => by
    rcases List.mem_cons.1 hk with rfl | hk
    · exact h1
    · obtain rfl : k = j := by simpa using hk
      exact h2)
theorem till_three {i j l : Nat} {f : Nat} {L : Array Bool} {a : Act} {w : World} (hr : Region.ready md ops L = [i, j, l]) (h1 : TillOp P md ops Q S f L a w i) (h2 : TillOp P md ops Q S f L a w j) (h3 : TillOp P md ops Q S f L a w l) : wpTill P md ops Q S (f + 1) L a w :=
  till_some hr (by simp) (fun k hk => by
    rcases List.mem_cons.1 hk with rfl | hk
    · exact h1
    · rcases List.mem_cons.1 hk with rfl | hk
      · exact h2
      · obtain rfl : k = l := by simpa using hk
        exact h3)
end
/- a condition that lapses once operation z has come up -/
def tillP (z : Nat) (C : World → Prop) (L : Array Bool) (W : World) : Prop := L.getD z false = true ∨ C W
theorem tillP_set {z i : Nat} {C : World → Prop} (h : i ≠ z) {L : Array Bool} {W : World} : tillP z C (L.setIfInBounds i true) W ↔ tillP z C L W := by
  unfold tillP
  rw [getD_set_ne false h]
theorem tillP_out {z : Nat} {C : World → Prop} {L : Array Bool} {W : World} (hL : L.getD z true = false) (h : tillP z C L W) : C W := h.resolve_left (by rw [offD hL]; decide)
/- an append whose run is known, at an operation -/
theorem wp_app {o : Oper} {a : Act} {w w' : World} {K : Act → World → Prop} {Q : Exit → Act → World → Prop} {v v1 v2 : Value} {t : TypeId} (s x : Operand) (ho : o.op = .call { callee := .builtin .append, args := #[s, x], argTypes := #[t, t] }) (hty : o.type = t) (hs : a.eval s = v1) (hx : a.eval x = v2) (hrun : Hid ((Builtin.append_ #[t, t] t #[v1, v2]).run Tryz.prog w = .ok v w')) (h : K (a.put o.dst v) w') : Oper.wp Tryz.prog o a w K Q := by
  have hr := hrun.out
  unfold Oper.wp
  simp [execOp, ho, resolve, invoke, builtin, hs, hx, hty, hr, Result.andThen]
  exact h
/- one element that lies in a block of its own, appended onto a row of the call's own: where the row lies then -/
theorem app_one {t e : TypeId} {z by' : Nat} {zv : Value} (ht : Tryz.prog.underlying t = some (.slice e)) (hinf : (Tryz.prog.info? e).map (fun i => (i.zero, i.size, i.bytes)) = some (some zv, z, by')) (hzs : zv.cells.size = z) (hz0 : 0 < z) {W : World} {B : Nat} {a : Option Addr} {n c : Nat} {xs : List Value} (own : W.ownsRow B e z (.slice a n c) n xs) {p : Nat} {cs : List Value} {fr : Nat × Nat} (hp : W.heap[p]? = some (.cells cs.toArray e fr)) (hl : cs.length = z) (h1 : ∀ u ∈ cs, u.oneCell' = true) (hb : (n + 1) * by' ≤ 140737488355328) (hn : n + 1 ≤ maxLen) (hB : B ≤ W.heap.size) :
    ∃ a' c' W', (Builtin.append_ #[t, t] t #[.slice a n c, .slice (some ⟨p, 0, none⟩) 1 1]).run Tryz.prog W = .ok (.slice a' (n + 1) c') W' ∧ W'.ownsRow B e z (.slice a' (n + 1) c') (n + 1) (xs ++ cs) ∧ W.grownBy W' (blkOf a) ∧ (∀ q, blkOf a' = some q → blkOf a = some q ∨ W.heap.size ≤ q) := by
  obtain ⟨i, hi, hz, hs1, hs2⟩ := info_parts hinf
  have hc : ∀ j u, cs[j]? = some u → W.cell? ((⟨p, 0, none⟩ : Addr).add j) = some u := fun j u hu => by
    rw [Addr.add_mid, Nat.zero_add]
    simp [World.cell?, hp, hu]
  obtain ⟨v', W', hrun, hown, hgr, _⟩ := run_append_own (P := Tryz.prog) W B t t e i zv z by' ht hi hz hs1 hs2 hzs hz0 (.slice a n c) n xs own ⟨p, 0, none⟩ 1 1 cs (by omega) hc h1 hn hb hB
  rw [ownBlock_slice] at hgr
  obtain ⟨a', c', rfl⟩ := rown_slice hown
  refine ⟨a', c', W', hrun, hown, hgr, ?_⟩
  subst hs2
  have hml : n + 1 ≤ 9223372036854775807 := by simp only [maxLen] at hn; omega
  rcases own.2 with ⟨h2, h0⟩ | ⟨g, cap, cur, h2, h3, h4, h5, h6⟩
  · simp at h2
    obtain ⟨rfl, rfl, rfl⟩ := h2
    have hr2 := run_append_nil (P := Tryz.prog) W t t e i zv ht hi hz ⟨p, 0, none⟩ 1 1 cs (by rw [hs1]; omega) hc (by omega) (by omega) (by omega)
    rw [hrun] at hr2
    simp only [Result.ok.injEq, Value.slice.injEq] at hr2
    rw [hr2.1.1]
    intro q hq
    simp [blkOf] at hq
    exact .inr (by omega)
  · simp only [Value.slice.injEq, true_and] at h2
    obtain ⟨rfl, rfl⟩ := h2
    by_cases hroom : n + 1 ≤ c
    · obtain ⟨w2, hr2, _, _⟩ := run_append_fits (P := Tryz.prog) W B t t e i z ht hi hs1 g n c xs own ⟨p, 0, none⟩ 1 1 cs (by omega) hc h1 hroom
      rw [hrun] at hr2
      simp only [Result.ok.injEq, Value.slice.injEq] at hr2
      rw [hr2.1.1]
      exact fun q hq => .inl hq
    · have hr2 := run_append_grow (P := Tryz.prog) W t t e i zv ht hi hz ⟨g, 0, none⟩ n c xs (by rw [hs1]; exact own.1) (fun j u hu => own.cells (g := g) rfl j u hu) ⟨p, 0, none⟩ 1 1 cs (by rw [hs1]; omega) hc (by omega) (by omega) (growslice_fits (by omega) (by omega))
      rw [hrun] at hr2
      simp only [Result.ok.injEq, Value.slice.injEq] at hr2
      rw [hr2.1.1]
      intro q hq
      simp [blkOf] at hq
      exact .inr (by omega)
theorem grown_below {w w' : World} {B : Nat} {row : Option Nat} (h : w.grownBy w' row) (hB : B ≤ w.heap.size) (hr : ∀ q, row = some q → B ≤ q) : Below B w w' := (Below.refl B w).grown h hB hr
/- an append whose run is known, at a list of operations -/
theorem wpList_app {ops : Array Oper} {rest : List Oper} {o : Oper} {a : Act} {Q : Exit → Act → World → Prop} {w w' : World} {v v1 v2 : Value} {t : TypeId} (hgd : o.guard = none) (s x : Operand)
    (ho : o.op = .call { callee := .builtin .append, args := #[s, x], argTypes := #[t, t] }) (hty : o.type = t) (hs : a.eval s = v1) (hx : a.eval x = v2) (hrun : Hid ((Builtin.append_ #[t, t] t #[v1, v2]).run Tryz.prog w = .ok v w'))
    (h : wpList Tryz.prog ops Q rest (a.put o.dst v) w') : wpList Tryz.prog ops Q (o :: rest) a w := by
  refine wpList_plain hgd fun K hK => ?_
  have hr := hrun.out
  unfold Oper.wp
  simp [execOp, ho, resolve, invoke, builtin, hs, hx, hty, hr, Result.andThen]
  exact hK _ _ h
theorem iv_one (l : List Int) : ∀ u ∈ l.map iv, u.oneCell' = true := by
  intro v hv
  obtain ⟨x, _, rfl⟩ := List.mem_map.1 hv
  rfl
end Go.Proofs.YtemhhlongfabmaaGreatDoor
