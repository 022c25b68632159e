/- A region whose order is drawn, walked in one order: which pairs of operations may change places is asked once. -/
import Derived.Test.YtemhhlongfabmaaGreatDoorOr
namespace Go.Proofs.YtemhhlongfabmaaGreatDoor
set_option maxRecDepth 20000
set_option linter.unusedVariables false
set_option linter.unusedSimpArgs false
/- is the operation ready once these have come up? -/
def rdyB (md : Region.Mode) (o : Oper) (done : List Nat) : Bool := o.after.all fun e => !Region.binds md e || done.contains e.on
/- the order: each with whether it is a call (which must then be the only one that is ready) -/
def okOrd (md : Region.Mode) (ops : Array Oper) : List Nat → List (Nat × Bool) → Bool
  | _, [] => true
  | done, (i, b) :: rest => match ops[i]? with
    | none => false
    | some oi => (!done.contains i) && (rdyB md oi done && ((if b then rest.all (fun j => match ops[j.1]? with | some oj => !rdyB md oj done | none => false) else rest.all (fun j => match ops[j.1]? with | some oj => oj.after.any (fun e => Region.binds md e && e.on == i) || oi.apart ops oj | none => false)) && okOrd md ops (i :: done) rest))
def covB (ops : Array Oper) (order : List (Nat × Bool)) : Bool := (List.range ops.size).all fun j => order.any fun x => x.1 == j
section
variable {P : Program} {ops : Array Oper} {Q : Exit → Act → World → Prop} {md : Region.Mode} {C : World → Prop}
def wpSeq (P : Program) (ops : Array Oper) (Q : Exit → Act → World → Prop) (C : World → Prop) : List (Nat × Bool) → Act → World → Prop
  | [], a, w => Q .normal a w
  | (i, false) :: r, a, w => ∃ o v, ops[i]? = some o ∧ (∀ c a w, Q (.panic c) (a.put o.dst v) w → Q (.panic c) a w) ∧ YieldsIf P ops C o v a ∧ wpSeq P ops Q C r (a.put o.dst v) w
  | (i, true) :: r, a, w => ∃ o, ops[i]? = some o ∧ ∀ K : Act → World → Prop, Shut (∀ a' w', C w' → wpSeq P ops Q C r a' w' → K a' w') → if Region.wanted o (yielded ops a.tmps) = true then Oper.wp P o a w K Q else K (a.put o.dst undef) w
theorem seq_take {i : Nat} {r : List (Nat × Bool)} {o : Oper} {v : Value} {a : Act} {w : World} (hi : ops[i]? = some o) (hQ : ∀ c a w, Q (.panic c) (a.put o.dst v) w → Q (.panic c) a w) (hy : YieldsIf P ops C o v a) (h : wpSeq P ops Q C r (a.put o.dst v) w) : wpSeq P ops Q C ((i, false) :: r) a w := ⟨o, v, hi, hQ, hy, h⟩
theorem seq_call {i : Nat} {r : List (Nat × Bool)} {o : Oper} {a : Act} {w : World} (hi : ops[i]? = some o) (h : ∀ K : Act → World → Prop, Shut (∀ a' w', C w' → wpSeq P ops Q C r a' w' → K a' w') → if Region.wanted o (yielded ops a.tmps) = true then Oper.wp P o a w K Q else K (a.put o.dst undef) w) : wpSeq P ops Q C ((i, true) :: r) a w := ⟨o, hi, h⟩
theorem seq_skip {i : Nat} {r : List (Nat × Bool)} {o : Oper} {a : Act} {w : World} (hi : ops[i]? = some o) (hw : Region.wanted o (yielded ops a.tmps) = false) (hc : C w) (h : wpSeq P ops Q C r (a.put o.dst undef) w) : wpSeq P ops Q C ((i, true) :: r) a w := ⟨o, hi, fun K hK => by rw [if_neg (by rw [hw]; decide)]; exact hK.out _ _ hc h⟩
theorem rdyB_iff {o : Oper} {done : List Nat} {L : Array Bool} (hL : ∀ j, j < L.size → (L.getD j true = done.contains j)) (hb : ∀ e ∈ o.after, e.on < L.size) : rdyB md o done = true ↔ ∀ e ∈ o.after, Region.binds md e = true → L.getD e.on false = true := by
  unfold rdyB
  rw [Array.all_eq_true]
  constructor
  · intro h e he hbd
    obtain ⟨i, hi, rfl⟩ := Array.mem_iff_getElem.1 he
    have h1 := h i hi
    rw [hbd] at h1
    simp only [Bool.not_true, Bool.false_or] at h1
    have h2 := hL _ (hb _ he)
    have h3 : L.getD (o.after[i]).on false = L.getD (o.after[i]).on true := by
      have := hb _ he
      simp [Array.getD, this]
    rw [h3, h2]
    exact h1
  · intro h i hi
    have he : o.after[i] ∈ o.after := Array.getElem_mem hi
    cases hbd : Region.binds md o.after[i] with
    | false => rfl
    | true =>
      have h1 := h _ he hbd
      have h2 := hL _ (hb _ he)
      have h3 : L.getD (o.after[i]).on false = L.getD (o.after[i]).on true := by
        have := hb _ he
        simp [Array.getD, this]
      rw [← h2, ← h3, h1]
      rfl
def depB (ops : Array Oper) : Bool := ops.all fun o => o.after.all fun e => decide (e.on < ops.size)
theorem seq_till (hsel : Region.noSelect ops = true) (hdep : depB ops = true) : ∀ (r : List (Nat × Bool)) (done : List Nat) (L : Array Bool) (a : Act) (w : World), L.size = ops.size → (∀ j, j < L.size → (L.getD j true = done.contains j)) → (∀ j, j < ops.size → done.contains j = true ∨ r.any (fun x => x.1 == j) = true) → okOrd md ops done r = true → C w → wpSeq P ops Q C r a w → wpTill P md ops Q (fun _ w => C w) r.length L a w := by
  have hd : ∀ {j : Nat} {o : Oper}, ops[j]? = some o → ∀ e ∈ o.after, e.on < ops.size := fun {j o} hj e he => by
    obtain ⟨h1, h2⟩ := Array.getElem?_eq_some_iff.1 hj
    have h3 := (Array.all_eq_true.1 hdep) j h1
    rw [h2] at h3
    obtain ⟨i, hi, rfl⟩ := Array.mem_iff_getElem.1 he
    exact of_decide_eq_true ((Array.all_eq_true.1 h3) i hi)
  intro r
  induction r with
  | nil =>
    intro done L a w hsz hL hcov _ hw H
    refine ⟨?_, H⟩
    rw [List.eq_nil_iff_forall_not_mem]
    intro j hj
    obtain ⟨hun, o, ho, _⟩ := mem_ready.1 hj
    have hlt := (Array.getElem?_eq_some_iff.1 ho).1
    rcases hcov j hlt with h | h
    · have h1 := hL j (by omega)
      rw [h] at h1
      have h2 : L.getD j true = false := by simpa using hun
      rw [h2] at h1
      cases h1
    · simp at h
  | cons x r ih =>
    intro done L a w hsz hL hcov hok hw H
    obtain ⟨i, b⟩ := x
    unfold okOrd at hok
    cases hoi : ops[i]? with
    | none => rw [hoi] at hok; cases hok
    | some oi =>
      rw [hoi] at hok
      simp only [Bool.and_eq_true] at hok
      obtain ⟨k1, k2, k3, k4⟩ := hok
      have hlt := (Array.getElem?_eq_some_iff.1 hoi).1
      have hun : L.getD i true = false := by rw [hL i (by omega)]; simpa using k1
      have hall : ∀ e ∈ oi.after, Region.binds md e = true → L.getD e.on false = true := (rdyB_iff hL (fun e he => by rw [hsz]; exact hd hoi e he)).1 k2
      have hrd : i ∈ Region.ready md ops L := mem_ready.2 ⟨by simpa using hun, oi, hoi, fun e he hb => by simpa using hall e he hb⟩
      have hL' : ∀ j, j < (L.setIfInBounds i true).size → ((L.setIfInBounds i true).getD j true = (i :: done).contains j) := fun j hj => by
        rw [Array.size_setIfInBounds] at hj
        by_cases e : i = j
        · subst e
          simp [Array.getD, hj]
        · rw [getD_set_ne true e, hL j hj]
          simp [List.contains_cons, Ne.symm e]
      have hcov' : ∀ j, j < ops.size → (i :: done).contains j = true ∨ r.any (fun x => x.1 == j) = true := fun j hj => by
        rcases hcov j hj with h | h
        · exact .inl (by simp [List.contains_cons] at h ⊢; exact .inr h)
        · rw [List.any_cons, Bool.or_eq_true] at h
          rcases h with h | h
          · exact .inl (by simp at h; simp [List.contains_cons, h])
          · exact .inr h
      have hrest : ∀ j, j ≠ i → j < ops.size → L.getD j true = false → ∃ y ∈ r, y.1 = j := fun j hji hj hju => by
        rcases hcov' j hj with h | h
        · rw [hL j (by omega)] at hju
          simp only [List.contains_cons, Bool.or_eq_true, beq_iff_eq] at h
          rcases h with h | h
          · exact absurd h hji
          · rw [h] at hju; cases hju
        · obtain ⟨y, hy, e⟩ := List.any_eq_true.1 h
          exact ⟨y, hy, by simpa using e⟩
      cases b with
      | false =>
        obtain ⟨o, v, ho, hQ, hy, H'⟩ := H
        obtain rfl := Option.some.inj (ho.symm.trans hoi)
        simp only [Bool.false_eq_true, if_false] at k3
        refine till_first (S := fun _ w => C w) (T := C) (I := fun _ => True) hoi (Region.noSelect_spec hsel) hQ (fun _ _ => Iff.rfl) (fun _ _ _ _ _ _ => trivial) (fun _ _ _ h => h) r.length L a w (fun j oj hj hji hju hno => ?_) hrd trivial hy hw (ih _ _ _ w (by rw [Array.size_setIfInBounds]; exact hsz) hL' hcov' k4 hw H')
        obtain ⟨y, hy, e⟩ := hrest j hji (Array.getElem?_eq_some_iff.1 hj).1 hju
        have h1 := List.all_eq_true.1 k3 y hy
        rw [e, hj] at h1
        simp only [Bool.or_eq_true] at h1
        rcases h1 with h1 | h1
        · exfalso
          obtain ⟨z, hz, hz2⟩ := Array.any_eq_true.1 h1
          simp only [Bool.and_eq_true, beq_iff_eq] at hz2
          exact hno _ (Array.getElem_mem hz) hz2.1 hz2.2
        · exact h1
      | true =>
        obtain ⟨o, ho, H'⟩ := H
        obtain rfl := Option.some.inj (ho.symm.trans hoi)
        simp only [if_true] at k3
        refine ⟨fun h => (by rw [h] at hrd; cases hrd), fun j hj => ?_⟩
        have hji : j = i := by
          apply Classical.byContradiction
          intro hji
          obtain ⟨hju, oj, hoj, hjall⟩ := mem_ready.1 hj
          obtain ⟨y, hy, e⟩ := hrest j hji (Array.getElem?_eq_some_iff.1 hoj).1 (by simpa using hju)
          have h1 := List.all_eq_true.1 k3 y hy
          rw [e, hoj] at h1
          simp only [Bool.not_eq_true'] at h1
          have h2 := (rdyB_iff (md := md) hL (fun e he => by rw [hsz]; exact hd hoj e he)).2 (fun e he hb => by simpa using hjall e he hb)
          rw [h1] at h2
          cases h2
        subst hji
        exact wpOp_step hoi (fun K' hK' => H' K' (fun a' w' hc hs => hK' a' w' ⟨hc, ih _ _ a' w' (by rw [Array.size_setIfInBounds]; exact hsz) hL' hcov' k4 hc hs⟩))
theorem wp_region_seq {id : Nat} {a : Act} {w : World} (order : List (Nat × Bool)) (hm : P.follows .mixedOrders = true) (hst : (Region.noSelect ops && (depB ops && (covB ops order && (decide (order.length = ops.size) && okOrd .any ops [] order)))) = true) (hC : C w.drew) (h : wpSeq P ops Q C order a w.drew) : (Code.region id ops true).wp P Q a w := by
  simp only [Bool.and_eq_true, decide_eq_true_eq] at hst
  obtain ⟨h1, h2, h3, h4, h5⟩ := hst
  refine wp_region_till (S := fun _ w => C w) hm hC (fun _ => ?_)
  rw [← h4]
  refine seq_till h1 h2 order [] _ a w.drew (by simp [h4]) (fun j hj => ?_) (fun j hj => .inr ?_) h5 hC h
  · have : j < order.length := by simpa using hj
    simp [Array.getD, this]
  · have := List.all_eq_true.1 h3 j (List.mem_range.2 hj)
    exact this
/- what a plain operation yields -/
def plainV (ops : Array Oper) (a : Act) (o : Oper) : Option Value :=
  match Region.wanted o (yielded ops a.tmps) with
  | false => some undef
  | true => match o.op with
    | .move x => some (a.eval x)
    | .assign x => some (a.eval x)
    | .pick t x y => match a.eval t with
      | .bool true => some (a.eval x)
      | .bool false => some (a.eval y)
      | _ => none
    | _ => none
theorem plainV_yields {o : Oper} {v : Value} {a : Act} (h : plainV ops a o = some v) : Yields P ops o v a := by
  unfold plainV at h
  cases hw : Region.wanted o (yielded ops a.tmps) with
  | false =>
    rw [hw] at h
    simp only [Option.some.injEq] at h
    exact .inr ⟨hw, h.symm⟩
  | true =>
    rw [hw] at h
    refine .inl ⟨hw, fun w => ?_⟩
    cases ho : o.op with
    | move x => rw [ho] at h; simp only [Option.some.injEq] at h; simp [execOp, ho, h]
    | assign x => rw [ho] at h; simp only [Option.some.injEq] at h; simp [execOp, ho, h]
    | pick t x y =>
      rw [ho] at h
      simp only at h
      split at h
      · next e => simp only [Option.some.injEq] at h; simp [execOp, ho, e, h, asBool]
      · next e => simp only [Option.some.injEq] at h; simp [execOp, ho, e, h, asBool]
      · cases h
    | _ => rw [ho] at h; simp at h
def putAll (a : Act) : List (Option Nat × Value) → Act
  | [] => a
  | (d, v) :: r => putAll (a.put d v) r
/- what is left is plain: calls are skipped -/
def runPlain (ops : Array Oper) : List (Nat × Bool) → Act → Option (List (Option Nat × Value))
  | [], _ => some []
  | (i, b) :: r, a => match ops[i]? with
    | none => none
    | some o => match b && Region.wanted o (yielded ops a.tmps) with
      | true => none
      | false => match plainV ops a o with
        | none => none
        | some v => match runPlain ops r (a.put o.dst v) with
          | none => none
          | some us => some ((o.dst, v) :: us)
theorem seq_plain (hQ : ∀ c a w d v, Q (.panic c) (Act.put a d v) w → Q (.panic c) a w) : ∀ (r : List (Nat × Bool)) (us : List (Option Nat × Value)) (a : Act) (w : World), runPlain ops r a = some us → C w → Q .normal (putAll a us) w → wpSeq P ops Q C r a w := by
  intro r
  induction r with
  | nil =>
    intro us a w h _ H
    simp only [runPlain, Option.some.injEq] at h
    subst h
    exact H
  | cons x r ih =>
    intro us a w h hc H
    obtain ⟨i, b⟩ := x
    unfold runPlain at h
    cases ho : ops[i]? with
    | none => rw [ho] at h; cases h
    | some o =>
      rw [ho] at h
      simp only at h
      cases hb : (b && Region.wanted o (yielded ops a.tmps)) with
      | true => rw [hb] at h; cases h
      | false =>
        rw [hb] at h
        simp only at h
        cases hv : plainV ops a o with
        | none => rw [hv] at h; cases h
        | some v =>
          rw [hv] at h
          simp only at h
          cases hr : runPlain ops r (a.put o.dst v) with
          | none => rw [hr] at h; cases h
          | some vs =>
            rw [hr] at h
            simp only [Option.some.injEq] at h
            subst h
            have H2 := ih vs (a.put o.dst v) w hr hc H
            cases b with
            | false => exact seq_take ho (fun c a w h => hQ c a w _ _ h) (Yields.yieldsIf (plainV_yields hv)) H2
            | true =>
              have hw : Region.wanted o (yielded ops a.tmps) = false := by simpa using hb
              have hv2 : v = undef := by
                unfold plainV at hv
                rw [hw] at hv
                simpa using hv.symm
              subst hv2
              exact seq_skip ho hw hc H2
end
end Go.Proofs.YtemhhlongfabmaaGreatDoor
