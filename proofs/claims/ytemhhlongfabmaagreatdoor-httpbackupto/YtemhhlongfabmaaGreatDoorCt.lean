/- A region whose order is drawn and whose last operation is a store that waits for all others: what the others read stands till then. -/
import Derived.Test.YtemhhlongfabmaaGreatDoorCe
namespace Go.Proofs.YtemhhlongfabmaaGreatDoor
set_option maxRecDepth 20000
set_option linter.unusedVariables false
set_option linter.unusedSimpArgs false
section
variable {P : Program} {ops : Array Oper} {Q : Exit → Act → World → Prop} {md : Region.Mode} {C : World → Prop}
def wpSeqL (P : Program) (ops : Array Oper) (Q : Exit → Act → World → Prop) (C : World → Prop) : List (Nat × Bool) → Act → World → Prop
  | [], a, w => Q .normal a w
  | (i, false) :: r, a, w => ∃ o v, ops[i]? = some o ∧ (∀ c a w, Q (.panic c) (a.put o.dst v) w → Q (.panic c) a w) ∧ YieldsIf P ops C o v a ∧ wpSeqL P ops Q C r (a.put o.dst v) w
  | (i, true) :: r, a, w => ∃ o, ops[i]? = some o ∧ ∀ K : Act → World → Prop, Shut (∀ a' w', (r = [] ∨ C w') → wpSeqL P ops Q C r a' w' → K a' w') → if Region.wanted o (yielded ops a.tmps) = true then Oper.wp P o a w K Q else K (a.put o.dst undef) w
theorem seqL_take {i : Nat} {r : List (Nat × Bool)} {o : Oper} {v : Value} {a : Act} {w : World} (hi : ops[i]? = some o) (hQ : ∀ c a w, Q (.panic c) (a.put o.dst v) w → Q (.panic c) a w) (hy : YieldsIf P ops C o v a) (h : wpSeqL P ops Q C r (a.put o.dst v) w) : wpSeqL P ops Q C ((i, false) :: r) a w := ⟨o, v, hi, hQ, hy, h⟩
theorem seqL_call {i : Nat} {r : List (Nat × Bool)} {o : Oper} {a : Act} {w : World} (hi : ops[i]? = some o) (h : ∀ K : Act → World → Prop, Shut (∀ a' w', (r = [] ∨ C w') → wpSeqL P ops Q C r a' w' → K a' w') → if Region.wanted o (yielded ops a.tmps) = true then Oper.wp P o a w K Q else K (a.put o.dst undef) w) : wpSeqL P ops Q C ((i, true) :: r) a w := ⟨o, hi, h⟩
/- the last one waits for all others, or for one that waits for them and has not come up yet -/
def dirB (md : Region.Mode) (ops : Array Oper) (z i : Nat) : Bool := match ops[z]? with
  | some oz => oz.after.toList.any (fun e => Region.binds md e && e.on == i)
  | none => false
def lastB (md : Region.Mode) (ops : Array Oper) (z : Nat) : List Nat → List (Nat × Bool) → Bool
  | _, [] => true
  | done, (i, b) :: r => (b || dirB md ops z i || (List.range ops.size).any (fun k => dirB md ops z k && dirB md ops k i && !done.contains k)) && lastB md ops z (i :: done) r
theorem dirB_out {z i : Nat} {L : Array Bool} (h : dirB md ops z i = true) (hr : z ∈ Region.ready md ops L) : L.getD i false = true := by
  obtain ⟨_, oz, hoz, hallz⟩ := mem_ready.1 hr
  unfold dirB at h
  rw [hoz] at h
  obtain ⟨e, he, hb⟩ := List.any_eq_true.1 h
  simp only [Bool.and_eq_true, beq_iff_eq] at hb
  have h6 := hallz e (by simpa using he) hb.1
  rw [hb.2] at h6
  exact h6
theorem getD_clash {L : Array Bool} {i : Nat} (h1 : L.getD i true = false) (h2 : L.getD i false = true) : False := by
  rcases Nat.lt_or_ge i L.size with h' | h'
  · simp [h'] at h1 h2; rw [h1] at h2; cases h2
  · simp [Array.getElem?_eq_none h'] at h2
def endsB (z : Nat) (r : List (Nat × Bool)) : Bool := r.getLast? == some (z, true)
theorem nodup_end {i : Nat} {b : Bool} : ∀ {r : List (Nat × Bool)} {done : List Nat}, okOrd md ops (i :: done) r = true → (i, b) ∈ r → False := by
  have key : ∀ (r : List (Nat × Bool)) (done : List Nat), done.contains i = true → okOrd md ops done r = true → (i, b) ∈ r → False := by
    intro r
    induction r with
    | nil => intro done _ _ h; cases h
    | cons x r ih =>
      intro done hd hok hm
      obtain ⟨j, c⟩ := x
      unfold okOrd at hok
      cases hoj : ops[j]? with
      | none => rw [hoj] at hok; cases hok
      | some oj =>
        rw [hoj] at hok
        simp only [Bool.and_eq_true] at hok
        obtain ⟨k1, k2, k3, k4⟩ := hok
        rcases List.mem_cons.1 hm with hm | hm
        · cases hm
          rw [hd] at k1
          cases k1
        · exact ih (j :: done) (by rw [List.contains_cons, hd, Bool.or_true]) k4 hm
  intro r done h1 h2
  exact key r (i :: done) (by simp [List.contains_cons]) h1 h2
theorem seqL_till {z : Nat} (hsel : Region.noSelect ops = true) (hdep : depB ops = true) : ∀ (r : List (Nat × Bool)) (done : List Nat) (L : Array Bool) (a : Act) (w : World), L.size = ops.size → (∀ j, j < L.size → (L.getD j true = done.contains j)) → (∀ j, j < ops.size → done.contains j = true ∨ r.any (fun x => x.1 == j) = true) → okOrd md ops done r = true → lastB md ops z done r = true → (r = [] ∨ (endsB z r = true ∧ L.getD z true = false ∧ C w)) → wpSeqL P ops Q C r a w → wpTill P md ops Q (fun L w => L.getD z true = false → C w) r.length L a w := by
  have hd : ∀ {j : Nat} {o : Oper}, ops[j]? = some o → ∀ e ∈ o.after, e.on < ops.size := fun {j o} hj e he => by
    obtain ⟨h1, h2⟩ := Array.getElem?_eq_some_iff.1 hj
    have h3 := (Array.all_eq_true.1 hdep) j h1
    rw [h2] at h3
    obtain ⟨i, hi, rfl⟩ := Array.mem_iff_getElem.1 he
    exact of_decide_eq_true ((Array.all_eq_true.1 h3) i hi)
  intro r
  induction r with
  | nil =>
    intro done L a w hsz hL hcov _ _ hw H
    refine ⟨?_, H⟩
    rw [List.eq_nil_iff_forall_not_mem]
    intro j hj
    obtain ⟨hun, o, ho, _⟩ := mem_ready.1 hj
    have hlt := (Array.getElem?_eq_some_iff.1 ho).1
    rcases hcov j hlt with h | h
    · have h1 := hL j (by omega)
      rw [h] at h1
      have h2 : L.getD j true = false := by simpa using hun
      rw [h2] at h1
      cases h1
    · simp at h
  | cons x r ih =>
    intro done L a w hsz hL hcov hok hlb hw H
    obtain ⟨i, b⟩ := x
    unfold okOrd at hok
    unfold lastB at hlb
    simp only [Bool.and_eq_true] at hlb
    obtain ⟨lb1, lb2⟩ := hlb
    cases hoi : ops[i]? with
    | none => rw [hoi] at hok; cases hok
    | some oi =>
      rw [hoi] at hok
      simp only [Bool.and_eq_true] at hok
      obtain ⟨k1, k2, k3, k4⟩ := hok
      have hlt := (Array.getElem?_eq_some_iff.1 hoi).1
      have hun : L.getD i true = false := by rw [hL i (by omega)]; simpa using k1
      have hall : ∀ e ∈ oi.after, Region.binds md e = true → L.getD e.on false = true := (rdyB_iff hL (fun e he => by rw [hsz]; exact hd hoi e he)).1 k2
      have hrd : i ∈ Region.ready md ops L := mem_ready.2 ⟨by simpa using hun, oi, hoi, fun e he hb => by simpa using hall e he hb⟩
      have hL' : ∀ j, j < (L.setIfInBounds i true).size → ((L.setIfInBounds i true).getD j true = (i :: done).contains j) := fun j hj => by
        rw [Array.size_setIfInBounds] at hj
        by_cases e : i = j
        · subst e
          simp [Array.getD, hj]
        · rw [getD_set_ne true e, hL j hj]
          simp [List.contains_cons, Ne.symm e]
      have hcov' : ∀ j, j < ops.size → (i :: done).contains j = true ∨ r.any (fun x => x.1 == j) = true := fun j hj => by
        rcases hcov j hj with h | h
        · exact .inl (by simp [List.contains_cons] at h ⊢; exact .inr h)
        · rw [List.any_cons, Bool.or_eq_true] at h
          rcases h with h | h
          · exact .inl (by simp at h; simp [List.contains_cons, h])
          · exact .inr h
      have hrest : ∀ j, j ≠ i → j < ops.size → L.getD j true = false → ∃ y ∈ r, y.1 = j := fun j hji hj hju => by
        rcases hcov' j hj with h | h
        · rw [hL j (by omega)] at hju
          simp only [List.contains_cons, Bool.or_eq_true, beq_iff_eq] at h
          rcases h with h | h
          · exact absurd h hji
          · rw [h] at hju; cases hju
        · obtain ⟨y, hy, e⟩ := List.any_eq_true.1 h
          exact ⟨y, hy, by simpa using e⟩
      cases b with
      | false =>
        obtain ⟨o, v, ho, hQ, hy, H'⟩ := H
        obtain rfl := Option.some.inj (ho.symm.trans hoi)
        simp only [Bool.false_eq_true, if_false] at k3
        obtain ⟨hz1, hz2, hz3⟩ := hw.resolve_left (by simp)
        have hiz : i ≠ z := fun e => by
          subst e
          by_cases hr : r = []
          · subst hr; simp [endsB] at hz1
          · have h1 : (i, true) ∈ r := by
              have h0 : endsB i r = true := by simpa [endsB, List.getLast?_cons, List.getLast?_eq_some_getLast hr] using hz1
              exact List.mem_of_getLast? (by simpa [endsB] using h0)
            have h2 := List.all_eq_true.1 k3 _ h1
            simp only [hoi] at h2
            exact nodup_end k4 h1
        have hr : r ≠ [] := fun e => by subst e; simp [endsB] at hz1
        have hz1' : endsB z r = true := by simpa [endsB, List.getLast?_cons, List.getLast?_eq_some_getLast hr] using hz1
        have hz2' : (L.setIfInBounds i true).getD z true = false := by rw [getD_set_ne true hiz]; exact hz2
        have hIx : ∃ I : Array Bool → Prop, I L ∧ (∀ L, I L → L.getD z true = false) ∧ ∀ L j, L.getD i true = false → I L → j ∈ Region.ready md ops L → j ≠ i → I (L.setIfInBounds j true) := by
          simp only [Bool.false_or, Bool.or_eq_true] at lb1
          rcases lb1 with lb1 | lb1
          · refine ⟨fun L => L.getD z true = false, hz2, fun L h => h, fun L j h1 h2 h3 h4 => ?_⟩
            by_cases hjc : j = z
            · subst hjc
              exact (getD_clash h1 (dirB_out lb1 h3)).elim
            · show (L.setIfInBounds j true).getD z true = false
              rw [getD_set_ne true hjc]
              exact h2
          · obtain ⟨k, hk0, hk⟩ := List.any_eq_true.1 lb1
            simp only [Bool.and_eq_true, Bool.not_eq_true'] at hk
            obtain ⟨⟨hk1, hk2⟩, hk3⟩ := hk
            refine ⟨fun L => L.getD z true = false ∧ L.getD k true = false, ⟨hz2, by rw [hL k (by rw [hsz]; exact List.mem_range.1 hk0)]; exact hk3⟩, fun L h => h.1, fun L j h1 h2 h3 h4 => ?_⟩
            by_cases hjc : j = z
            · subst hjc
              exact (getD_clash h2.2 (dirB_out hk1 h3)).elim
            · by_cases hjk : j = k
              · subst hjk
                exact (getD_clash h1 (dirB_out hk2 h3)).elim
              · refine ⟨?_, ?_⟩
                · rw [getD_set_ne true hjc]; exact h2.1
                · rw [getD_set_ne true hjk]; exact h2.2
        obtain ⟨I, i1, i2, i3⟩ := hIx
        refine till_first (S := fun L w => L.getD z true = false → C w) (T := C) (I := I) hoi (Region.noSelect_spec hsel) hQ (fun L w => by rw [getD_set_ne true hiz]) i3 (fun L w h1 h2 => h2 (i2 L h1)) r.length L a w (fun j oj hj hji hju hno => ?_) hrd i1 hy (fun _ => hz3) (ih _ _ _ w (by rw [Array.size_setIfInBounds]; exact hsz) hL' hcov' k4 lb2 (.inr ⟨hz1', hz2', hz3⟩) H')
        obtain ⟨y, hy, e⟩ := hrest j hji (Array.getElem?_eq_some_iff.1 hj).1 hju
        have h1 := List.all_eq_true.1 k3 y hy
        rw [e, hj] at h1
        simp only [Bool.or_eq_true] at h1
        rcases h1 with h1 | h1
        · exfalso
          obtain ⟨z, hz, hz2⟩ := Array.any_eq_true.1 h1
          simp only [Bool.and_eq_true, beq_iff_eq] at hz2
          exact hno _ (Array.getElem_mem hz) hz2.1 hz2.2
        · exact h1
      | true =>
        obtain ⟨o, ho, H'⟩ := H
        obtain rfl := Option.some.inj (ho.symm.trans hoi)
        simp only [if_true] at k3
        refine ⟨fun h => (by rw [h] at hrd; cases hrd), fun j hj => ?_⟩
        have hji : j = i := by
          apply Classical.byContradiction
          intro hji
          obtain ⟨hju, oj, hoj, hjall⟩ := mem_ready.1 hj
          obtain ⟨y, hy, e⟩ := hrest j hji (Array.getElem?_eq_some_iff.1 hoj).1 (by simpa using hju)
          have h1 := List.all_eq_true.1 k3 y hy
          rw [e, hoj] at h1
          simp only [Bool.not_eq_true'] at h1
          have h2 := (rdyB_iff (md := md) hL (fun e he => by rw [hsz]; exact hd hoj e he)).2 (fun e he hb => by simpa using hjall e he hb)
          rw [h1] at h2
          cases h2
        subst hji
        obtain ⟨hz1, hz2, hz3⟩ := hw.resolve_left (by simp)
        refine wpOp_step hoi (fun K' hK' => H' K' (fun a' w' hc hs => hK' a' w' ⟨fun hz => ?_, ih _ _ a' w' (by rw [Array.size_setIfInBounds]; exact hsz) hL' hcov' k4 lb2 ?_ hs⟩))
        · rcases hc with hc | hc
          · subst hc
            exfalso
            simp only [endsB, List.getLast?_singleton, beq_iff_eq, Option.some.injEq, Prod.mk.injEq] at hz1
            obtain ⟨rfl, _⟩ := hz1
            have : j < L.size := by omega
            simp [Array.getD, this] at hz
          · exact hc
        · by_cases hr : r = []
          · exact .inl hr
          · have hz1' : endsB z r = true := by simpa [endsB, List.getLast?_cons, List.getLast?_eq_some_getLast hr] using hz1
            have hjz : j ≠ z := fun e => by
              subst e
              exact nodup_end k4 (List.mem_of_getLast? (by simpa [endsB] using hz1'))
            refine .inr ⟨hz1', by rw [getD_set_ne true hjz]; exact hz2, hc.resolve_left hr⟩
theorem wp_region_seqL {id : Nat} {a : Act} {w : World} (order : List (Nat × Bool)) (z : Nat) (hm : P.follows .mixedOrders = true) (hst : (Region.noSelect ops && (depB ops && (covB ops order && (decide (order.length = ops.size) && (okOrd .any ops [] order && (lastB .any ops z [] order && (decide (z < ops.size) && endsB z order))))))) = true) (hC : C w.drew) (h : wpSeqL P ops Q C order a w.drew) : (Code.region id ops true).wp P Q a w := by
  simp only [Bool.and_eq_true, decide_eq_true_eq] at hst
  obtain ⟨h1, h2, h3, h4, h5, h6, h8, h7⟩ := hst
  refine wp_region_till (S := fun L w => L.getD z true = false → C w) hm (fun _ => hC) (fun _ => ?_)
  rw [← h4]
  have hz : z < order.length := by rw [h4]; exact h8
  refine seqL_till h1 h2 order [] _ a w.drew (by simp [h4]) (fun j hj => ?_) (fun j hj => .inr ?_) h5 h6 (.inr ⟨h7, by simp [Array.getD, hz], hC⟩) h
  · have : j < order.length := by simpa using hj
    simp [Array.getD, this]
  · have := List.all_eq_true.1 h3 j (List.mem_range.2 hj)
    exact this
end
end Go.Proofs.YtemhhlongfabmaaGreatDoor
