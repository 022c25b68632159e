/- Orders of a region, with a condition on the world that may lapse once a given operation has come up: a read may be taken first if what it reads stands till the operation that uses it has come up. -/
import Derived.Deep.RegionHeld
import Derived.Test.YtemhhlongfabmaaGreatDoorAa
import Derived.Deep.DeepCutAuto
namespace Go.Proofs.YtemhhlongfabmaaGreatDoor
set_option linter.unusedVariables false
section
variable {P : Program} {ops : Array Oper} {Q : Exit → Act → World → Prop} {md : Region.Mode} {S : Array Bool → World → Prop}
/- whatever order is picked; behind each operation S holds of what has come up and of the world -/
def wpTill (P : Program) (md : Region.Mode) (ops : Array Oper) (Q : Exit → Act → World → Prop) (S : Array Bool → World → Prop) : Nat → Array Bool → Act → World → Prop
  | 0, L, a, w => Region.ready md ops L = [] ∧ Q .normal a w
  | f + 1, L, a, w => (Region.ready md ops L = [] → Q .normal a w) ∧ ∀ i ∈ Region.ready md ops L, wpOp P ops Q i (fun a' w' => S (L.setIfInBounds i true) w' ∧ wpTill P md ops Q S f (L.setIfInBounds i true) a' w') a w
theorem wpAny_of_till : ∀ (f : Nat) (L : Array Bool) (a : Act) (w : World), wpTill P md ops Q S f L a w → wpAny P md ops Q f L a w
  | 0, _, _, _, h => h
  | f + 1, _, _, _, h => ⟨h.1, fun i hi => wpOp_mono (fun a' w' h' => wpAny_of_till f _ a' w' h'.2) (h.2 i hi)⟩
theorem till_first {i : Nat} {oi : Oper} {v : Value} {T : World → Prop} {I : Array Bool → Prop} (hi : ops[i]? = some oi) (hsel : ∀ (j : Nat) (o : Oper) cs b, ops[j]? = some o → o.op ≠ .select cs b)
    (hQ : ∀ c a w, Q (.panic c) (a.put oi.dst v) w → Q (.panic c) a w) (hS : ∀ L w, S (L.setIfInBounds i true) w ↔ S L w)
    (hI : ∀ L j, L.getD i true = false → I L → j ∈ Region.ready md ops L → j ≠ i → I (L.setIfInBounds j true)) (hT : ∀ L w, I L → S L w → T w) :
    ∀ (f : Nat) (L : Array Bool) (a : Act) (w : World),
      (∀ j oj, ops[j]? = some oj → j ≠ i → L.getD j true = false → (∀ e ∈ oj.after, Region.binds md e = true → e.on ≠ i) → oi.apart ops oj = true) →
      i ∈ Region.ready md ops L → I L → YieldsIf P ops T oi v a → S L w →
      wpTill P md ops Q S f (L.setIfInBounds i true) (a.put oi.dst v) w → wpTill P md ops Q S (f + 1) L a w := by
  intro f
  induction f with
  | zero =>
    intro L a w _ hr hi0 hy hs H
    refine ⟨fun h => (by rw [h] at hr; cases hr), fun j hj => ?_⟩
    by_cases hji : j = i
    · subst hji; exact hy.wpOp hi (hT L w hi0 hs) ⟨(hS L w).2 hs, H⟩
    · have h9 := ready_mono hj hji
      rw [H.1] at h9
      cases h9
  | succ f ih =>
    intro L a w hfree hr hi0 hy hs H
    refine ⟨fun h => (by rw [h] at hr; cases hr), fun j hj => ?_⟩
    by_cases hji : j = i
    · subst hji; exact hy.wpOp hi (hT L w hi0 hs) ⟨(hS L w).2 hs, H⟩
    · have h1 := H.2 j (ready_mono hj hji)
      have hiun := (mem_ready.1 hr).1
      obtain ⟨hjun, oj, hoj, hall⟩ := mem_ready.1 hj
      have hnot : ∀ e ∈ oj.after, Region.binds md e = true → e.on ≠ i := fun e he hb heq => by
        have h2 := hall e he hb
        rw [heq] at h2
        rcases Nat.lt_or_ge i L.size with h' | h'
        · simp [h'] at hiun h2; rw [hiun] at h2; cases h2
        · simp [Array.getElem?_eq_none h'] at h2
      have h2 := wpOp_putIf hoj (hfree j oj hoj hji hjun hnot) (fun cs b => hsel i oi cs b hi) (fun cs b => hsel j oj cs b hoj) hQ hy h1
      have hfree' : ∀ k ok, ops[k]? = some ok → k ≠ i → (L.setIfInBounds j true).getD k true = false →
          (∀ e ∈ ok.after, Region.binds md e = true → e.on ≠ i) → oi.apart ops ok = true := fun k ok hk hki hun hno => by
        refine hfree k ok hk hki ?_ hno
        by_cases hjk : j = k
        · subst hjk; exact hjun
        · rw [getD_set_ne true hjk] at hun; exact hun
      refine wpOp_mono (fun a' w' h3 => ?_) h2
      obtain ⟨h4, h5, h6⟩ := h3
      rw [Array.setIfInBounds_comm _ _ (Ne.symm hji)] at h5 h6
      have h7 := (hS _ _).1 h5
      exact ⟨h7, ih (L.setIfInBounds j true) a' w' hfree' (ready_mono hr (Ne.symm hji)) (hI L j hiun hi0 hj hji) h4 h7 h6⟩
/- an operation that yields in whatever world -/
theorem till_take {i : Nat} {oi : Oper} {v : Value} {f : Nat} {L : Array Bool} {a : Act} {w : World} (hi : ops[i]? = some oi) (hs : Region.noSelect ops = true) (hf : Region.free md ops L i = true) (hr : (Region.ready md ops L).contains i = true)
    (hQ : ∀ c a w, Q (.panic c) (a.put oi.dst v) w → Q (.panic c) a w) (hS : ∀ L w, S (L.setIfInBounds i true) w ↔ S L w) (hy : Yields P ops oi v a) (hw : S L w)
    (h : S (L.setIfInBounds i true) w → wpTill P md ops Q S f (L.setIfInBounds i true) (a.put oi.dst v) w) : wpTill P md ops Q S (f + 1) L a w :=
  till_first (T := fun _ => True) (I := fun _ => True) hi (Region.noSelect_spec hs) hQ hS (fun _ _ _ _ _ _ => trivial) (fun _ _ _ _ => trivial) f L a w (Region.free_spec hi hf) (by simpa using hr) trivial hy.yieldsIf hw (h ((hS L w).2 hw))
/- a read whose value stands till operation c has come up, which waits for it -/
theorem till_read {i c : Nat} {oi oc : Oper} {v : Value} {T : World → Prop} {f : Nat} {L : Array Bool} {a : Act} {w : World} (hi : ops[i]? = some oi) (hc : ops[c]? = some oc) (hw8 : (oc.after.toList.any fun e => Region.binds md e && e.on == i) = true)
    (hs : Region.noSelect ops = true) (hf : Region.free md ops L i = true) (hr : (Region.ready md ops L).contains i = true) (hcl : L.getD c true = false)
    (hQ : ∀ c a w, Q (.panic c) (a.put oi.dst v) w → Q (.panic c) a w) (hS : ∀ L w, S (L.setIfInBounds i true) w ↔ S L w) (hT : ∀ L w, L.getD c true = false → S L w → T w) (hy : YieldsIf P ops T oi v a) (hw : S L w)
    (h : S (L.setIfInBounds i true) w → wpTill P md ops Q S f (L.setIfInBounds i true) (a.put oi.dst v) w) : wpTill P md ops Q S (f + 1) L a w := by
  refine till_first (T := T) (I := fun L => L.getD c true = false) hi (Region.noSelect_spec hs) hQ hS (fun L j h1 h2 h3 h4 => ?_) hT f L a w (Region.free_spec hi hf) (by simpa using hr) hcl hy hw (h ((hS L w).2 hw))
  by_cases hjc : j = c
  · subst hjc
    obtain ⟨_, o, ho, hall⟩ := mem_ready.1 h3
    rw [hc] at ho
    obtain rfl := Option.some.inj ho
    obtain ⟨e, he, hb⟩ := List.any_eq_true.1 hw8
    simp only [Bool.and_eq_true, beq_iff_eq] at hb
    have h5 := hall e (by simpa using he) hb.1
    rw [hb.2] at h5
    rcases Nat.lt_or_ge i L.size with h' | h'
    · simp [h'] at h1 h5; rw [h1] at h5; cases h5
    · simp [Array.getElem?_eq_none h'] at h5
  · show (L.setIfInBounds j true).getD c true = false
    rw [getD_set_ne true hjc]
    exact h2
/- the one that comes up -/
theorem till_one {i : Nat} {o : Oper} {f : Nat} {L : Array Bool} {a : Act} {w : World} (hr : Region.ready md ops L = [i]) (ho : ops[i]? = some o)
    (h : ∀ K' : Act → World → Prop, Shut (∀ a w, S (L.setIfInBounds i true) w → (S (L.setIfInBounds i true) w → wpTill P md ops Q S f (L.setIfInBounds i true) a w) → K' a w) → if Region.wanted o (yielded ops a.tmps) = true then Oper.wp P o a w K' Q else K' (a.put o.dst undef) w) :
    wpTill P md ops Q S (f + 1) L a w := by
  refine ⟨fun h0 => (by rw [hr] at h0; cases h0), fun j hj => ?_⟩
  rw [hr] at hj
  obtain rfl : j = i := by simpa using hj
  exact wpOp_step ho (fun K' hK => h K' (fun a w hS hW => hK a w ⟨hS, hW hS⟩))
theorem till_done {L : Array Bool} {a : Act} {w : World} (hr : Region.ready md ops L = []) (h : Q .normal a w) : ∀ f, wpTill P md ops Q S f L a w
  | 0 => ⟨hr, h⟩
  | _ + 1 => ⟨fun _ => h, by rw [hr]; simp⟩
/- at the beginning -/
theorem wp_region_till {id : Nat} {a : Act} {w : World} (hm : P.follows .mixedOrders = true) (hw : S (Array.replicate ops.size false) w.drew)
    (h : S (Array.replicate ops.size false) w.drew → wpTill P .any ops Q S ops.size (Array.replicate ops.size false) a w.drew) : (Code.region id ops true).wp P Q a w :=
  wp_region_any hm (wpAny_of_till _ _ _ _ (h hw))
end
section
variable {P : Program} {ops : Array Oper} {Q : Exit → Act → World → Prop} {md : Region.Mode} {S : Array Bool → World → Prop}
/- a read whose value stands till the last of a chain of operations has come up, each of which waits for the read or for one of the chain -/
theorem till_readc {i : Nat} {cs : List Nat} {oi : Oper} {v : Value} {T : World → Prop} {f : Nat} {L : Array Bool} {a : Act} {w : World} (hi : ops[i]? = some oi) (hch : (cs.all fun c => ((ops[c]?).map fun oc => oc.after.toList.any fun e => Region.binds md e && (i :: cs).contains e.on).getD false) = true)
    (hs : Region.noSelect ops = true) (hf : Region.free md ops L i = true) (hr : (Region.ready md ops L).contains i = true) (hcl : (cs.all fun c => !(L.getD c true)) = true)
    (hQ : ∀ c a w, Q (.panic c) (a.put oi.dst v) w → Q (.panic c) a w) (hS : ∀ L w, S (L.setIfInBounds i true) w ↔ S L w) (hT : ∀ L w, (∀ c ∈ cs, L.getD c true = false) → S L w → T w) (hy : YieldsIf P ops T oi v a) (hw : S L w)
    (h : S (L.setIfInBounds i true) w → wpTill P md ops Q S f (L.setIfInBounds i true) (a.put oi.dst v) w) : wpTill P md ops Q S (f + 1) L a w := by
  refine till_first (T := T) (I := fun L => ∀ c ∈ cs, L.getD c true = false) hi (Region.noSelect_spec hs) hQ hS (fun L j h1 h2 h3 h4 => ?_) hT f L a w (Region.free_spec hi hf) (by simpa using hr) (fun c hc => by simpa using List.all_eq_true.1 hcl c hc) hy hw (h ((hS L w).2 hw))
  intro c hc
  by_cases hjc : j = c
  · subst hjc
    exfalso
    obtain ⟨_, o, ho, hall⟩ := mem_ready.1 h3
    have h6 := List.all_eq_true.1 hch j hc
    rw [ho] at h6
    simp only [Option.map_some, Option.getD_some] at h6
    obtain ⟨e, he, hb⟩ := List.any_eq_true.1 h6
    simp only [Bool.and_eq_true] at hb
    have h5 := hall e (by simpa using he) hb.1
    have h7 : L.getD e.on true = false := by
      have hm : e.on ∈ i :: cs := by simpa using hb.2
      rcases List.mem_cons.1 hm with h8 | h8
      · rw [h8]; exact h1
      · exact h2 _ h8
    rcases Nat.lt_or_ge e.on L.size with h' | h'
    · simp [h'] at h7 h5; rw [h7] at h5; cases h5
    · simp [Array.getElem?_eq_none h'] at h5
  · rw [getD_set_ne true hjc]
    exact h2 c hc
end
theorem offD {L : Array Bool} {c : Nat} (h : L.getD c true = false) : L.getD c false = false := by
  rcases Nat.lt_or_ge c L.size with h' | h'
  · simp [h'] at h ⊢; exact h
  · simp [Array.getElem?_eq_none h'] at h
/- a cell that stands till operation z has come up -/
def tillZ (z : Nat) (p : Addr) (v : Value) (L : Array Bool) (W : World) : Prop := L.getD z false = true ∨ W.cell? p = some v
theorem tillZ_set {z i : Nat} {p : Addr} {v : Value} (h : i ≠ z) {L : Array Bool} {W : World} : tillZ z p v (L.setIfInBounds i true) W ↔ tillZ z p v L W := by
  unfold tillZ
  rw [getD_set_ne false h]
theorem tillZ_out {z : Nat} {p : Addr} {v : Value} {L : Array Bool} {W : World} (hL : L.getD z true = false) (h : tillZ z p v L W) : W.cell? p = some v := h.resolve_left (by rw [offD hL]; decide)
end Go.Proofs.YtemhhlongfabmaaGreatDoor
