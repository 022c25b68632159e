/- Agreement, on plain data: ballots, votes, proposals. -/
import Derived.Test.YtdfnjcjpblkmcaaDoorAb
namespace Go.Proofs.YtdfnjcjpblkmcaaDoor
set_option linter.unusedVariables false
abbrev Bal := Int × Int
def ab (x y : Bal) : Prop := x.1 > y.1 ∨ x.1 = y.1 ∧ x.2 > y.2
def leg (b : Bal) : Prop := 1 ≤ b.1 ∧ 0 ≤ b.2 ∧ b.2 < 16
theorem ab_irr (x : Bal) : ¬ ab x x := by unfold ab; omega
theorem nab_trans {x y z : Bal} (h : ¬ ab x y) (k : ¬ ab y z) : ¬ ab x z := by unfold ab at *; omega
theorem ab_tri {x y : Bal} (h : ¬ ab x y) : x = y ∨ ab y x := by
  unfold ab at *
  by_cases h1 : x.1 = y.1
  · by_cases h2 : x.2 = y.2
    · exact .inl (Prod.ext h1 h2)
    · exact .inr (by omega)
  · exact .inr (by omega)
theorem leg_zero {b : Bal} (h : leg b) : ab b (0, 0) := by
  unfold leg at h
  unfold ab
  show b.1 > 0 ∨ _
  omega
theorem ab_asym {x y : Bal} (h : ab x y) : ¬ ab y x := by unfold ab at *; omega
theorem ab_nab {x y z : Bal} (h : ab x y) (k : ¬ ab z y) : ab x z := by unfold ab at *; omega
/- how many of n -/
def cnt (n : Nat) (Q : Nat → Bool) : Nat := (List.range n).countP Q
theorem cnt_succ (n : Nat) (Q : Nat → Bool) : cnt (n + 1) Q = cnt n Q + if Q n then 1 else 0 := by
  unfold cnt
  rw [List.range_succ, List.countP_append]
  simp [List.countP_cons]
theorem cnt_le (n : Nat) (Q : Nat → Bool) : cnt n Q ≤ n := by
  induction n with
  | zero => simp [cnt]
  | succ n ih => rw [cnt_succ]; split <;> omega
theorem cnt_inter {n : Nat} {P Q : Nat → Bool} (h : n < cnt n P + cnt n Q) : ∃ i, i < n ∧ P i = true ∧ Q i = true := by
  induction n with
  | zero => simp [cnt] at h
  | succ n ih =>
    rw [cnt_succ, cnt_succ] at h
    by_cases hp : P n = true
    · by_cases hq : Q n = true
      · exact ⟨n, by omega, hp, hq⟩
      · rw [if_pos hp, if_neg hq] at h
        obtain ⟨i, h1, h2⟩ := ih (by omega)
        exact ⟨i, by omega, h2⟩
    · rw [if_neg hp] at h
      have : cnt n P + cnt n Q > n := by split at h <;> omega
      obtain ⟨i, h1, h2⟩ := ih this
      exact ⟨i, by omega, h2⟩
theorem cnt_ext {n : Nat} {P Q : Nat → Bool} (h : ∀ i, i < n → P i = Q i) : cnt n P = cnt n Q := by
  induction n with
  | zero => rfl
  | succ n ih => rw [cnt_succ, cnt_succ, ih (fun i hi => h i (by omega)), h n (by omega)]
theorem cnt_set {n i : Nat} {P : Nat → Bool} (hi : i < n) (h : P i = false) : cnt n (fun j => if j = i then true else P j) = cnt n P + 1 := by
  induction n with
  | zero => omega
  | succ n ih =>
    rw [cnt_succ, cnt_succ]
    by_cases e : n = i
    · subst e
      rw [if_pos rfl, h]
      have : cnt n (fun j => if j = n then true else P j) = cnt n P := cnt_ext (fun j hj => if_neg (by omega))
      rw [this]
      rfl
    · rw [ih (by omega), if_neg e]
      omega
theorem cnt_pos {n : Nat} {P : Nat → Bool} (h : 0 < cnt n P) : ∃ i, i < n ∧ P i = true := by
  obtain ⟨i, h1, h2, _⟩ := cnt_inter (n := n) (P := P) (Q := fun _ => true) (by
    have : cnt n (fun _ => true) = n := by
      clear h
      induction n with
      | zero => rfl
      | succ n ih => rw [cnt_succ, ih]; rfl
    omega)
  exact ⟨i, h1, h2⟩
theorem cnt_zero {n : Nat} {P : Nat → Bool} (h : ∀ i, i < n → P i = false) : cnt n P = 0 := by
  induction n with
  | zero => rfl
  | succ n ih => rw [cnt_succ, ih (fun i hi => h i (by omega)), h n (by omega)]; rfl
/- what holds of acceptors, votes and proposals -/
structure Inv (n h : Nat) (pr ac : Nat → Bal) (le : Nat → List Cm) (V : Nat → Bal → Bool) (Ps : List (Bal × List Cm)) : Prop where
  a1 : ∀ i, i < n → ¬ ab (ac i) (pr i)
  a2 : ∀ i, i < n → ∀ b, V i b = true → ¬ ab b (ac i)
  a3 : ∀ i, i < n → (ac i = (0, 0) ∧ le i = []) ∨ (ac i, le i) ∈ Ps
  a4 : ∀ i b, i < n → V i b = true → ∃ v, (b, v) ∈ Ps
  p0 : ∀ b v, (b, v) ∈ Ps → leg b
  p2 : ∀ b v v', (b, v) ∈ Ps → (b, v') ∈ Ps → v = v'
  p3 : ∀ b v, (b, v) ∈ Ps → ∃ (Q : Nat → Bool) (c : Bal), h ≤ cnt n Q ∧ (∀ i, i < n → Q i = true → ¬ ab b (pr i)) ∧ ab b c ∧ (c = (0, 0) ∨ ∃ u, (c, u) ∈ Ps ∧ u <+: v) ∧ (∀ i, i < n → Q i = true → ∀ b', V i b' = true → ab b b' → ¬ ab b' c)
section
variable {n h : Nat} {pr ac : Nat → Bal} {le : Nat → List Cm} {V : Nat → Bal → Bool} {Ps : List (Bal × List Cm)}
theorem Inv.start (n h : Nat) : Inv n h (fun _ => (0, 0)) (fun _ => (0, 0)) (fun _ => []) (fun _ _ => false) [] :=
  ⟨fun i _ => ab_irr _, (fun i _ b hb => by cases hb), fun i _ => .inl ⟨rfl, rfl⟩, (fun i b _ hb => by cases hb), (fun b v hb => by cases hb), (fun b v v' hb => by cases hb), (fun b v hb => by cases hb)⟩
theorem Inv.chosen (H : Inv n h pr ac le V Ps) (hh : n < h + h) {b : Bal} {v : List Cm} (hb : (b, v) ∈ Ps) (hc : h ≤ cnt n (fun i => V i b)) : ∀ (m : Nat) (b' : Bal) (v' : List Cm), (b'.1 * 16 + b'.2).toNat < m → (b', v') ∈ Ps → ab b' b → v <+: v' := by
  intro m
  induction m with
  | zero => intro b' v' hm; omega
  | succ m ih =>
    intro b' v' hm hb' hab
    obtain ⟨Q, c, q1, q2, q3, q4, q5⟩ := H.p3 b' v' hb'
    obtain ⟨i, hi, hv, hq⟩ := cnt_inter (n := n) (P := fun i => V i b) (Q := Q) (by omega)
    have h1 : ¬ ab b c := q5 i hi hq b hv hab
    rcases q4 with rfl | ⟨u, hu, hpre⟩
    · exact absurd (leg_zero (H.p0 b v hb)) h1
    · rcases ab_tri h1 with e | e
      · subst e
        rw [H.p2 b v u hb hu]
        exact hpre
      · have l1 := H.p0 c u hu
        have l2 := H.p0 b' v' hb'
        refine (ih c u ?_ hu e).trans hpre
        unfold leg at l1 l2
        unfold ab at q3
        omega
theorem Inv.agree (H : Inv n h pr ac le V Ps) (hh : n < h + h) {b b' : Bal} {v v' : List Cm} (hb : (b, v) ∈ Ps) (hc : h ≤ cnt n (fun i => V i b)) (hb' : (b', v') ∈ Ps) (hc' : h ≤ cnt n (fun i => V i b')) : v <+: v' ∨ v' <+: v := by
  by_cases e : ab b' b
  · exact .inl (H.chosen hh hb hc _ b' v' (Nat.lt_succ_self _) hb' e)
  · rcases ab_tri e with e | e
    · subst e
      rw [H.p2 b' v v' hb hb']
      exact .inl (List.prefix_refl _)
    · exact .inr (H.chosen hh hb' hc' _ b v (Nat.lt_succ_self _) hb e)
def upB {α : Type} (f : Nat → α) (i : Nat) (b : α) : Nat → α := fun j => if j = i then b else f j
theorem upB_same {α : Type} (f : Nat → α) (i : Nat) (b : α) : upB f i b i = b := if_pos rfl
theorem upB_ne {α : Type} (f : Nat → α) {i j : Nat} (b : α) (h : j ≠ i) : upB f i b j = f j := if_neg h
theorem Inv.promise (H : Inv n h pr ac le V Ps) {i : Nat} {b : Bal} (hb : ¬ ab (pr i) b) : Inv n h (upB pr i b) ac le V Ps := by
  have mono : ∀ x j, ¬ ab x (pr j) → ¬ ab x (upB pr i b j) := fun x j hx => by
    by_cases e : j = i
    · subst e; rw [upB_same]; exact nab_trans hx hb
    · rw [upB_ne _ _ e]; exact hx
  refine ⟨fun j hj => mono _ j (H.a1 j hj), H.a2, H.a3, H.a4, H.p0, H.p2, fun b' v' hm => ?_⟩
  obtain ⟨Q, c, q1, q2, q3⟩ := H.p3 b' v' hm
  exact ⟨Q, c, q1, fun j hj hq => mono _ j (q2 j hj hq), q3⟩
def upV (V : Nat → Bal → Bool) (i : Nat) (b : Bal) : Nat → Bal → Bool := fun j x => if j = i ∧ x = b then true else V j x
theorem upV_cases {V : Nat → Bal → Bool} {i j : Nat} {b x : Bal} (h : upV V i b j x = true) : (j = i ∧ x = b) ∨ V j x = true := by
  unfold upV at h
  by_cases e : j = i ∧ x = b
  · exact .inl e
  · rw [if_neg e] at h; exact .inr h
theorem Inv.vote (H : Inv n h pr ac le V Ps) {i : Nat} {b : Bal} {v : List Cm} (hi : i < n) (hm : (b, v) ∈ Ps) (hb : ¬ ab (pr i) b) : Inv n h (upB pr i b) (upB ac i b) (upB le i v) (upV V i b) Ps := by
  have mono : ∀ x j, ¬ ab x (pr j) → ¬ ab x (upB pr i b j) := fun x j hx => by
    by_cases e : j = i
    · subst e; rw [upB_same]; exact nab_trans hx hb
    · rw [upB_ne _ _ e]; exact hx
  refine ⟨fun j hj => ?_, fun j hj x hx => ?_, fun j hj => ?_, fun j x hj hx => ?_, H.p0, H.p2, fun b' v' hm' => ?_⟩
  · by_cases e : j = i
    · subst e; rw [upB_same, upB_same]; exact ab_irr _
    · rw [upB_ne _ _ e, upB_ne _ _ e]; exact H.a1 j hj
  · rcases upV_cases hx with ⟨rfl, rfl⟩ | hx2
    · rw [upB_same]; exact ab_irr _
    · by_cases e : j = i
      · subst e; rw [upB_same]; exact nab_trans (nab_trans (H.a2 j hj x hx2) (H.a1 j hj)) hb
      · rw [upB_ne _ _ e]; exact H.a2 j hj x hx2
  · by_cases e : j = i
    · subst e; rw [upB_same, upB_same]; exact .inr hm
    · rw [upB_ne _ _ e, upB_ne _ _ e]; exact H.a3 j hj
  · rcases upV_cases hx with ⟨rfl, rfl⟩ | hx
    · exact ⟨v, hm⟩
    · exact H.a4 j x hj hx
  · obtain ⟨Q, c, q1, q2, q3, q4, q5⟩ := H.p3 b' v' hm'
    refine ⟨Q, c, q1, fun j hj hq => mono _ j (q2 j hj hq), q3, q4, fun j hj hq x hx hab => ?_⟩
    rcases upV_cases hx with ⟨rfl, rfl⟩ | hx
    · exact absurd hab (nab_trans (q2 j hj hq) hb)
    · exact q5 j hj hq x hx hab
theorem Inv.propose (H : Inv n h pr ac le V Ps) {b c : Bal} {v : List Cm} {Q : Nat → Bool} (hl : leg b) (hf : ∀ u, (b, u) ∉ Ps) (q1 : h ≤ cnt n Q) (q2 : ∀ i, i < n → Q i = true → ¬ ab b (pr i)) (q3 : ab b c) (q4 : c = (0, 0) ∨ ∃ u, (c, u) ∈ Ps ∧ u <+: v) (q5 : ∀ i, i < n → Q i = true → ¬ ab (ac i) c) : Inv n h pr ac le V ((b, v) :: Ps) := by
  refine ⟨H.a1, H.a2, fun i hi => (H.a3 i hi).imp id (List.mem_cons_of_mem _), fun i x hi hx => ?_, fun x u hx => ?_, fun x u u' hx hx' => ?_, fun x u hx => ?_⟩
  · obtain ⟨u, hu⟩ := H.a4 i x hi hx
    exact ⟨u, List.mem_cons_of_mem _ hu⟩
  · rcases List.mem_cons.1 hx with e | e
    · cases e; exact hl
    · exact H.p0 x u e
  · rcases List.mem_cons.1 hx with e | e
    · rcases List.mem_cons.1 hx' with e' | e'
      · cases e; cases e'; rfl
      · cases e; exact absurd e' (hf _)
    · rcases List.mem_cons.1 hx' with e' | e'
      · cases e'; exact absurd e (hf _)
      · exact H.p2 x u u' e e'
  · rcases List.mem_cons.1 hx with e | e
    · cases e
      exact ⟨Q, c, q1, q2, q3, q4.imp id (fun ⟨u, h1, h2⟩ => ⟨u, List.mem_cons_of_mem _ h1, h2⟩), fun i hi hq x hx _ => nab_trans (H.a2 i hi x hx) (q5 i hi hq)⟩
    · obtain ⟨Q', c', r1, r2, r3, r4, r5⟩ := H.p3 x u e
      exact ⟨Q', c', r1, r2, r3, r4.imp id (fun ⟨u, h1, h2⟩ => ⟨u, List.mem_cons_of_mem _ h1, h2⟩), r5⟩
end
end Go.Proofs.YtdfnjcjpblkmcaaDoor
