/- What is counted, and agreement: plain data. -/
import Derived.Test.YtdfnjcjpblkmcaaDoorPd
namespace Go.Proofs.YtdfnjcjpblkmcaaDoor
set_option linter.unusedVariables false
set_option linter.unusedSimpArgs false
theorem upk_mem {L : List Ct} {z : Nat} {t : Ct} (h : t ∈ upk L z) : ∃ u ∈ L, u.a = t.a ∧ u.m = t.m ∧ u.c = t.c ∧ u.X = t.X ∧ u.b = t.b ∧ (t.k = u.k ∨ (t.k = u.k + 1 ∧ ∀ hz : z < L.length, u = L[z])) := by
  by_cases hz : z < L.length
  · rw [upk_at hz] at h
    rcases List.mem_or_eq_of_mem_set h with h | h
    · exact ⟨t, h, rfl, rfl, rfl, rfl, rfl, .inl rfl⟩
    · subst h
      exact ⟨L[z], List.getElem_mem hz, rfl, rfl, rfl, rfl, rfl, .inr ⟨rfl, fun _ => rfl⟩⟩
  · unfold upk at h
    rw [List.getElem?_eq_none (by omega)] at h
    exact ⟨t, h, rfl, rfl, rfl, rfl, rfl, .inl rfl⟩
theorem upk_new (L : List Ct) (t : Ct) : upk (L ++ [t]) L.length = L ++ [{ t with k := t.k + 1 }] := by
  rw [upk_at (by simp)]
  simp
theorem bump_cases (b : Bal) (a : Option Addr) (m c : Nat) (X : List Cx) (L : List Ct) : bump b a m c X L = L ++ [⟨b, a, m, c, X, 1⟩] ∨ ∃ z, ∃ hz : z < L.length, L[z].b = b ∧ bump b a m c X L = upk L z := by
  unfold bump
  rcases af_cases b L L.length (Nat.le_refl _) with h | ⟨z, h1, h2, h3⟩
  · rw [h, if_pos (by decide), upk_new]
    exact .inl rfl
  · rw [h2, if_neg (by omega)]
    exact .inr ⟨z, h1, h3 h1, rfl⟩
theorem bump_mem {b : Bal} {a : Option Addr} {m c : Nat} {X : List Cx} {L : List Ct} {t : Ct} (h : t ∈ bump b a m c X L) : (∃ u ∈ L, u.b = t.b ∧ u.X = t.X ∧ u.a = t.a ∧ u.m = t.m ∧ u.c = t.c ∧ (t.k = u.k ∨ (t.b = b ∧ t.k = u.k + 1))) ∨ t = ⟨b, a, m, c, X, 1⟩ := by
  rcases bump_cases b a m c X L with e | ⟨z, hz, e1, e⟩
  · rw [e] at h
    rcases List.mem_append.1 h with h | h
    · exact .inl ⟨t, h, rfl, rfl, rfl, rfl, rfl, .inl rfl⟩
    · exact .inr (List.mem_singleton.1 h)
  · rw [e] at h
    obtain ⟨u, hu, h1, h2, h3, h4, h5, h6⟩ := upk_mem h
    refine .inl ⟨u, hu, h5, h4, h1, h2, h3, h6.imp id (fun h7 => ⟨?_, h7.1⟩)⟩
    rw [← h5, h7.2 hz, e1]
theorem bump_len (b : Bal) (a : Option Addr) (m c : Nat) (X : List Cx) (L : List Ct) : (bump b a m c X L).length ≤ L.length + 1 := by
  rcases bump_cases b a m c X L with e | ⟨z, hz, e1, e⟩
  · rw [e]; simp
  · rw [e, upk_len]; omega
theorem af_found {b : Bal} {L : List Ct} : ∀ i, i ≤ L.length → (∃ z, ∃ hz : z < L.length, z < i ∧ L[z].b = b) → af b L i ≠ -1 := by
  intro i
  induction i with
  | zero => rintro _ ⟨z, _, h, _⟩; omega
  | succ i ih =>
    rintro hi ⟨z, hz, h1, h2⟩
    rw [af_succ (by omega)]
    by_cases e : L[i].b = b
    · rw [if_pos e]; omega
    · rw [if_neg e]
      refine ih (by omega) ⟨z, hz, ?_, h2⟩
      have : z ≠ i := fun h => by subst h; exact e h2
      omega
theorem bump_same {b : Bal} {a : Option Addr} {m c : Nat} {X : List Cx} {L : List Ct} (h : ∃ t ∈ L, t.b = b) : (bump b a m c X L).length = L.length := by
  obtain ⟨t, ht, hb⟩ := h
  obtain ⟨z, hz, e⟩ := List.getElem_of_mem ht
  have h1 := af_found (b := b) L.length (Nat.le_refl _) ⟨z, hz, hz, by rw [e]; exact hb⟩
  rcases af_cases b L L.length (Nat.le_refl _) with h | ⟨z, h2, h3, h4⟩
  · exact absurd h h1
  · unfold bump
    rw [h3, if_neg (by omega), upk_len]
theorem bump_has (b : Bal) (a : Option Addr) (m c : Nat) (X : List Cx) (L : List Ct) : ∃ t ∈ bump b a m c X L, t.b = b := by
  rcases bump_cases b a m c X L with e | ⟨z, hz, e1, e⟩
  · rw [e]; exact ⟨⟨b, a, m, c, X, 1⟩, by simp, rfl⟩
  · rw [e, upk_at hz]
    exact ⟨_, List.mem_set hz _, e1⟩
theorem cnt_mono {n : Nat} {P Q : Nat → Bool} (h : ∀ i, i < n → P i = true → Q i = true) : cnt n P ≤ cnt n Q := by
  induction n with
  | zero => exact Nat.le_refl _
  | succ n ih =>
    rw [cnt_succ, cnt_succ]
    have h1 := ih (fun i hi => h i (by omega))
    by_cases e : P n = true
    · rw [if_pos e, if_pos (h n (by omega) e)]; omega
    · rw [if_neg e]; omega
theorem ab_abv (x y : Bal) : abv x.1 x.2 y.1 y.2 = true ↔ ab x y := by
  unfold abv ab
  exact decide_eq_true_iff
theorem nab_prk {s : As} {r n : Int} (h : prk s r n = 0) : lgl r n = true ∧ ¬ ab (s.pR, s.pN) (r, n) := by
  unfold prk at h
  by_cases h1 : lgl r n = false
  · rw [if_pos h1] at h; cases h
  · rw [if_neg h1] at h
    by_cases h2 : abv s.pR s.pN r n = true
    · rw [if_pos h2] at h; cases h
    · refine ⟨by simpa using h1, fun h3 => h2 ((ab_abv (s.pR, s.pN) (r, n)).2 h3)⟩
theorem lgl_leg {r n : Int} (h : lgl r n = true) : leg (r, n) := by
  unfold lgl at h
  have := of_decide_eq_true h
  exact ⟨this.1, this.2.2.1, this.2.2.2⟩
def prB (s : As) : Bal := (s.pR, s.pN)
def acB (s : As) : Bal := (s.aR, s.aN)
structure Gh (n h : Nat) (S : Nat → As) (V : Nat → Bal → Bool) (Ps : List (Bal × List Cm)) (L : List Ct) : Prop where
  inv : Inv n h (fun i => prB (S i)) (fun i => acB (S i)) (fun i => (S i).L) V Ps
  ct : ∀ t ∈ L, (t.b, led t.X) ∈ Ps ∧ t.k ≤ cnt n (fun i => V i t.b)
section
variable {n h : Nat} {S : Nat → As} {V : Nat → Bal → Bool} {Ps : List (Bal × List Cm)} {L : List Ct}
theorem Gh.vote (H : Gh n h S V Ps L) {i : Nat} {r q : Int} {a : Option Addr} {m c : Nat} {X : List Cx} (hi : i < n) (hp : prk (S i) r q = 0) (hV : V i (r, q) = false) (hP : ((r, q), led X) ∈ Ps) : Gh n h (upB S i (acS (S i) r q (led X))) (upV V i (r, q)) Ps (bump (r, q) a m c X L) := by
  have hs : acS (S i) r q (led X) = { S i with pR := r, pN := q, aR := r, aN := q, L := led X } := by unfold acS; rw [if_pos hp]
  have hn := (nab_prk hp).2
  refine ⟨?_, fun t ht => ?_⟩
  · have h1 := H.inv.vote hi hP hn
    have e1 : (fun j => prB (upB S i (acS (S i) r q (led X)) j)) = upB (fun i => prB (S i)) i (r, q) := by
      funext j
      by_cases e : j = i
      · subst e; rw [upB_same, upB_same, hs]; rfl
      · rw [upB_ne _ _ e, upB_ne _ _ e]
    have e2 : (fun j => acB (upB S i (acS (S i) r q (led X)) j)) = upB (fun i => acB (S i)) i (r, q) := by
      funext j
      by_cases e : j = i
      · subst e; rw [upB_same, upB_same, hs]; rfl
      · rw [upB_ne _ _ e, upB_ne _ _ e]
    have e3 : (fun j => (upB S i (acS (S i) r q (led X)) j).L) = upB (fun i => (S i).L) i (led X) := by
      funext j
      by_cases e : j = i
      · subst e; rw [upB_same, upB_same, hs]
      · rw [upB_ne _ _ e, upB_ne _ _ e]
    rw [e1, e2, e3]
    exact h1
  · have cb : cnt n (fun j => upV V i (r, q) j (r, q)) = cnt n (fun j => V j (r, q)) + 1 := by
      rw [← cnt_set (P := fun j => V j (r, q)) hi hV]
      refine cnt_ext (fun j _ => ?_)
      unfold upV
      by_cases e : j = i
      · rw [if_pos ⟨e, rfl⟩, if_pos e]
      · rw [if_neg (fun h => e h.1), if_neg e]
    rcases bump_mem ht with ⟨u, hu, h1, h2, _, _, _, h6⟩ | h1
    · have h7 := H.ct u hu
      rw [h1, h2] at h7
      refine ⟨h7.1, ?_⟩
      rcases h6 with h6 | ⟨h6, h8⟩
      · rw [h6]
        refine Nat.le_trans h7.2 (cnt_mono (fun j _ hj => ?_))
        show upV V i (r, q) j t.b = true
        unfold upV
        split
        · rfl
        · exact hj
      · rw [h8]
        rw [h6] at h7 ⊢
        rw [cb]
        exact Nat.succ_le_succ h7.2
    · subst h1
      refine ⟨hP, ?_⟩
      show 1 ≤ cnt n (fun j => upV V i (r, q) j (r, q))
      rw [cb]
      omega
theorem Gh.promise (H : Gh n h S V Ps L) {i : Nat} {r q : Int} (hp : prk (S i) r q = 0) : Gh n h (upB S i (prS (S i) r q)) V Ps L := by
  have hs := prS_ok hp
  refine ⟨?_, H.ct⟩
  have h1 := H.inv.promise (i := i) (nab_prk hp).2
  have e1 : (fun j => prB (upB S i (prS (S i) r q) j)) = upB (fun i => prB (S i)) i (r, q) := by
    funext j
    by_cases e : j = i
    · subst e; rw [upB_same, upB_same, hs]; rfl
    · rw [upB_ne _ _ e, upB_ne _ _ e]
  have e2 : (fun j => acB (upB S i (prS (S i) r q) j)) = (fun i => acB (S i)) := by
    funext j
    by_cases e : j = i
    · subst e; rw [upB_same, hs]; rfl
    · rw [upB_ne _ _ e]
  have e3 : (fun j => (upB S i (prS (S i) r q) j).L) = (fun i => (S i).L) := by
    funext j
    by_cases e : j = i
    · subst e; rw [upB_same, hs]
    · rw [upB_ne _ _ e]
  rw [e1, e2, e3]
  exact h1
theorem Gh.cmp (H : Gh n h S V Ps L) (hh : n < h + h) {b : Bal} {v : List Cm} (hb : (b, v) ∈ Ps) : ∀ u ∈ L, u.b = b → h ≤ u.k → ∀ t ∈ L, h ≤ t.k → led t.X <+: v ∨ v <+: led t.X := by
  intro u hu e1 e2 t ht e3
  have h1 := H.ct u hu
  have h2 := H.ct t ht
  rw [e1] at h1
  exact H.inv.agree hh h2.1 (Nat.le_trans e3 h2.2) hb (Nat.le_trans e2 h1.2)
end
end Go.Proofs.YtdfnjcjpblkmcaaDoor
