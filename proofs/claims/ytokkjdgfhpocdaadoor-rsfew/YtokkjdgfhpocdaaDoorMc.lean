/- The elimination finds a row at each place, for any k shards with numbers of their own: plain arithmetic, no Go in sight. -/
import Derived.Test.YtokkjdgfhpocdaaDoorMb
import Derived.Test.YtokkjdgfhpocdaaDoorEf
namespace Go.Proofs.YtokkjdgfhpocdaaDoor
open Gm
set_option linter.unusedVariables false
set_option linter.unusedSimpArgs false
set_option linter.unnecessarySimpa false
def sumF (k M : Nat) (c : Nat → Nat) (j : Nat) : Nat := sumOver (fun x => mul (c x) (fac k x j)) (List.range M)
theorem sumOver_single (g : Nat → Nat) (x : Nat) : ∀ l : List Nat, l.Nodup → x ∈ l → (∀ y ∈ l, y ≠ x → g y = 0) → sumOver g l = g x := by
  intro l
  induction l with
  | nil => intro _ h _; cases h
  | cons z r ih =>
    intro nd hm h
    have nd' := List.nodup_cons.1 nd
    simp only [sumOver]
    by_cases hz : z = x
    · subst hz
      have : sumOver g r = 0 := by
        rw [sumOver_congr (g := fun _ => mul 0 0) (fun y hy => by rw [h y (List.mem_cons_of_mem _ hy) (fun e => nd'.1 (e ▸ hy))]; rfl), sumOver_mul]
        exact zero_mul _
      rw [this, Nat.xor_zero]
    · rw [h z (List.mem_cons_self ..) hz, Nat.zero_xor]
      exact ih nd'.2 ((List.mem_cons.1 hm).resolve_left (fun e => hz e.symm)) (fun y hy => h y (List.mem_cons_of_mem _ hy))
/- a row whose factors are a combination of the rows of these shards -/
def Cmb (k M : Nat) (P : Nat → Prop) (r : List Nat) : Prop := ∃ c : Nat → Nat, (∀ x, c x < 256) ∧ (∀ x, ¬ P x → c x = 0) ∧ ∀ j, j < k → r.getD j 0 = sumF k M c j
def Cmx (k M : Nat) (P : Nat → Prop) (x0 : Nat) (r : List Nat) : Prop := ∃ c : Nat → Nat, (∀ x, c x < 256) ∧ (∀ x, ¬ P x → x ≠ x0 → c x = 0) ∧ c x0 = 1 ∧ ∀ j, j < k → r.getD j 0 = sumF k M c j
theorem sumF_add (k M : Nat) (c d : Nat → Nat) (e : Nat) (he : e < 256) (hc : ∀ x, c x < 256) (hd : ∀ x, d x < 256) (hM : M ≤ 16) (j : Nat) (hj : j < 16) : sumF k M (fun x => c x ^^^ mul e (d x)) j = sumF k M c j ^^^ mul e (sumF k M d j) := by
  unfold sumF
  rw [← sumOver_mul, ← sumOver_add]
  apply sumOver_congr
  intro x hx
  simp at hx
  rw [add_mul _ _ _ (hc x) (mul_lt _ _ he), mul_assoc _ _ _ he (hd x) (fac_lt k x j (by omega) hj)]
theorem cmb_row (k M x : Nat) (bytes : List Nat) (hx : x < M) (hM : M ≤ 16) (hk : k ≤ 16) : Cmx k M (fun _ => False) x (rowL k x bytes) := by
  refine ⟨fun y => if y = x then 1 else 0, fun y => by dsimp only; split <;> omega, fun y _ hy => if_neg hy, if_pos rfl, fun j hj => ?_⟩
  unfold sumF
  rw [sumOver_single _ x _ List.nodup_range (by simpa using hx) (fun y _ hy => by dsimp only; rw [if_neg hy, zero_mul])]
  dsimp only
  rw [if_pos rfl, one_mul _ (fac_lt k x j (by omega) (by omega))]
  have hl : j < (facs k x).length := by simp [facs]; exact hj
  unfold rowL
  simp only [List.getD]
  rw [List.getElem?_append_left hl]
  exact facs_getD hj
theorem Cmx.cmb {k M x0 : Nat} {P Q : Nat → Prop} {r : List Nat} (h : Cmx k M P x0 r) (hQ : ∀ x, P x ∨ x = x0 → Q x) : Cmb k M Q r := by
  obtain ⟨c, h1, h2, _, h4⟩ := h
  exact ⟨c, h1, fun x hx => h2 x (fun hp => hx (hQ x (.inl hp))) (fun e => hx (hQ x (.inr e))), h4⟩
theorem Cmb.mono {k M : Nat} {P Q : Nat → Prop} {r : List Nat} (h : Cmb k M P r) (hQ : ∀ x, P x → Q x) : Cmb k M Q r := by
  obtain ⟨c, h1, h2, h4⟩ := h
  exact ⟨c, h1, fun x hx => h2 x (fun hp => hx (hQ x hp)), h4⟩
theorem Cmx.add {k M x0 e : Nat} {P : Nat → Prop} {r s : List Nat} (h : Cmx k M P x0 r) (g : Cmb k M P s) (he : e < 256) (hx : ¬ P x0) (hM : M ≤ 16) (hk : k ≤ 16) : Cmx k M P x0 (addSc r e s) := by
  obtain ⟨c, h1, h2, h3, h4⟩ := h
  obtain ⟨d, g1, g2, g4⟩ := g
  refine ⟨fun x => c x ^^^ mul e (d x), fun x => xor_lt _ _ (h1 x) (mul_lt _ _ he), fun x hp hne => ?_, ?_, fun j hj => ?_⟩
  · dsimp only; rw [h2 x hp hne, g2 x hp, mul_zero]; rfl
  · dsimp only; rw [h3, g2 x0 hx, mul_zero]; rfl
  · rw [addSc_getD, h4 j hj, g4 j hj, sumF_add k M c d e he h1 g1 hM j (by omega)]
theorem Cmb.scale {k M e : Nat} {P : Nat → Prop} {r : List Nat} (h : Cmb k M P r) (he : e < 256) (hM : M ≤ 16) (hk : k ≤ 16) : Cmb k M P (scaled e r) := by
  obtain ⟨c, h1, h2, h4⟩ := h
  refine ⟨fun x => 0 ^^^ mul e (c x), fun x => xor_lt _ _ (by omega) (mul_lt _ _ he), fun x hp => by dsimp only; rw [h2 x hp, mul_zero]; rfl, fun j hj => ?_⟩
  rw [scaled_getD, h4 j hj, sumF_add k M (fun _ => 0) c e he (fun _ => by omega) h1 hM j (by omega)]
  have : sumF k M (fun _ => 0) j = 0 := by
    unfold sumF
    rw [sumOver_congr (g := fun x => mul 0 (fac k x j)) (fun x _ => rfl), sumOver_mul, zero_mul]
  rw [this, Nat.zero_xor]
/- each row has 1 at its place and 0 ahead -/
def Ech (k : Nat) (R : List (List Nat)) : Prop := ∀ p, p < k → R.getD p [] ≠ [] → (R.getD p []).getD p 0 = 1 ∧ ∀ j, j < p → (R.getD p []).getD j 0 = 0
theorem ins_spec (k M x0 : Nat) (P : Nat → Prop) (R : List (List Nat)) (hM : M ≤ 16) (hk : k ≤ 16) (hx : ¬ P x0) (hE : Ech k R) (hC : ∀ q, q < k → R.getD q [] ≠ [] → Cmb k M P (R.getD q [])) :
    ∀ f p row, f + p = k → (∀ x ∈ row, x < 256) → Cmx k M P x0 row → (∀ j, j < p → row.getD j 0 = 0) →
      (ins R f p row = none → ∃ row', Cmx k M P x0 row' ∧ ∀ j, j < k → row'.getD j 0 = 0) ∧
      ∀ q r, ins R f p row = some (q, r) → q < k ∧ R.getD q [] = [] ∧ r.getD q 0 = 1 ∧ (∀ j, j < q → r.getD j 0 = 0) ∧ Cmb k M (fun x => P x ∨ x = x0) r := by
  intro f
  induction f with
  | zero =>
    intro p row hf _ hm hz
    refine ⟨fun _ => ⟨row, hm, fun j hj => hz j (by omega)⟩, fun q r h => by simp [ins] at h⟩
  | succ f ih =>
    intro p row hf hb hm hz
    have hp : p < k := by omega
    have hrb : ∀ x ∈ red R row p, x < 256 := by
      unfold red; split
      · exact hb
      · exact addSc_lt (getD_lt hb p) hb
    have hrm : Cmx k M P x0 (red R row p) := by
      unfold red; split
      · exact hm
      · rename_i h0; exact hm.add (hC p hp h0) (getD_lt hb p) hx hM hk
    have hrz : ∀ j, j < p → (red R row p).getD j 0 = 0 := by
      intro j hj
      unfold red; split
      · exact hz j hj
      · rename_i h0; rw [addSc_getD, hz j hj, (hE p hp h0).2 j hj, mul_zero]; rfl
    have hre : R.getD p [] ≠ [] → (red R row p).getD p 0 = 0 := by
      intro h0
      unfold red
      rw [if_neg h0, addSc_getD, (hE p hp h0).1, mul_one _ (getD_lt hb p), Nat.xor_self]
    by_cases h0 : (red R row p).getD p 0 = 0
    · have h := ih (p + 1) (red R row p) (by omega) hrb hrm (fun j hj => by
        by_cases hjp : j = p
        · rw [hjp]; exact h0
        · exact hrz j (by omega))
      have e : ins R (f + 1) p row = ins R f (p + 1) (red R row p) := by rw [ins, if_pos h0]
      rw [e]
      exact h
    · have e : ins R (f + 1) p row = some (p, scaled (inv ((red R row p).getD p 0)) (red R row p)) := by rw [ins, if_neg h0]
      rw [e]
      have hy := getD_lt hrb p
      refine ⟨fun h => (by cases h), fun q r h => ?_⟩
      simp only [Option.some.injEq, Prod.mk.injEq] at h
      obtain ⟨rfl, rfl⟩ := h
      refine ⟨hp, Classical.byContradiction fun h1 => h0 (hre h1), ?_, fun j hj => ?_, (hrm.cmb (fun x h => h)).scale (inv_lt _ hy) hM hk⟩
      · rw [scaled_getD, mul_comm _ _ (inv_lt _ hy) hy, inv_mul _ hy h0]
      · rw [scaled_getD, hrz j hj, mul_zero]
/- how many rows are missing -/
def emp (k : Nat) (R : List (List Nat)) : Nat := ((List.range k).filter fun i => (R.getD i []).isEmpty).length
theorem emp_zero {k : Nat} {R : List (List Nat)} (h : emp k R = 0) : ∀ i, i < k → R.getD i [] ≠ [] := by
  intro i hi e
  have h1 : i ∈ (List.range k).filter fun i => (R.getD i []).isEmpty := by
    rw [List.mem_filter]
    exact ⟨by simpa using hi, by rw [e]; rfl⟩
  rw [List.eq_nil_of_length_eq_zero h] at h1
  cases h1
theorem getD_set (R : List (List Nat)) (p i : Nat) (r : List Nat) (hp : p < R.length) : (R.set p r).getD i [] = if i = p then r else R.getD i [] := by
  by_cases h : i = p
  · subst h; simp [List.getD, hp]
  · rw [if_neg h]; simp only [List.getD]; rw [List.getElem?_set_ne (fun e => h e.symm)]
theorem emp_set {k p : Nat} {R : List (List Nat)} {r : List Nat} (hp : p < k) (hl : R.length = k) (h0 : R.getD p [] = []) (hr : r ≠ []) : emp k (R.set p r) + 1 = emp k R := by
  unfold emp
  have h1 := len_filter_not (fun i => decide (i = p)) ((List.range k).filter fun i => (R.getD i []).isEmpty)
  have e1 : (((List.range k).filter fun i => (R.getD i []).isEmpty).filter fun i => decide (i = p)).length = [p].length := by
    apply List.Perm.length_eq
    rw [List.perm_ext_iff_of_nodup ((nodup_range_filter _ _).filter _) (by simp)]
    intro a
    simp only [List.mem_filter, List.mem_range, decide_eq_true_eq, List.mem_singleton]
    constructor
    · rintro ⟨_, h⟩; exact h
    · rintro rfl; exact ⟨⟨hp, by rw [h0]; rfl⟩, rfl⟩
  have e2 : (((List.range k).filter fun i => (R.getD i []).isEmpty).filter fun i => !decide (i = p)) = (List.range k).filter fun i => ((R.set p r).getD i []).isEmpty := by
    rw [List.filter_filter]
    apply List.filter_congr
    intro i _
    rw [getD_set R p i r (by omega)]
    by_cases h : i = p
    · subst h
      cases r with
      | nil => exact absurd rfl hr
      | cons a b => simp
    · simp [h]
  rw [e1, e2] at h1
  simp only [List.length_cons, List.length_nil] at h1
  omega
/- how many parity shards are to come, and how many there were -/
def parGo (k : Nat) (L : List (Int × List Nat)) : Nat → Nat → Nat
  | 0, _ => 0
  | f + 1, i => (if nu L i < k then 0 else 1) + parGo k L f (i + 1)
def cntP (k : Nat) (L : List (Int × List Nat)) : Nat → Nat
  | 0 => 0
  | i + 1 => cntP k L i + (if nu L i < k then 0 else 1)
theorem par_cnt (k : Nat) (L : List (Int × List Nat)) (f : Nat) : ∀ i, parGo k L f i + cntP k L i = cntP k L (i + f) := by
  induction f with
  | zero => intro i; simp [parGo]
  | succ f ih =>
    intro i
    have h := ih (i + 1)
    have e : i + 1 + f = i + (f + 1) := by omega
    have e2 : cntP k L (i + 1) = cntP k L i + (if nu L i < k then 0 else 1) := rfl
    rw [e, e2] at h
    simp only [parGo]
    omega
theorem dM_cnt (k : Nat) (L : List (Int × List Nat)) (i : Nat) : dM k L i = (k : Int) - i + cntP k L i := by
  induction i with
  | zero => simp [dM, cntP]
  | succ i ih => simp only [dM, cntP]; split <;> omega
/- the numbers of the data shards, and of the parities among the first i -/
def Pr (k n : Nat) (L : List (Int × List Nat)) (i x : Nat) : Prop := ∃ j, j < n ∧ nu L j = (x : Int) ∧ (x < k ∨ j < i)
theorem elimGo_full (k M size : Nat) (L : List (Int × List Nat)) (hk1 : 1 ≤ k) (hk : k ≤ M) (hM : M ≤ 16) (hl : L.length = k) (G : GoodL M size L) (HB : ∀ i, i < k → ∀ x ∈ by_ L i, x < 256) :
    ∀ f i R (d : Int), f + i = k → d = emp k R → emp k R = parGo k L f i → R.length = k → Ech k R → (∀ q, q < k → R.getD q [] ≠ [] → Cmb k M (Pr k k L i) (R.getD q [])) → ∀ q, q < k → (elimGo k L f i R d).getD q [] ≠ [] := by
  have inj : ∀ a b, a < k → b < k → nu L a = nu L b → a = b := by
    intro a b ha hb e
    rcases Nat.lt_trichotomy a b with h | h | h
    · exact absurd e ((G b (by omega)).2.2 a h)
    · exact h
    · exact absurd e.symm ((G a (by omega)).2.2 b h)
  intro f
  induction f with
  | zero =>
    intro i R d _ _ he _ _ _
    simp only [elimGo]
    exact emp_zero he
  | succ f ih =>
    intro i R d hf hd he hR hE hC
    have hi : i < k := by omega
    have ok := G i (by omega)
    by_cases hx : nu L i < k
    · rw [elimGo, if_pos hx]
      refine ih (i + 1) R d (by omega) hd (by rw [he]; simp [parGo, hx]) hR hE (fun q hq h0 => (hC q hq h0).mono ?_)
      rintro x ⟨j, h1, h2, h3⟩
      exact ⟨j, h1, h2, h3.imp id (fun h => by omega)⟩
    · obtain ⟨x0, hx0⟩ : ∃ x0 : Nat, nu L i = (x0 : Int) := ⟨(nu L i).toNat, by have := ok.1.1; omega⟩
      have hx0M : x0 < M := by have := ok.1.2; omega
      have hx0k : k ≤ x0 := by omega
      have hnp : ¬ Pr k k L i x0 := by
        rintro ⟨j, h1, h2, h3⟩
        have := inj j i h1 hi (by rw [h2, hx0])
        omega
      have hto : (nu L i).toNat = x0 := by rw [hx0]; rfl
      rw [elimGo, if_neg hx, hto]
      have hrow : Cmx k M (Pr k k L i) x0 (rowL k x0 (by_ L i)) := by
        obtain ⟨c, h1, h2, h3, h4⟩ := cmb_row k M x0 (by_ L i) hx0M hM (by omega)
        exact ⟨c, h1, fun x _ hne => h2 x (fun h => h) hne, h3, h4⟩
      have sp := ins_spec k M x0 (Pr k k L i) R hM (by omega) hnp hE hC k 0 (rowL k x0 (by_ L i)) (by omega) (rowL_lt (by omega) (by omega) (HB i hi)) hrow (fun j hj => by omega)
      cases hins : ins R k 0 (rowL k x0 (by_ L i)) with
      | none =>
        exfalso
        obtain ⟨row', ⟨c, c1, c2, c3, c4⟩, hz⟩ := sp.1 hins
        have hn0 : ∀ j, j < k → (nu L j).toNat < M ∧ nu L j = ((nu L j).toNat : Int) := fun j hj => by
          have := (G j (by omega)).1; omega
        have hm0 : x0 ∈ (List.range k).map (fun j => (nu L j).toNat) := List.mem_map.2 ⟨i, by simpa using hi, hto⟩
        have z := indep k M ((List.range k).map fun j => (nu L j).toNat) c hk hM (by
            rw [List.nodup_iff_pairwise_ne, List.pairwise_map]
            refine List.Pairwise.imp_of_mem ?_ List.nodup_range
            intro a b ha hb hne e
            simp at ha hb
            exact hne (inj a b ha hb (by rw [(hn0 a ha).2, (hn0 b hb).2, e]))) (by simp) (fun x hx => by
            obtain ⟨j, hj, rfl⟩ := List.mem_map.1 hx
            exact (hn0 j (by simpa using hj)).1) c1 (fun x hx => c2 x (by
              rintro ⟨j, h1, h2, _⟩
              exact hx (List.mem_map.2 ⟨j, by simpa using h1, by rw [h2]; rfl⟩)) (fun e => hx (e ▸ hm0))) (fun j hj => by
            have := c4 j hj
            rw [hz j hj] at this
            exact this.symm) x0 hm0 hx0k
        omega
      | some qr =>
        obtain ⟨q, r⟩ := qr
        obtain ⟨hq, hq0, hr1, hrz, hrc⟩ := sp.2 q r hins
        have hrn : r ≠ [] := by
          intro e
          rw [e] at hr1
          simp at hr1
        have hes := emp_set hq hR hq0 hrn
        have hpar : emp k R = 1 + parGo k L f (i + 1) := by rw [he]; simp [parGo, hx]
        dsimp only
        by_cases hd1 : d - 1 = 0
        · rw [if_pos hd1]
          exact emp_zero (by omega)
        · rw [if_neg hd1]
          refine ih (i + 1) (R.set q r) (d - 1) (by omega) (by omega) (by omega) (by simp [hR]) (fun p hp h0 => ?_) (fun p hp h0 => ?_)
          · rw [getD_set R q p r (by omega)] at h0 ⊢
            by_cases hpq : p = q
            · rw [if_pos hpq, hpq]; exact ⟨hr1, hrz⟩
            · rw [if_neg hpq] at h0 ⊢; exact hE p hp h0
          · rw [getD_set R q p r (by omega)] at h0 ⊢
            by_cases hpq : p = q
            · rw [if_pos hpq]
              refine hrc.mono ?_
              rintro x (⟨j, h1, h2, h3⟩ | rfl)
              · exact ⟨j, h1, h2, h3.imp id (fun h => by omega)⟩
              · exact ⟨i, hi, hx0, .inr (by omega)⟩
            · rw [if_neg hpq] at h0 ⊢
              refine (hC p hp h0).mono ?_
              rintro x ⟨j, h1, h2, h3⟩
              exact ⟨j, h1, h2, h3.imp id (fun h => by omega)⟩
/- where a data row stands -/
theorem dR_spec (k M size : Nat) (L : List (Int × List Nat)) (hk1 : 1 ≤ k) (hk : k ≤ M) (hM : M ≤ 16) (hl : L.length = k) (G : GoodL M size L) (i : Nat) (hi : i ≤ k) :
    (∀ q, q < k → (dR k L i).getD q [] ≠ [] → (∃ j, j < i ∧ nu L j = (q : Int)) ∧ ∃ b, (dR k L i).getD q [] = rowL k q b) ∧ ((emp k (dR k L i) : Nat) : Int) = dM k L i := by
  induction i with
  | zero =>
    refine ⟨fun q hq h => absurd (by simp [dR, List.getD, hq]) h, ?_⟩
    have e : (List.range k).filter (fun i => ((dR k L 0).getD i []).isEmpty) = List.range k := by
      rw [List.filter_eq_self]
      intro a ha
      simp at ha
      simp [dR, List.getD, ha]
    unfold emp
    rw [e]
    simp [dM]
  | succ i ih =>
    obtain ⟨h1, h2⟩ := ih (by omega)
    have ok := G i (by omega)
    by_cases hx : nu L i < k
    · obtain ⟨x, hxx⟩ : ∃ x : Nat, nu L i = (x : Int) := ⟨(nu L i).toNat, by have := ok.1.1; omega⟩
      have hto : (nu L i).toNat = x := by rw [hxx]; rfl
      have hxk : x < k := by omega
      have e : dR k L (i + 1) = (dR k L i).set x (rowL k x (by_ L i)) := by simp only [dR]; rw [if_pos hx, hto]
      have hlen := dR_length k L i
      have h0 : (dR k L i).getD x [] = [] := Classical.byContradiction fun hne => by
        obtain ⟨⟨j, hj, hj2⟩, _⟩ := h1 x hxk hne
        exact ok.2.2 j hj (by rw [hj2, hxx])
      rw [e]
      refine ⟨fun q hq hne => ?_, ?_⟩
      · rw [getD_set _ x q _ (by omega)] at hne ⊢
        by_cases hqx : q = x
        · rw [if_pos hqx]; exact ⟨⟨i, by omega, by rw [hqx]; exact hxx⟩, _, by rw [hqx]⟩
        · rw [if_neg hqx] at hne ⊢
          obtain ⟨⟨j, hj, hj2⟩, hb⟩ := h1 q hq hne
          exact ⟨⟨j, by omega, hj2⟩, hb⟩
      · have hes := emp_set hxk hlen h0 (rowL_ne (number := x) (bytes := by_ L i) hk1)
        simp only [dM]
        rw [if_pos hx]
        omega
    · have e : dR k L (i + 1) = dR k L i := by simp only [dR]; rw [if_neg hx]
      rw [e]
      refine ⟨fun q hq hne => ?_, by simp only [dM]; rw [if_neg hx]; exact h2⟩
      obtain ⟨⟨j, hj, hj2⟩, hb⟩ := h1 q hq hne
      exact ⟨⟨j, by omega, hj2⟩, hb⟩
theorem elim_full (k M size : Nat) (L : List (Int × List Nat)) (hk1 : 1 ≤ k) (hk : k ≤ M) (hM : M ≤ 16) (hl : L.length = k) (G : GoodL M size L) (HB : ∀ i, i < k → ∀ x ∈ by_ L i, x < 256) : ∀ q, q < k → (elim k L).getD q [] ≠ [] := by
  obtain ⟨h1, h2⟩ := dR_spec k M size L hk1 hk hM hl G k (Nat.le_refl _)
  unfold elim
  rw [hl]
  have hc := dM_cnt k L k
  have hp := par_cnt k L k 0
  have e0 : cntP k L 0 = 0 := rfl
  rw [e0, Nat.zero_add] at hp
  have row : ∀ q, q < k → (dR k L k).getD q [] ≠ [] → ∃ b, (dR k L k).getD q [] = rowL k q b := fun q hq h => (h1 q hq h).2
  have fg : ∀ q j b, j < k → (rowL k q b).getD j 0 = fac k q j := fun q j b hj => by
    have hl : j < (facs k q).length := by simp [facs]; exact hj
    unfold rowL
    simp only [List.getD]
    rw [List.getElem?_append_left hl]
    exact facs_getD hj
  refine elimGo_full k M size L hk1 hk hM hl G HB k 0 _ _ (by omega) h2.symm (by omega) (dR_length k L k) (fun p hp' h0 => ?_) (fun q hq h0 => ?_)
  · obtain ⟨b, hb⟩ := row p hp' h0
    rw [hb]
    refine ⟨by rw [fg p p b hp']; simp [fac], fun j hj => ?_⟩
    rw [fg p j b (by omega)]
    unfold fac
    rw [if_neg (by omega), if_pos hp']
  · obtain ⟨⟨j, hj, hj2⟩, b, hb⟩ := h1 q hq h0
    rw [hb]
    exact (cmb_row k M q b (by omega) hM (by omega)).cmb (by
      rintro x (h | rfl)
      · exact absurd h id
      · exact ⟨j, hj, hj2, .inl hq⟩)
end Go.Proofs.YtokkjdgfhpocdaaDoor
