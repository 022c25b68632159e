/- Decoding k shards of a blob gives its bytes: plain arithmetic, no Go in sight. -/
import Derived.Test.YtokkjdgfhpocdaaDoorMd
import Derived.Test.YtokkjdgfhpocdaaDoorEh
namespace Go.Proofs.YtokkjdgfhpocdaaDoor
open Gm
set_option linter.unusedVariables false
set_option linter.unusedSimpArgs false
set_option linter.unnecessarySimpa false
theorem dR_inv {k size : Nat} {D : Nat → Nat → Nat} {L : List (Int × List Nat)} (hL : ∀ i, i < k → Eqn k size D (rowL k (nu L i).toNat (by_ L i))) (hn : ∀ i, i < k → 0 ≤ nu L i) (i : Nat) (hi : i ≤ k) : Inv k size D (dR k L i) := by
  induction i with
  | zero =>
    have e : ∀ q, q < k → (dR k L 0).getD q [] = [] := fun q hq => by simp [dR, List.getD, hq]
    exact ⟨by simp [dR], fun p hp h0 => absurd (e p hp) h0, fun p hp h0 => absurd (e p hp) h0⟩
  | succ i ih =>
    have h := ih (by omega)
    by_cases hx : nu L i < k
    · have e : dR k L (i + 1) = (dR k L i).set (nu L i).toNat (rowL k (nu L i).toNat (by_ L i)) := by simp only [dR]; rw [if_pos hx]
      have h0 := hn i (by omega)
      have hxk : (nu L i).toNat < k := by omega
      have fg : ∀ j, j < k → (rowL k (nu L i).toNat (by_ L i)).getD j 0 = fac k (nu L i).toNat j := fun j hj => by
        have hl : j < (facs k (nu L i).toNat).length := by simp [facs]; exact hj
        unfold rowL
        simp only [List.getD]
        rw [List.getElem?_append_left hl]
        exact facs_getD hj
      rw [e]
      refine h.set hxk (by rw [fg _ hxk]; simp [fac]) (fun j hj => ?_) (hL i (by omega))
      rw [fg j (by omega)]
      unfold fac
      rw [if_neg (by omega), if_pos hxk]
    · have e : dR k L (i + 1) = dR k L i := by simp only [dR]; rw [if_neg hx]
      rw [e]; exact h
/- the rows from p on are solved -/
def Unt (k : Nat) (R : List (List Nat)) (p : Nat) : Prop := ∀ q, q < k → p ≤ q → ∀ j, j < k → (R.getD q []).getD j 0 = if j = q then 1 else 0
def Ful (k : Nat) (R : List (List Nat)) : Prop := ∀ q, q < k → R.getD q [] ≠ []
theorem bIn_spec {k size q : Nat} {D : Nat → Nat → Nat} (hD : ∀ j b, D j b < 256) (hq : q < k) : ∀ f l R, f + l = k → q < l → Inv k size D R → Ful k R → Unt k R (q + 1) → (∀ j, q < j → j < l → (R.getD q []).getD j 0 = 0) →
    Inv k size D (bIn q f l R) ∧ Ful k (bIn q f l R) ∧ Unt k (bIn q f l R) q := by
  intro f
  induction f with
  | zero =>
    intro l R hf hl hI hF hU hz
    simp only [bIn]
    refine ⟨hI, hF, fun p hp hqp j hj => ?_⟩
    by_cases hpq : p = q
    · subst hpq
      have he := hI.ech p hp (hF p hp)
      by_cases hjp : j = p
      · rw [if_pos hjp, hjp]; exact he.1
      · rw [if_neg hjp]
        by_cases hlt : j < p
        · exact he.2 j hlt
        · exact hz j (by omega) (by omega)
    · exact hU p hp (by omega) j hj
  | succ f ih =>
    intro l R hf hl hI hF hU hz
    have hlk : l < k := by omega
    rw [bIn]
    by_cases hy : (R.getD q []).getD l 0 = 0
    · rw [if_pos hy]
      exact ih (l + 1) R (by omega) (by omega) hI hF hU (fun j h1 h2 => by
        by_cases hjl : j = l
        · rw [hjl]; exact hy
        · exact hz j h1 (by omega))
    · rw [if_neg hy]
      have he := hI.ech q hq (hF q hq)
      have eq1 := hI.eqn q hq (hF q hq)
      have eq2 := hI.eqn l hlk (hF l hlk)
      have ul : ∀ j, j < k → (R.getD l []).getD j 0 = if j = l then 1 else 0 := fun j hj => hU l hlk (by omega) j hj
      have yb := getD_lt eq1.lt l
      have r1 : (addSc (R.getD q []) ((R.getD q []).getD l 0) (R.getD l [])).getD q 0 = 1 := by
        rw [addSc_getD, he.1, ul q hq, if_neg (by omega), mul_zero]; rfl
      have rz : ∀ j, j < q → (addSc (R.getD q []) ((R.getD q []).getD l 0) (R.getD l [])).getD j 0 = 0 := fun j hj => by
        rw [addSc_getD, he.2 j hj, ul j (by omega), if_neg (by omega), mul_zero]; rfl
      have rn : addSc (R.getD q []) ((R.getD q []).getD l 0) (R.getD l []) ≠ [] := fun e => by rw [e] at r1; simp at r1
      have hlen : q < R.length := by rw [hI.len]; exact hq
      refine ih (l + 1) _ (by omega) (by omega) (hI.set hq r1 rz (eq1.add eq2 yb hD)) (fun p hp => ?_) (fun p hp hqp j hj => ?_) (fun j h1 h2 => ?_)
      · rw [getD_set R q p _ hlen]
        by_cases hpq : p = q
        · rw [if_pos hpq]; exact rn
        · rw [if_neg hpq]; exact hF p hp
      · rw [getD_set R q p _ hlen, if_neg (by omega)]
        exact hU p hp hqp j hj
      · rw [getD_set R q q _ hlen, if_pos rfl, addSc_getD]
        by_cases hjl : j = l
        · rw [hjl, ul l hlk, if_pos rfl, mul_one _ yb, Nat.xor_self]
        · rw [hz j h1 (by omega), ul j (by omega), if_neg hjl, mul_zero]; rfl
theorem bOut_spec {k size : Nat} {D : Nat → Nat → Nat} (hD : ∀ j b, D j b < 256) : ∀ p R, p ≤ k → Inv k size D R → Ful k R → Unt k R p → Inv k size D (bOut k p R) ∧ Ful k (bOut k p R) ∧ Unt k (bOut k p R) 0 := by
  intro p
  induction p with
  | zero => intro R _ hI hF hU; simp only [bOut]; exact ⟨hI, hF, hU⟩
  | succ p ih =>
    intro R hp hI hF hU
    have h := bIn_spec (size := size) hD (q := p) (by omega) (k - (p + 1)) (p + 1) R (by omega) (by omega) hI hF hU (fun j h1 h2 => by omega)
    rw [bOut]
    exact ih _ (by omega) h.1 h.2.1 h.2.2
theorem solved_data (k M size : Nat) (L : List (Int × List Nat)) (data : List Nat) (hk1 : 1 ≤ k) (hk : k ≤ M) (hM : M ≤ 16) (hl : L.length = k) (G : GoodL M size L) (hb : ∀ x ∈ data, x < 256) (hS : ∀ i, i < k → by_ L i = shard k size data (nu L i).toNat) :
    solved k L = (List.range k).map (dsh size data) := by
  have hD : ∀ j b, (fun j b => (dsh size data j).getD b 0) j b < 256 := fun j b => getD_lt (dsh_lt hb j) b
  have hnum : ∀ i, i < k → 0 ≤ nu L i ∧ (nu L i).toNat < 16 := fun i hi => by have := (G i (by omega)).1; omega
  have hL : ∀ i, i < k → Eqn k size (fun j b => (dsh size data j).getD b 0) (rowL k (nu L i).toNat (by_ L i)) := fun i hi => by
    rw [hS i hi]; exact eqn_row k size _ data hk1 (by omega) (hnum i hi).2 hb
  have hF := elim_full k M size L hk1 hk hM hl G (fun i hi => by rw [hS i hi]; exact shard_lt hb _ (hnum i hi).2 (by omega))
  have hI : Inv k size (fun j b => (dsh size data j).getD b 0) (elim k L) := by
    unfold elim
    rw [hl]
    exact elimGo_inv hD hL k 0 _ _ (by omega) (dR_inv hL (fun i hi => (hnum i hi).1) k (Nat.le_refl _))
  obtain ⟨h1, h2, h3⟩ := bOut_spec hD k (elim k L) (Nat.le_refl _) hI hF (fun q hq hkq => by omega)
  unfold solved
  apply List.ext_getElem
  · simp [h1.len]
  · intro q hq1 hq2
    have hq : q < k := by simpa using hq2
    have hql : q < (bOut k k (elim k L)).length := by rw [h1.len]; exact hq
    have eg : (bOut k k (elim k L))[q] = (bOut k k (elim k L)).getD q [] := by simp [List.getD, hql]
    simp only [List.getElem_map, List.getElem_range]
    rw [eg]
    have he := h1.eqn q hq (h2 q hq)
    apply list_ext_getD
    · rw [List.length_drop, he.len, dsh_length]; omega
    · intro b hb2
      have hbs : b < size := by rw [List.length_drop, he.len] at hb2; omega
      have e1 : (((bOut k k (elim k L)).getD q []).drop k).getD b 0 = ((bOut k k (elim k L)).getD q []).getD (k + b) 0 := by
        simp only [List.getD]; rw [List.getElem?_drop]
      rw [e1, he.eq b hbs, sumOver_single _ q _ List.nodup_range (by simpa using hq) (fun y hy hne => by
        rw [h3 q hq (by omega) y (by simpa using hy), if_neg hne, zero_mul])]
      rw [h3 q hq (by omega) q hq, if_pos rfl, one_mul _ (getD_lt (dsh_lt hb q) b)]
/- the data shards, one behind the other -/
theorem dsh_cut (size N : Nat) (data : List Nat) (i : Nat) (hd : data.length ≤ N) (hi : i * size + size ≤ N) : dsh size data i = ((ext data N).drop (i * size)).take size := by
  have hl : (ext data N).length = N := ext_length _ _ hd
  apply list_ext_getD
  · rw [dsh_length]; simp [hl]; omega
  · intro b hb
    rw [dsh_length] at hb
    unfold dsh
    rw [ext_getD]
    simp only [List.getD]
    rw [List.getElem?_take_of_lt hb, List.getElem?_drop, List.getElem?_take_of_lt hb, List.getElem?_drop]
    have h2 := ext_getD data N (i * size + b)
    simp only [List.getD] at h2
    exact h2.symm
theorem flat_dsh (k size : Nat) (data : List Nat) (hd : data.length ≤ k * size) (i : Nat) (hi : i ≤ k) : flat ((List.range k).map (dsh size data)) i = (ext data (k * size)).take (i * size) := by
  induction i with
  | zero => simp [flat]
  | succ i ih =>
    have hl : i < ((List.range k).map (dsh size data)).length := by simp; omega
    rw [flat_succ hl, ih (by omega)]
    have e : ((List.range k).map (dsh size data)).getD i [] = dsh size data i := by
      have h2 : i < k := by omega
      simp [List.getD, h2]
    have hm : i * size + size ≤ k * size := by
      have := Nat.mul_le_mul_right size (by omega : i + 1 ≤ k)
      rw [Nat.add_mul] at this; omega
    rw [e, dsh_cut size (k * size) data i hd hm, Nat.add_mul, Nat.one_mul, List.take_add]
theorem sz_bounds (k n : Nat) (hk : 1 ≤ k) : n ≤ k * sz k n ∧ k * sz k n < n + k := by
  unfold sz
  have h1 := Nat.div_add_mod (n + k - 1) k
  have h2 := Nat.mod_lt (n + k - 1) (by omega : k > 0)
  omega
theorem decoded (k M n : Nat) (L : List (Int × List Nat)) (data : List Nat) (hk1 : 1 ≤ k) (hk : k ≤ M) (hM : M ≤ 16) (hl : L.length = k) (hn : n = data.length) (G : GoodL M (sz k n) L) (hb : ∀ x ∈ data, x < 256) (hS : ∀ i, i < k → by_ L i = shard k (sz k n) data (nu L i).toNat) :
    jn (solved k L) n k = data := by
  have hz := sz_bounds k n hk1
  rw [solved_data k M (sz k n) L data hk1 hk hM hl G hb hS]
  unfold jn
  rw [flat_dsh k (sz k n) data (by omega) k (Nat.le_refl _)]
  have e1 : (ext data (k * sz k n)).take (k * sz k n) = ext data (k * sz k n) := List.take_of_length_le (by rw [ext_length _ _ (by omega)]; exact Nat.le_refl _)
  have e2 : (ext data (k * sz k n)).take n = data := by
    unfold ext
    rw [List.take_append_of_le_length (by omega), List.take_of_length_le (by omega)]
  rw [e1, e2]
  unfold ext
  rw [hn]
  simp
end Go.Proofs.YtokkjdgfhpocdaaDoor
