/- What the elimination and the back substitution come to where the shards are those of a blob: its data shards. Plain arithmetic, no Go in sight. -/
import Derived.Test.YtokkjdgfhpocdaaDoorMc
import Derived.Test.YtokkjdgfhpocdaaDoorEg
namespace Go.Proofs.YtokkjdgfhpocdaaDoor
open Gm
set_option linter.unusedVariables false
set_option linter.unusedSimpArgs false
set_option linter.unnecessarySimpa false
/- the row is an equation that the data shards meet -/
structure Eqn (k size : Nat) (D : Nat → Nat → Nat) (r : List Nat) : Prop where
  len : r.length = k + size
  lt : ∀ x ∈ r, x < 256
  eq : ∀ b, b < size → r.getD (k + b) 0 = sumOver (fun j => mul (r.getD j 0) (D j b)) (List.range k)
theorem Eqn.add {k size e : Nat} {D : Nat → Nat → Nat} {r s : List Nat} (h : Eqn k size D r) (g : Eqn k size D s) (he : e < 256) (hD : ∀ j b, D j b < 256) : Eqn k size D (addSc r e s) := by
  refine ⟨by rw [addSc_length, h.len, g.len, Nat.max_self], addSc_lt he h.lt, fun b hb => ?_⟩
  rw [addSc_getD, h.eq b hb, g.eq b hb, ← sumOver_mul, ← sumOver_add]
  apply sumOver_congr
  intro j _
  rw [addSc_getD, add_mul _ _ _ (getD_lt h.lt j) (mul_lt _ _ he), mul_assoc _ _ _ he (getD_lt g.lt j) (hD j b)]
theorem Eqn.scale {k size e : Nat} {D : Nat → Nat → Nat} {r : List Nat} (h : Eqn k size D r) (he : e < 256) (hD : ∀ j b, D j b < 256) : Eqn k size D (scaled e r) := by
  refine ⟨by rw [scaled_length, h.len], scaled_lt he, fun b hb => ?_⟩
  rw [scaled_getD, h.eq b hb, ← sumOver_mul]
  apply sumOver_congr
  intro j _
  rw [scaled_getD, mul_assoc _ _ _ he (getD_lt h.lt j) (hD j b)]
theorem sumOver_snoc (f : Nat → Nat) (l : List Nat) (x : Nat) : sumOver f (l ++ [x]) = sumOver f l ^^^ f x := by
  induction l with
  | nil => simp [sumOver]
  | cons y r ih => simp only [List.cons_append, sumOver]; rw [ih, Nat.xor_assoc]
theorem parN_sum (k number size : Nat) (DD : List (List Nat)) (b : Nat) (hb : b < size) (j : Nat) : (parN k number size DD j).getD b 0 = sumOver (fun i => mul (fac k number i) ((DD.getD i []).getD b 0)) (List.range j) := by
  induction j with
  | zero =>
    simp only [parN, List.range_zero, sumOver]
    simp [List.getD, hb]
  | succ j ih => simp only [parN]; rw [addSc_getD, ih, List.range_succ, sumOver_snoc]
theorem eqn_row (k size x : Nat) (data : List Nat) (hk1 : 1 ≤ k) (hk : k ≤ 16) (hx : x < 16) (hb : ∀ x ∈ data, x < 256) : Eqn k size (fun j b => (dsh size data j).getD b 0) (rowL k x (shard k size data x)) := by
  have sl := shard_length k size data x
  refine ⟨by rw [rowL_length, sl], rowL_lt hk hx (shard_lt hb x hx hk), fun b hbs => ?_⟩
  have fl : (facs k x).length = k := by simp [facs]
  have e1 : (rowL k x (shard k size data x)).getD (k + b) 0 = (shard k size data x).getD b 0 := by
    unfold rowL
    simp only [List.getD]
    rw [List.getElem?_append_right (by omega), fl, Nat.add_sub_cancel_left]
  have e2 : ∀ j, j < k → (rowL k x (shard k size data x)).getD j 0 = fac k x j := fun j hj => by
    unfold rowL
    simp only [List.getD]
    rw [List.getElem?_append_left (by omega)]
    exact facs_getD hj
  rw [e1]
  have e3 : sumOver (fun j => mul ((rowL k x (shard k size data x)).getD j 0) ((dsh size data j).getD b 0)) (List.range k) = sumOver (fun j => mul (fac k x j) ((dsh size data j).getD b 0)) (List.range k) := by
    apply sumOver_congr
    intro j hj
    rw [e2 j (by simpa using hj)]
  rw [e3]
  by_cases hxk : x < k
  · have es : shard k size data x = dsh size data x := by simp [shard, hxk]
    rw [es, sumOver_single _ x _ List.nodup_range (by simpa using hxk) (fun y hy hne => by
      have : fac k x y = 0 := by unfold fac; rw [if_neg (fun e => hne e.symm), if_pos hxk]
      rw [this, zero_mul])]
    have : fac k x x = 1 := by simp [fac]
    rw [this, one_mul _ (getD_lt (dsh_lt hb x) b)]
  · have es : shard k size data x = parN k x size ((List.range k).map (dsh size data)) k := by simp [shard]; omega
    rw [es, parN_sum k x size _ b hbs k]
    apply sumOver_congr
    intro j hj
    simp at hj
    have : ((List.range k).map (dsh size data)).getD j [] = dsh size data j := by simp [List.getD, hj]
    rw [this]
/- what holds of the rows all the way -/
structure Inv (k size : Nat) (D : Nat → Nat → Nat) (R : List (List Nat)) : Prop where
  len : R.length = k
  ech : Ech k R
  eqn : ∀ q, q < k → R.getD q [] ≠ [] → Eqn k size D (R.getD q [])
theorem Inv.set {k size q : Nat} {D : Nat → Nat → Nat} {R : List (List Nat)} {r : List Nat} (h : Inv k size D R) (hq : q < k) (h1 : r.getD q 0 = 1) (hz : ∀ j, j < q → r.getD j 0 = 0) (he : Eqn k size D r) : Inv k size D (R.set q r) := by
  refine ⟨by simp [h.len], fun p hp h0 => ?_, fun p hp h0 => ?_⟩
  · rw [getD_set R q p r (by rw [h.len]; exact hq)] at h0 ⊢
    by_cases hpq : p = q
    · rw [if_pos hpq, hpq]; exact ⟨h1, hz⟩
    · rw [if_neg hpq] at h0 ⊢; exact h.ech p hp h0
  · rw [getD_set R q p r (by rw [h.len]; exact hq)] at h0 ⊢
    by_cases hpq : p = q
    · rw [if_pos hpq]; exact he
    · rw [if_neg hpq] at h0 ⊢; exact h.eqn p hp h0
theorem ins_inv {k size : Nat} {D : Nat → Nat → Nat} {R : List (List Nat)} (h : Inv k size D R) (hD : ∀ j b, D j b < 256) :
    ∀ f p row, f + p = k → Eqn k size D row → (∀ j, j < p → row.getD j 0 = 0) → ∀ q r, ins R f p row = some (q, r) → Inv k size D (R.set q r) := by
  intro f
  induction f with
  | zero => intro p row _ _ _ q r hi; simp [ins] at hi
  | succ f ih =>
    intro p row hf he hz q r hi
    have hp : p < k := by omega
    have hre : Eqn k size D (red R row p) := by
      unfold red; split
      · exact he
      · rename_i h0; exact he.add (h.eqn p hp h0) (getD_lt he.lt p) hD
    have hrz : ∀ j, j < p → (red R row p).getD j 0 = 0 := by
      intro j hj
      unfold red; split
      · exact hz j hj
      · rename_i h0; rw [addSc_getD, hz j hj, (h.ech p hp h0).2 j hj, mul_zero]; rfl
    by_cases h0 : (red R row p).getD p 0 = 0
    · have e : ins R (f + 1) p row = ins R f (p + 1) (red R row p) := by rw [ins, if_pos h0]
      rw [e] at hi
      exact ih (p + 1) _ (by omega) hre (fun j hj => by
        by_cases hjp : j = p
        · rw [hjp]; exact h0
        · exact hrz j (by omega)) q r hi
    · have e : ins R (f + 1) p row = some (p, scaled (inv ((red R row p).getD p 0)) (red R row p)) := by rw [ins, if_neg h0]
      rw [e] at hi
      simp only [Option.some.injEq, Prod.mk.injEq] at hi
      obtain ⟨rfl, rfl⟩ := hi
      have hy := getD_lt hre.lt p
      refine h.set hp ?_ (fun j hj => ?_) (hre.scale (inv_lt _ hy) hD)
      · rw [scaled_getD, mul_comm _ _ (inv_lt _ hy) hy, inv_mul _ hy h0]
      · rw [scaled_getD, hrz j hj, mul_zero]
theorem elimGo_inv {k size : Nat} {D : Nat → Nat → Nat} {L : List (Int × List Nat)} (hD : ∀ j b, D j b < 256) (hL : ∀ i, i < k → Eqn k size D (rowL k (nu L i).toNat (by_ L i))) :
    ∀ f i R (d : Int), f + i ≤ k → Inv k size D R → Inv k size D (elimGo k L f i R d) := by
  intro f
  induction f with
  | zero => intro i R d _ h; simp only [elimGo]; exact h
  | succ f ih =>
    intro i R d hf h
    by_cases hx : nu L i < k
    · rw [elimGo, if_pos hx]; exact ih (i + 1) R d (by omega) h
    · rw [elimGo, if_neg hx]
      cases hins : ins R k 0 (rowL k (nu L i).toNat (by_ L i)) with
      | none => exact ih (i + 1) R d (by omega) h
      | some qr =>
        obtain ⟨q, r⟩ := qr
        have h2 := ins_inv h hD k 0 _ (by omega) (hL i (by omega)) (fun j hj => by omega) q r hins
        dsimp only
        split
        · exact h2
        · exact ih (i + 1) _ _ (by omega) h2
end Go.Proofs.YtokkjdgfhpocdaaDoor
