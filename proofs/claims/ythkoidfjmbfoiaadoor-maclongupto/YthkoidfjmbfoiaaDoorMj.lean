/- What package mac's Same does to a machine: it tells whether two rows of bytes are the same. -/
import Derived.Test.YthkoidfjmbfoiaaDoorMf
namespace Go.Proofs.YthkoidfjmbfoiaaDoor
open Go.ChangeShapes Go.WideShapes Go.ChangeAt Go.RowKit
set_option linter.unusedVariables false
set_option linter.unusedSimpArgs false
/- all that two rows are unlike in, by their first k places -/
def unl (a b : List Nat) : Nat → Nat
  | 0 => 0
  | k + 1 => unl a b k ||| (a.getD k 0 ^^^ b.getD k 0)
theorem or_zero_iff {a b : Nat} : a ||| b = 0 ↔ a = 0 ∧ b = 0 := by
  constructor
  · intro h
    exact ⟨Nat.eq_zero_of_le_zero (h ▸ Nat.left_le_or), Nat.eq_zero_of_le_zero (h ▸ Nat.right_le_or)⟩
  · rintro ⟨rfl, rfl⟩; rfl
theorem xor_zero_iff {a b : Nat} : a ^^^ b = 0 ↔ a = b := by
  constructor
  · intro h
    have h2 : (a ^^^ b) ^^^ b = a := by rw [Nat.xor_assoc, Nat.xor_self, Nat.xor_zero]
    rw [h, Nat.zero_xor] at h2
    exact h2.symm
  · rintro rfl; exact Nat.xor_self _
def sameB (a b : List Nat) : Bool := decide (a = b)
theorem ret_bool {a b : Bool} (h : a = b) : Ending.returned (.bool a) = .returned (.bool b) := by rw [h]
theorem unl_zero (a b : List Nat) (k : Nat) : unl a b k = 0 ↔ ∀ i, i < k → a.getD i 0 = b.getD i 0 := by
  induction k with
  | zero => simp [unl]
  | succ k ih =>
    show unl a b k ||| (a.getD k 0 ^^^ b.getD k 0) = 0 ↔ _
    rw [or_zero_iff, ih, xor_zero_iff]
    constructor
    · rintro ⟨h1, h2⟩ i hi
      by_cases e : i = k
      · subst e; exact h2
      · exact h1 i (by omega)
    · intro h
      exact ⟨fun i hi => h i (by omega), h k (by omega)⟩
theorem unl_lt {a b : List Nat} (ha : ∀ x ∈ a, x < 256) (hb : ∀ x ∈ b, x < 256) (k : Nat) : unl a b k < 256 := by
  induction k with
  | zero => simp [unl]
  | succ k ih => exact Nat.or_lt_two_pow (n := 8) ih (Nat.xor_lt_two_pow (n := 8) (getD_lt ha k) (getD_lt hb k))
theorem unl_eq {a b : List Nat} (h : a.length = b.length) : unl a b a.length = 0 ↔ a = b := by
  rw [unl_zero]
  constructor
  · intro h1
    apply List.ext_getElem h
    intro i h2 h3
    have := h1 i h2
    simpa [List.getD, h2, h3] using this
  · rintro rfl i _; rfl
set_option maxRecDepth 20000 in
set_option maxHeartbeats 1000000 in
theorem same_n {w : World} {aa ab : Option Addr} {na ca nb cb : Nat} {la lb : List Nat} (hA : Hid (Sln w aa na la)) (hB : Hid (Sln w ab nb lb)) :
    Calls Tryd.prog 19 #[.slice aa na ca, .slice ab nb cb] w fun e w' => e = .returned (.bool (sameB la lb)) ∧ Hid (w' = w) := by
  have ea : Hid (na = la.length) := hA.out.len
  have eb : Hid (nb = lb.length) := hB.out.len
  have ma : na ≤ 140737488352256 := by have := hA.out.sli.2.1; rw [← ea.out] at this; exact this
  by_cases hne : na = nb
  · subst hne
    have q0 : ((na : Int) != (na : Int)) = false := by simp
    go_enter Tryd.func19, Tryd.ntmps19
    go_wp2
    go_loopw [15, 5] (fun ti tu wr => ∃ k u : Nat, k ≤ na ∧ ti = .int .i64 k ∧ tu = .int .u8 u ∧ Hid (unl la lb k = u ∧ wr = w)) (fun ti _ _ => na - (intOf ti).toNat)
    case atStart => exact ⟨0, 0, by omega, rfl, rfl, rfl, rfl⟩
    case round =>
      obtain ⟨k, u, hk, rfl, rfl, HK⟩ := hrel
      obtain ⟨hu, rfl⟩ := HK.out
      by_cases hlt : k < na
      · have i1 : (0 : Int) ≤ (k : Int) := by omega
        have i2 : (k : Int) < (na : Int) := by omega
        obtain ⟨b1, o1, h1, c1⟩ := row_at hA.out hlt
        obtain ⟨b2, o2, h2, c2⟩ := row_at hB.out hlt
        obtain ⟨x, X⟩ : ∃ x, Hid (la.getD k 0 = x) := ⟨_, rfl⟩
        obtain ⟨y, Y⟩ : ∃ x, Hid (lb.getD k 0 = x) := ⟨_, rfl⟩
        rw [X.out] at c1
        rw [Y.out] at c2
        have x1 : x < 256 := by rw [← X.out]; exact getD_lt hA.out.lt k
        have y1 : y < 256 := by rw [← Y.out]; exact getD_lt hB.out.lt k
        have u1 : u < 256 := by rw [← hu]; exact unl_lt hA.out.lt hB.out.lt k
        have U : Hid (unl la lb k = u) := hu
        obtain ⟨v, V⟩ : ∃ v, Hid (u ||| (x ^^^ y) = v) := ⟨_, rfl⟩
        have b0 : bits BinOp.xor IntKind.u8 (x : Int) (y : Int) = ((x ^^^ y : Nat) : Int) := u8_xor_nat x y x1 y1
        have b1' : bits BinOp.or IntKind.u8 (u : Int) ((x ^^^ y : Nat) : Int) = (v : Int) := by rw [u8_or_nat u (x ^^^ y) u1 (Nat.xor_lt_two_pow (n := 8) x1 y1), V.out]
        generalize hz : x ^^^ y = z at b0 b1' V
        have ZZ : Hid (x ^^^ y = z) := hz
        clear hz
        subst h1 h2
        clear hu HK
        go_wp2
        go_roundw
        case rel =>
          refine ⟨k + 1, v, by omega, by go_num, rfl, ?_, trivial⟩
          show unl la lb k ||| (la.getD k 0 ^^^ lb.getD k 0) = v
          rw [U.out, X.out, Y.out, ZZ.out, V.out]
        case measure => simp [intOf]; omega
      · have i2 : ¬ ((k : Int) < (na : Int)) := by omega
        have ek : k = na := by omega
        have FE : Hid (u = 0 ↔ la = lb) := by
          have h := unl_eq (a := la) (b := lb) (by rw [← ea.out, ← eb.out])
          rw [← ea.out, ← ek, hu] at h
          exact h
        clear hu HK ek
        go_wp2
        go_ret
        refine ⟨ret_bool ?_, rfl⟩
        have F := FE.out
        by_cases h : la = lb
        · have h2 := F.2 h
          subst h2
          simp [sameB, h]
        · have h2 : u ≠ 0 := fun e => h (F.1 e)
          simp [sameB, h]
          exact h2
  · have q0 : ((na : Int) != (nb : Int)) = true := by simp; omega
    have FN : Hid (sameB la lb = false) := by
      have h : la ≠ lb := by
        intro h
        rw [ea.out, eb.out, h] at hne
        exact hne rfl
      have h2 : sameB la lb = false := by simp [sameB, h]
      exact h2
    clear hne
    go_enter Tryd.func19, Tryd.ntmps19
    go_wp2
    go_ret
    exact ⟨ret_bool FN.out.symm, rfl⟩
end Go.Proofs.YthkoidfjmbfoiaaDoor
