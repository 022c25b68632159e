/- What Check, Size, isShard and factor of package rs do, for all numbers. -/
import Derived.Test.YtokkjdgfhpocdaaDoorWk
import Derived.Test.YtokkjdgfhpocdaaDoorWc
import Derived.WalkLawsBesides
import Derived.Deep.CutRange
import Derived.Deep.RegionHeld
import Derived.BigQuiet
namespace Go.Proofs.YtokkjdgfhpocdaaDoor
open Go.ChangeShapes Go.WideShapes Go.ChangeAt Go.RowKit
set_option linter.unusedVariables false
set_option linter.unusedSimpArgs false
/- the errors' values, and where the first four lie -/
abbrev er (a : Addr) : Value := .iface 84 (.pointer (some a))
structure Errs (w : World) (E : Nat → Addr) : Prop where
  c : ∀ i, i < 4 → w.cell? ⟨i, 0, none⟩ = some (er (E i))
theorem cell_lt' {w : World} {b off : Nat} {v : Value} (h : w.cell? ⟨b, off, none⟩ = some v) : b < w.heap.size := by
  unfold World.cell? at h
  rcases hb : w.heap[b]? with _ | o
  · simp [hb] at h
  · exact (Array.getElem?_eq_some_iff.1 hb).1
theorem Errs.below {w w' : World} {E : Nat → Addr} (h : Errs w E) (hb : Below w.heap.size w w') : Errs w' E :=
  ⟨fun i hi => (hb.cell (p := ⟨i, 0, none⟩) (cell_lt' (h.c i hi))).trans (h.c i hi)⟩
def Lgl (k m : Int) : Prop := 1 ≤ m ∧ m ≤ k ∧ k + m ≤ 16
instance (k m : Int) : Decidable (Lgl k m) := by unfold Lgl; infer_instance
theorem check_ok (k m : Nat) (h1 : 1 ≤ m) (h2 : m ≤ k) (h3 : k + m ≤ 16) (w : World) :
    Calls Tryd.prog 10 #[.int .i64 (k : Int), .int .i64 (m : Int)] w fun e w' => e = .returned .nilIface ∧ w' = w := by
  go_enter Tryd.func10, Tryd.ntmps10
  go_wp2
  go_ret
  exact ⟨rfl, rfl⟩
theorem check_bad (k m : Int) (hk : (Lit.int .i64 k).wf = true) (hm : (Lit.int .i64 m).wf = true) (h : ¬ Lgl k m) (w : World) (E : Nat → Addr) (hE : Hid (Errs w E)) :
    Calls Tryd.prog 10 #[.int .i64 k, .int .i64 m] w fun e w' => e = .returned (er (E 0)) ∧ w' = w := by
  have bk := bounds_i64 hk
  have bm := bounds_i64 hm
  have c0 := hE.out.c 0 (by omega)
  unfold er at c0
  unfold Lgl at h
  by_cases h1 : m < 1
  · clear h
    go_enter Tryd.func10, Tryd.ntmps10
    go_wp2
    go_ret
    exact ⟨rfl, rfl⟩
  · by_cases h2 : k < m
    · clear h
      go_enter Tryd.func10, Tryd.ntmps10
      go_wp2
      go_ret
      exact ⟨rfl, rfl⟩
    · have h3 : 16 - m < k := by omega
      clear h
      go_enter Tryd.func10, Tryd.ntmps10
      go_wp2
      go_ret
      exact ⟨rfl, rfl⟩
/- which error Size answers: 0 for none, else one above the variable's number -/
def errNo (k m n : Int) : Nat := if ¬ Lgl k m then 1 else if n < 0 then 3 else if 1024 < n then 4 else 0
def errV (E : Nat → Addr) : Nat → Value
  | 0 => .nilIface
  | i + 1 => er (E i)
def sz (k n : Nat) : Nat := (n + k - 1) / k
theorem size_ok (k m n : Nat) (h1 : 1 ≤ m) (h2 : m ≤ k) (h3 : k + m ≤ 16) (hn : n ≤ 1024) (w : World) :
    Calls Tryd.prog 12 #[.int .i64 (k : Int), .int .i64 (m : Int), .int .i64 (n : Int)] w fun e w' => e = .returned (.tuple #[.int .i64 (sz k n : Nat), .nilIface]) ∧ w' = w := by
  have e1 : ((n : Int) + (k : Int) - 1).tdiv (k : Int) = ((sz k n : Nat) : Int) := by
    have e : (n : Int) + (k : Int) - 1 = ((n + k - 1 : Nat) : Int) := by omega
    rw [e]; rfl
  have hs : sz k n ≤ 1039 := by
    have := Nat.div_le_self (n + k - 1) k
    unfold sz; omega
  obtain ⟨x, Hx⟩ : ∃ x, Hid (sz k n = x) := ⟨_, rfl⟩
  rw [Hx.out] at e1 hs ⊢
  have z : ((k : Int) == 0) = false := by simp; omega
  go_enter Tryd.func12, Tryd.ntmps12
  go_wp2_with (go_at_call 10; refine (check_ok k m h1 h2 h3 _).mono ?_; rintro e w' ⟨rfl, rfl⟩)
  go_ret2
  exact ⟨rfl, rfl⟩
theorem isShard_any (k m : Nat) (n : Int) (hn : (Lit.int .i64 n).wf = true) (h3 : k + m ≤ 16) (w : World) :
    Calls Tryd.prog 35 #[.int .i64 (k : Int), .int .i64 (m : Int), .int .i64 n] w fun e w' => e = .returned (.bool (decide (0 ≤ n ∧ n < (k : Int) + m))) ∧ w' = w := by
  have bn := bounds_i64 hn
  by_cases h1 : 0 ≤ n
  · by_cases h2 : n < (k : Int) + m
    · have e : decide (0 ≤ n ∧ n < (k : Int) + m) = true := by simp [h1, h2]
      rw [e]; clear e
      go_enter Tryd.func35, Tryd.ntmps35
      go_wp2
      go_ret
      exact ⟨rfl, rfl⟩
    · have e : decide (0 ≤ n ∧ n < (k : Int) + m) = false := by simp; omega
      rw [e]; clear e
      go_enter Tryd.func35, Tryd.ntmps35
      go_wp2
      go_ret
      exact ⟨rfl, rfl⟩
  · have e : decide (0 ≤ n ∧ n < (k : Int) + m) = false := by simp; omega
    rw [e]; clear e
    go_enter Tryd.func35, Tryd.ntmps35
    go_wp2
    go_ret
    exact ⟨rfl, rfl⟩
/- what data shard j is taken times -/
def fac (k number j : Nat) : Nat := if number = j then 1 else if number < k then 0 else Gm.inv (number ^^^ j)
theorem fac_lt (k a b : Nat) (ha : a < 16) (hb : b < 16) : fac k a b < 256 := by
  unfold fac
  have := Nat.xor_lt_two_pow (n := 4) ha hb
  split
  · omega
  · split
    · omega
    · exact Gm.inv_lt _ (by omega)
theorem factor_any (k number j : Nat) (hk : k ≤ 16) (hn : number < 16) (hj : j < 16) (w : World) :
    Calls Tryd.prog 38 #[.int .i64 (k : Int), .int .i64 (number : Int), .int .i64 (j : Int)] w fun e w' => e = .returned (.int .u8 (fac k number j : Nat)) ∧ w' = w := by
  by_cases h1 : number = j
  · have e : fac k number j = 1 := by simp [fac, h1]
    rw [e]; clear e
    subst h1
    go_enter Tryd.func38, Tryd.ntmps38
    go_wp2
    go_ret
    exact ⟨rfl, rfl⟩
  · have g1 : ((number : Int) == (j : Int)) = false := by simp; omega
    by_cases h2 : number < k
    · have e : fac k number j = 0 := by simp [fac, h1, h2]
      rw [e]; clear e
      go_enter Tryd.func38, Tryd.ntmps38
      go_wp2
      go_ret
      exact ⟨rfl, rfl⟩
    · have e : fac k number j = Gm.inv (number ^^^ j) := by simp [fac, h1, h2]
      rw [e]; clear e
      have hx : number ^^^ j < 16 := Nat.xor_lt_two_pow (n := 4) hn hj
      have hx0 : number ^^^ j ≠ 0 := by
        intro h0
        apply h1
        have h5 : (number ^^^ j) ^^^ j = 0 ^^^ j := by rw [h0]
        rw [Nat.xor_assoc, Nat.xor_self, Nat.xor_zero, Nat.zero_xor] at h5
        exact h5
      have xb := i64_xor_nat number j (by omega) (by omega)
      obtain ⟨x, Hx⟩ : ∃ x, Hid (number ^^^ j = x) := ⟨_, rfl⟩
      rw [Hx.out] at hx hx0 xb ⊢
      have x1 : (x : Int) < 16 := by omega
      clear h1
      go_enter Tryd.func38, Tryd.ntmps38
      go_wp2_with (go_at_call 43; refine (inv_some x (by omega) hx0 _).mono ?_; rintro e w' ⟨rfl, rfl⟩)
      go_ret
      exact ⟨rfl, rfl⟩
theorem size_bad (k m n : Int) (hk : (Lit.int .i64 k).wf = true) (hm : (Lit.int .i64 m).wf = true) (hn : (Lit.int .i64 n).wf = true) (h : errNo k m n ≠ 0) (w : World) (E : Nat → Addr) (hE : Hid (Errs w E)) :
    Calls Tryd.prog 12 #[.int .i64 k, .int .i64 m, .int .i64 n] w fun e w' => e = .returned (.tuple #[.int .i64 (0 : Int), errV E (errNo k m n)]) ∧ Hid (∃ q, w' = w.drewN q) := by
  have bk := bounds_i64 hk
  have bm := bounds_i64 hm
  have bn := bounds_i64 hn
  by_cases hL : Lgl k m
  · have hL2 := hL
    unfold Lgl at hL2
    obtain ⟨k', rfl⟩ : ∃ k' : Nat, k = (k' : Int) := ⟨k.toNat, by omega⟩
    obtain ⟨m', rfl⟩ : ∃ m' : Nat, m = (m' : Int) := ⟨m.toNat, by omega⟩
    have c2 := hE.out.c 2 (by omega)
    have c3 := hE.out.c 3 (by omega)
    unfold er at c2 c3
    have l1 : 1 ≤ m' := by omega
    have l2 : m' ≤ k' := by omega
    have l3 : k' + m' ≤ 16 := by omega
    by_cases h0 : n < 0
    · have e : errNo k' m' n = 3 := by simp [errNo, hL, h0]
      rw [e]; clear e h hL hL2
      go_enter Tryd.func12, Tryd.ntmps12
      go_wp2_with (go_at_call 10; refine (check_ok k' m' l1 l2 l3 _).mono ?_; rintro e w' ⟨rfl, rfl⟩)
      go_quiet (fail)
      go_wp2
      go_ret2
      exact ⟨rfl, ⟨_, rfl⟩⟩
    · by_cases h1 : 1024 < n
      · have e : errNo k' m' n = 4 := by simp [errNo, hL, h0, h1]
        rw [e]; clear e h hL hL2
        go_enter Tryd.func12, Tryd.ntmps12
        go_wp2_with (go_at_call 10; refine (check_ok k' m' l1 l2 l3 _).mono ?_; rintro e w' ⟨rfl, rfl⟩)
        go_quiet (fail)
        go_wp2
        go_ret2
        exact ⟨rfl, ⟨_, rfl⟩⟩
      · exact absurd (by simp [errNo, hL, h0, h1]) h
  · have e : errNo k m n = 1 := by simp [errNo, hL]
    rw [e]; clear e h
    go_enter Tryd.func12, Tryd.ntmps12
    go_wp2_with (go_at_call 10; refine (check_bad k m hk hm hL _ E hE).mono ?_; rintro e w' ⟨rfl, rfl⟩)
    go_ret2
    exact ⟨rfl, ⟨0, rfl⟩⟩
end Go.Proofs.YtokkjdgfhpocdaaDoor
