/- What the document's own Legal and Size and the laws' own Num do. -/
import Derived.Test.YtokkjdgfhpocdaaDoorEs
import Derived.Test.YtokkjdgfhpocdaaDoorEi
namespace Go.Proofs.YtokkjdgfhpocdaaDoor
open Go.ChangeShapes Go.WideShapes Go.ChangeAt Go.RowKit
set_option linter.unusedVariables false
set_option linter.unusedSimpArgs false
theorem legal_t (k m : Nat) (h1 : 1 ≤ m) (h2 : m ≤ k) (h3 : k + m ≤ 16) (w : World) :
    Calls Tryd.prog 11 #[.int .i64 (k : Int), .int .i64 (m : Int)] w fun e w' => e = .returned (.bool true) ∧ w' = w := by
  have i1 : (1 : Int) ≤ (m : Int) := by omega
  have i2 : (m : Int) ≤ (k : Int) := by omega
  have i3 : (k : Int) ≤ 16 := by omega
  have i4 : (k : Int) + (m : Int) ≤ 16 := by omega
  go_enter Tryd.func11, Tryd.ntmps11
  go_wp2
  go_ret
  exact ⟨rfl, rfl⟩
theorem legal_f (k m : Int) (hk : (Lit.int .i64 k).wf = true) (hm : (Lit.int .i64 m).wf = true) (h : ¬ Lgl k m) (w : World) :
    Calls Tryd.prog 11 #[.int .i64 k, .int .i64 m] w fun e w' => e = .returned (.bool false) ∧ w' = w := by
  have bk := bounds_i64 hk
  have bm := bounds_i64 hm
  unfold Lgl at h
  by_cases h1 : 1 ≤ m
  · by_cases h2 : m ≤ k
    · by_cases h3 : k ≤ 16
      · have h4 : 16 < k + m := by omega
        have hd : decide (k + m ≤ 16) = false := by simp; omega
        clear h
        go_enter Tryd.func11, Tryd.ntmps11
        go_wp2
        go_ret
        exact ⟨rfl, rfl⟩
      · have h3' : 16 < k := by omega
        clear h h3
        go_enter Tryd.func11, Tryd.ntmps11
        go_wp2
        go_ret
        exact ⟨rfl, rfl⟩
    · have h2' : k < m := by omega
      clear h h2
      go_enter Tryd.func11, Tryd.ntmps11
      go_wp2
      go_ret
      exact ⟨rfl, rfl⟩
  · have h1' : m < 1 := by omega
    clear h h1
    go_enter Tryd.func11, Tryd.ntmps11
    go_wp2
    go_ret
    exact ⟨rfl, rfl⟩
theorem sz_iff (k n s : Nat) (hk : 1 ≤ k) : s < sz k n ↔ s * k < n := by
  unfold sz
  have h : s + 1 ≤ (n + k - 1) / k ↔ (s + 1) * k ≤ n + k - 1 := Nat.le_div_iff_mul_le (by omega)
  rw [Nat.add_mul] at h
  constructor
  · intro h1; have := h.1 h1; omega
  · intro h1; exact h.2 (by omega)
theorem refsize_ok (k m n : Nat) (h1 : 1 ≤ m) (h2 : m ≤ k) (h3 : k + m ≤ 16) (hn : n ≤ 1024) (w : World) :
    Calls Tryd.prog 13 #[.int .i64 (k : Int), .int .i64 (m : Int), .int .i64 (n : Int)] w fun e w' => e = .returned (.tuple #[.int .i64 (sz k n : Nat), .int .i64 (0 : Int)]) ∧ w' = w := by
  have hs := sz_le k n (by omega) (by omega) hn
  have HI : Hid (∀ s, s < sz k n ↔ s * k < n) := fun s => sz_iff k n s (by omega)
  obtain ⟨x, Hx⟩ : ∃ x, Hid (sz k n = x) := ⟨_, rfl⟩
  rw [Hx.out] at hs HI ⊢
  go_enter Tryd.func13, Tryd.ntmps13
  go_wp2_with (go_at_call 11; refine (legal_t k m h1 h2 h3 _).mono ?_; rintro e w0 ⟨rfl, h0⟩; rw [h0]; clear h0)
  go_loop [8] (fun ts => ∃ s : Nat, s ≤ x ∧ ts = .int .i64 (s : Int)) (fun ts => x - (intOf ts).toNat)
  case atStart => exact ⟨0, by omega, rfl⟩
  case round =>
    obtain ⟨s, hsx, rfl⟩ := hrel
    obtain ⟨p, hp⟩ : ∃ p, p = s * k := ⟨_, rfl⟩
    have hp1 : (s : Int) * (k : Int) = (p : Int) := by rw [hp]; simp
    have hp2 : p ≤ 17600 := by rw [hp]; exact Nat.le_trans (Nat.mul_le_mul (by omega : s ≤ 1100) (by omega : k ≤ 16)) (by omega)
    have hiff := HI.out s
    rw [← hp] at hiff
    by_cases hlt : s < x
    · have i1 : (p : Int) < (n : Int) := by have := hiff.1 hlt; omega
      clear hiff hp
      go_wp2
      go_round
      case rel => exact ⟨s + 1, by omega, by go_num⟩
      case measure => simp [intOf]; omega
    · have i1 : ¬ p < n := fun h => hlt (hiff.2 h)
      have i2 : (n : Int) ≤ (p : Int) := by omega
      have e : s = x := by omega
      clear hiff hp
      subst e
      go_wp2
      go_ret2
      exact ⟨rfl, rfl⟩
theorem refsize_bad (k m n : Int) (hk : (Lit.int .i64 k).wf = true) (hm : (Lit.int .i64 m).wf = true) (hn : (Lit.int .i64 n).wf = true) (c : Int) (h : ¬ Lgl k m ∧ c = 1 ∨ Lgl k m ∧ n < 0 ∧ c = 2 ∨ Lgl k m ∧ 1024 < n ∧ c = 11) (w : World) :
    Calls Tryd.prog 13 #[.int .i64 k, .int .i64 m, .int .i64 n] w fun e w' => e = .returned (.tuple #[.int .i64 (0 : Int), .int .i64 c]) ∧ w' = w := by
  have bn := bounds_i64 hn
  rcases h with ⟨hL, rfl⟩ | ⟨hL, h0, rfl⟩ | ⟨hL, h0, rfl⟩
  · go_enter Tryd.func13, Tryd.ntmps13
    go_wp2_with (go_at_call 11; refine (legal_f k m hk hm hL _).mono ?_; rintro e w0 ⟨rfl, h0⟩; rw [h0]; clear h0)
    go_ret2
    exact ⟨rfl, rfl⟩
  · have hL2 := hL
    unfold Lgl at hL2
    obtain ⟨k', rfl⟩ : ∃ k' : Nat, k = (k' : Int) := ⟨k.toNat, by omega⟩
    obtain ⟨m', rfl⟩ : ∃ m' : Nat, m = (m' : Int) := ⟨m.toNat, by omega⟩
    have l1 : 1 ≤ m' := by omega
    have l2 : m' ≤ k' := by omega
    have l3 : k' + m' ≤ 16 := by omega
    clear hL hL2
    go_enter Tryd.func13, Tryd.ntmps13
    go_wp2_with (go_at_call 11; refine (legal_t k' m' l1 l2 l3 _).mono ?_; rintro e w0 ⟨rfl, h0⟩; rw [h0]; clear h0)
    go_ret2
    exact ⟨rfl, rfl⟩
  · have hL2 := hL
    unfold Lgl at hL2
    obtain ⟨k', rfl⟩ : ∃ k' : Nat, k = (k' : Int) := ⟨k.toNat, by omega⟩
    obtain ⟨m', rfl⟩ : ∃ m' : Nat, m = (m' : Int) := ⟨m.toNat, by omega⟩
    have l1 : 1 ≤ m' := by omega
    have l2 : m' ≤ k' := by omega
    have l3 : k' + m' ≤ 16 := by omega
    have h00 : 0 ≤ n := by omega
    clear hL hL2
    go_enter Tryd.func13, Tryd.ntmps13
    go_wp2_with (go_at_call 11; refine (legal_t k' m' l1 l2 l3 _).mono ?_; rintro e w0 ⟨rfl, h0⟩; rw [h0]; clear h0)
    go_ret2
    exact ⟨rfl, rfl⟩
/- the order in which Num lists the errors -/
def ordL : List Nat := [0, 2, 1, 4, 5, 6, 7, 8, 9, 10, 3, 11, 12, 13, 14, 15, 16, 17]
theorem comp84 : (Tryd.prog.info? 84).map (·.comparable) = some true := by kernel_rfl
theorem size102 : (Tryd.prog.info? 102).map (·.size) = some 1 := by kernel_rfl
theorem eql_same (w : World) (a : Addr) : (binOp .eql 24 (.iface 84 (.pointer (some a))) (.iface 84 (.pointer (some a)))).run Tryd.prog w = .ok (.bool true) w := by
  obtain ⟨i, hi, hc⟩ := Option.map_eq_some_iff.1 comp84
  obtain ⟨j, hj, _⟩ := Option.map_eq_some_iff.1 size102
  exact run_eql_iface_ptr_same w a Tryd.underlying24 Tryd.underlying84 hi hc hj
theorem neq_same (w : World) (a : Addr) : (binOp .neq 24 (.iface 84 (.pointer (some a))) (.iface 84 (.pointer (some a)))).run Tryd.prog w = .ok (.bool false) w := by
  obtain ⟨i, hi, hc⟩ := Option.map_eq_some_iff.1 comp84
  obtain ⟨j, hj, _⟩ := Option.map_eq_some_iff.1 size102
  simp only [binOp]
  simp [Op.equal, Op.maxDepth, run_equalIn_iface_ptr_same w 9998 a Tryd.underlying24 Tryd.underlying84 hi hc hj]
theorem eql_other {w : World} {M : Nat} {E : Nat → Addr} (h : Sent w M E) {g g' : Nat} (hg : g < M) (hg' : g' < M) (hne : g ≠ g') : (binOp .eql 24 (.iface 84 (.pointer (some (E g)))) (.iface 84 (.pointer (some (E g'))))).run Tryd.prog w = .ok (.bool false) w := by
  obtain ⟨i, hi, hc⟩ := Option.map_eq_some_iff.1 comp84
  obtain ⟨j, hj, hsz⟩ := Option.map_eq_some_iff.1 size102
  obtain ⟨ca, ta, ha⟩ := h.row g hg
  obtain ⟨cb, tb, hb⟩ := h.row g' hg'
  exact run_eql_iface_ptr_other w Tryd.underlying24 Tryd.underlying84 hi hc hj (by rw [hsz]; decide) (h.ne g g' hg hg' hne) ha hb
theorem num_nil (w : World) : Calls Tryd.prog 14 #[.nilIface] w fun e w' => e = .returned (.int .i64 (0 : Int)) ∧ w' = w := by
  go_enter Tryd.func14, Tryd.ntmps14
  go_wp2
  go_ret
  exact ⟨rfl, rfl⟩
theorem ordL_lt : ∀ i, i < 18 → ordL.getD i 0 < 18 := by decide
set_option maxRecDepth 20000 in
set_option maxHeartbeats 1000000 in
theorem num_err (g p : Nat) (E : Nat → Addr) (w : World) (hp : p < 18) (ho : ordL.getD p 0 = g) (hf : ∀ i, i < p → ordL.getD i 0 ≠ g) (hS : Hid (Sent w 18 E)) :
    Calls Tryd.prog 14 #[.iface 84 (.pointer (some (E g)))] w fun e w' => e = .returned (.int .i64 ((p : Int) + 1)) ∧ Hid (Below w.heap.size w w') := by
  have cs : ∀ g, g < 18 → w.cell? ⟨g, 0, none⟩ = some (.iface 84 (.pointer (some (E g)))) := hS.out.c
  have c0 := cs 0 (by omega)
  have c1 := cs 1 (by omega)
  have c2 := cs 2 (by omega)
  have c3 := cs 3 (by omega)
  have c4 := cs 4 (by omega)
  have c5 := cs 5 (by omega)
  have c6 := cs 6 (by omega)
  have c7 := cs 7 (by omega)
  have c8 := cs 8 (by omega)
  have c9 := cs 9 (by omega)
  have c10 := cs 10 (by omega)
  have c11 := cs 11 (by omega)
  have c12 := cs 12 (by omega)
  have c13 := cs 13 (by omega)
  have c14 := cs 14 (by omega)
  have c15 := cs 15 (by omega)
  have c16 := cs 16 (by omega)
  have c17 := cs 17 (by omega)
  clear cs
  obtain ⟨w1, hw1⟩ : ∃ w1, w1 = w.alloc (.cells #[er (E 0), er (E 2), er (E 1), er (E 4), er (E 5), er (E 6), er (E 7), er (E 8), er (E 9), er (E 10), er (E 3), er (E 11), er (E 12), er (E 13), er (E 14), er (E 15), er (E 16), er (E 17)] 24) := ⟨_, rfl⟩
  have CC : Hid (∀ i, i < 18 → w1.cell? ⟨w.heap.size, i, none⟩ = some (er (E (ordL.getD i 0)))) := by
    intro i hi
    have e : (#[er (E 0), er (E 2), er (E 1), er (E 4), er (E 5), er (E 6), er (E 7), er (E 8), er (E 9), er (E 10), er (E 3), er (E 11), er (E 12), er (E 13), er (E 14), er (E 15), er (E 16), er (E 17)] : Array Value) = (ordL.map fun g => er (E g)).toArray := rfl
    rw [hw1, e]
    have hl : i < ordL.length := hi
    simp [hl, List.getD]
  have LB : Hid (Below w.heap.size w w1) := by rw [hw1]; exact (Below.refl _ _).alloc (Nat.le_refl _) _
  have S1 : Hid (Sent w1 18 E) := hS.out.below LB.out
  have HO : Hid (ordL.getD p 0 = g ∧ ∀ i, i < p → ordL.getD i 0 ≠ g) := ⟨ho, hf⟩
  have hg : g < 18 := by rw [← ho]; exact ordL_lt p hp
  clear ho hf
  go_enter Tryd.func14, Tryd.ntmps14
  go_upto_region 4 with (fail)
  unfold er at hw1
  rw [← hw1]
  clear hw1 c0 c1 c2 c3 c4 c5 c6 c7 c8 c9 c10 c11 c12 c13 c14 c15 c16 c17
  obtain ⟨q, Hq⟩ : ∃ q, Hid (w.heap.size = q) := ⟨_, rfl⟩
  rw [Hq.out] at CC ⊢
  go_wp2
  go_loop [29] (fun ti => ∃ i : Nat, i ≤ p ∧ ti = .int .i64 (i : Int)) (fun ti => 18 - (intOf ti).toNat)
  case atStart => exact ⟨0, by omega, rfl⟩
  case round =>
    obtain ⟨i, hi, rfl⟩ := hrel
    have ci := CC.out i (by omega)
    unfold er at ci
    have i1 : (i : Int) < 18 := by omega
    by_cases hip : i = p
    · subst hip
      rw [HO.out.1] at ci
      have eq := eql_same w1 (E g)
      go_wp2
      go_ret
      exact ⟨rfl, LB.out⟩
    · have hne := HO.out.2 i (by omega)
      have eq := eql_other S1.out hg (ordL_lt i (by omega)) (fun e => hne e.symm)
      obtain ⟨o, Ho⟩ : ∃ o, Hid (ordL.getD i 0 = o) := ⟨_, rfl⟩
      rw [Ho.out] at ci eq
      clear hne
      go_wp2
      go_round
      case rel => exact ⟨i + 1, by omega, by go_num⟩
      case measure => simp [intOf]; omega
end Go.Proofs.YtokkjdgfhpocdaaDoor
