/- What the Go function RsFew does where the numbers are wrong, the list is not good, or k is 1: it returns true, and changes nothing that was there. -/
import Derived.Test.YtokkjdgfhpocdaaDoorGh
namespace Go.Proofs.YtokkjdgfhpocdaaDoor
open Go.ChangeShapes Go.WideShapes Go.ChangeAt Go.RowKit
set_option linter.unusedVariables false
set_option linter.unusedSimpArgs false
set_option linter.unnecessarySimpa false
set_option maxRecDepth 20000 in
set_option maxHeartbeats 1000000 in
theorem few_num (k m n num dr x : Int) (nl c : Nat) (a : Option Addr) (w : World) (wk : (Lit.int .i64 k).wf = true) (wm : (Lit.int .i64 m).wf = true) (wn : (Lit.int .i64 n).wf = true) (hx : ¬ Lgl k m ∧ x = 1 ∨ Lgl k m ∧ n < 0 ∧ x = 2 ∨ Lgl k m ∧ 1024 < n ∧ x = 11) :
    Calls Tryd.prog 8 #[.agg #[.int .i64 k, .int .i64 m, .int .i64 n, .int .i64 num, .slice a nl c], .int .i64 dr] w fun e w' => e = .returned (.bool true) ∧ Hid (Below w.heap.size w w') := by
  have RS : Hid (∀ w, Calls Tryd.prog 13 #[.int .i64 k, .int .i64 m, .int .i64 n] w fun e w' => e = .returned (.tuple #[.int .i64 (0 : Int), .int .i64 x]) ∧ w' = w) := fun w => refsize_bad k m n wk wm wn x hx w
  have x0 : (x == 0) = false := by
    rcases hx with ⟨_, rfl⟩ | ⟨_, _, rfl⟩ | ⟨_, _, rfl⟩ <;> rfl
  have x1 : ¬ (x = 0) := by
    rcases hx with ⟨_, rfl⟩ | ⟨_, _, rfl⟩ | ⟨_, _, rfl⟩ <;> omega
  have x2 : (x != 0) = true := by
    rcases hx with ⟨_, rfl⟩ | ⟨_, _, rfl⟩ | ⟨_, _, rfl⟩ <;> rfl
  clear hx
  go_enter Tryd.func8, Tryd.ntmps8
  go_upto_region 3 with (go_at_call 9; refine (alive_any _).mono ?_; rintro e w1 ⟨rfl, H1⟩)
  have HX : Hid (Bx w1 w.heap.size (.int .i64 k) (.int .i64 m) (.int .i64 n) (.int .i64 num) (.slice a nl c)) := (Bx.new w _ _ _ _ _ _).below H1.out
  have HBL : Hid (Below w.heap.size w w1) := ((Below.refl w.heap.size w).alloc (Nat.le_refl _) _).trans (H1.out.mono (by simp))
  clear H1
  obtain ⟨p, Hp⟩ : ∃ p, Hid (w.heap.size = p) := ⟨_, rfl⟩
  rw [Hp.out] at HX ⊢
  have c0 := HX.out.c0
  have c1 := HX.out.c1
  have c2 := HX.out.c2
  have c4 := HX.out.c4
  go_wp2_with (go_at_call 13; refine (RS.out _).mono ?_; rintro e w0 ⟨rfl, h0⟩; rw [h0]; clear h0)
  all_goals
    go_ret
    exact ⟨rfl, HBL.out⟩
set_option maxRecDepth 20000 in
set_option maxHeartbeats 1000000 in
theorem few_not (k m n nl c : Nat) (num dr : Int) (a : Option Addr) (L : List (Int × List Nat)) (w : World) (h1 : 1 ≤ m) (h2 : m ≤ k) (h3 : k + m ≤ 16) (hn : n ≤ 1024) (S : Hid (Shd w a nl L)) (HG : Hid (¬ (nl = k ∧ GoodL (k + m) (sz k n) L))) :
    Calls Tryd.prog 8 #[.agg #[.int .i64 (k : Int), .int .i64 (m : Int), .int .i64 (n : Int), .int .i64 num, .slice a nl c], .int .i64 dr] w fun e w' => e = .returned (.bool true) ∧ Hid (Below w.heap.size w w') := by
  have hs := sz_le k n (by omega) (by omega) hn
  obtain ⟨s, Hs⟩ : ∃ s, Hid (sz k n = s) := ⟨_, rfl⟩
  rw [Hs.out] at hs
  have hs : s ≤ 1100 := by omega
  have RS : Hid (∀ w, Calls Tryd.prog 13 #[.int .i64 (k : Int), .int .i64 (m : Int), .int .i64 (n : Int)] w fun e w' => e = .returned (.tuple #[.int .i64 (s : Int), .int .i64 (0 : Int)]) ∧ w' = w) := by
    intro w
    have h := refsize_ok k m n h1 h2 h3 hn w
    rw [Hs.out] at h
    exact h
  rw [Hs.out] at HG
  go_enter Tryd.func8, Tryd.ntmps8
  go_upto_region 3 with (go_at_call 9; refine (alive_any _).mono ?_; rintro e w1 ⟨rfl, H1⟩)
  have HX : Hid (Bx w1 w.heap.size (.int .i64 (k : Int)) (.int .i64 (m : Int)) (.int .i64 (n : Int)) (.int .i64 num) (.slice a nl c)) := (Bx.new w _ _ _ _ _ _).below H1.out
  have HBL : Hid (Below w.heap.size w w1) := ((Below.refl w.heap.size w).alloc (Nat.le_refl _) _).trans (H1.out.mono (by simp))
  clear H1
  obtain ⟨p, Hp⟩ : ∃ p, Hid (w.heap.size = p) := ⟨_, rfl⟩
  rw [Hp.out] at HX ⊢
  have c0 := HX.out.c0
  have c1 := HX.out.c1
  have c2 := HX.out.c2
  have c4 := HX.out.c4
  have S1 : Hid (Shd w1 a nl L) := S.out.below HBL.out
  go_wp2_with (first | (go_at_call 13; refine (RS.out _).mono ?_; rintro e w0 ⟨rfl, h0⟩; rw [h0]; clear h0) | (go_at_call 26; refine (good_f k m s nl c a L _ (by omega) h3 hs S1 HG).mono ?_; rintro e w2 ⟨rfl, H2⟩; have X2 : Hid (Bx w2 p (.int .i64 (k : Int)) (.int .i64 (m : Int)) (.int .i64 (n : Int)) (.int .i64 num) (.slice a nl c)) := HX.out.below H2.out; have d0 := X2.out.c0))
  all_goals
    go_ret
    exact ⟨rfl, HBL.out.trans (H2.out.mono HBL.out.size)⟩
set_option maxRecDepth 20000 in
set_option maxHeartbeats 1000000 in
theorem few_one (k m n c : Nat) (num dr : Int) (a : Option Addr) (L : List (Int × List Nat)) (w : World) (h1 : 1 ≤ m) (h2 : m ≤ k) (h3 : k + m ≤ 16) (hn : n ≤ 1024) (hk2 : k < 2) (S : Hid (Shd w a k L)) (HG : Hid (GoodL (k + m) (sz k n) L)) :
    Calls Tryd.prog 8 #[.agg #[.int .i64 (k : Int), .int .i64 (m : Int), .int .i64 (n : Int), .int .i64 num, .slice a k c], .int .i64 dr] w fun e w' => e = .returned (.bool true) ∧ Hid (Below w.heap.size w w') := by
  have hs := sz_le k n (by omega) (by omega) hn
  obtain ⟨s, Hs⟩ : ∃ s, Hid (sz k n = s) := ⟨_, rfl⟩
  rw [Hs.out] at hs
  have hs : s ≤ 1100 := by omega
  have RS : Hid (∀ w, Calls Tryd.prog 13 #[.int .i64 (k : Int), .int .i64 (m : Int), .int .i64 (n : Int)] w fun e w' => e = .returned (.tuple #[.int .i64 (s : Int), .int .i64 (0 : Int)]) ∧ w' = w) := by
    intro w
    have h := refsize_ok k m n h1 h2 h3 hn w
    rw [Hs.out] at h
    exact h
  rw [Hs.out] at HG
  have k2 : (k : Int) < 2 := by omega
  go_enter Tryd.func8, Tryd.ntmps8
  go_upto_region 3 with (go_at_call 9; refine (alive_any _).mono ?_; rintro e w1 ⟨rfl, H1⟩)
  have HX : Hid (Bx w1 w.heap.size (.int .i64 (k : Int)) (.int .i64 (m : Int)) (.int .i64 (n : Int)) (.int .i64 num) (.slice a k c)) := (Bx.new w _ _ _ _ _ _).below H1.out
  have HBL : Hid (Below w.heap.size w w1) := ((Below.refl w.heap.size w).alloc (Nat.le_refl _) _).trans (H1.out.mono (by simp))
  clear H1
  obtain ⟨p, Hp⟩ : ∃ p, Hid (w.heap.size = p) := ⟨_, rfl⟩
  rw [Hp.out] at HX ⊢
  have c0 := HX.out.c0
  have c1 := HX.out.c1
  have c2 := HX.out.c2
  have c4 := HX.out.c4
  have S1 : Hid (Shd w1 a k L) := S.out.below HBL.out
  go_wp2_with (first | (go_at_call 13; refine (RS.out _).mono ?_; rintro e w0 ⟨rfl, h0⟩; rw [h0]; clear h0) | (go_at_call 26; refine (good_t k m s c a L _ (by omega) h3 hs S1 HG).mono ?_; rintro e w2 ⟨rfl, H2⟩; have X2 : Hid (Bx w2 p (.int .i64 (k : Int)) (.int .i64 (m : Int)) (.int .i64 (n : Int)) (.int .i64 num) (.slice a k c)) := HX.out.below H2.out; have d0 := X2.out.c0))
  all_goals
    go_ret
    exact ⟨rfl, HBL.out.trans (H2.out.mono HBL.out.size)⟩
end Go.Proofs.YtokkjdgfhpocdaaDoor
