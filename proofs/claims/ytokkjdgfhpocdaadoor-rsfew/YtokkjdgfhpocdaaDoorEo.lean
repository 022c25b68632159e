/- What the Go function RsSizes does, for all integers: it returns true, and changes nothing that was there. -/
import Derived.Test.YtokkjdgfhpocdaaDoorEn
namespace Go.Proofs.YtokkjdgfhpocdaaDoor
open Go.ChangeShapes Go.WideShapes Go.ChangeAt Go.RowKit
set_option linter.unusedVariables false
set_option linter.unusedSimpArgs false
theorem size_err (k m n : Int) (hk : (Lit.int .i64 k).wf = true) (hm : (Lit.int .i64 m).wf = true) (hn : (Lit.int .i64 n).wf = true) (j : Nat) (h : errNo k m n = j + 1) (w : World) (E : Nat → Addr) (hE : Hid (Errs w E)) :
    Calls Tryd.prog 12 #[.int .i64 k, .int .i64 m, .int .i64 n] w fun e w' => e = .returned (.tuple #[.int .i64 (0 : Int), .iface 84 (.pointer (some (E j)))]) ∧ Hid (∃ q, w' = w.drewN q) := by
  have h0 := size_bad k m n hk hm hn (by omega) w E hE
  rw [h] at h0
  exact h0
theorem Sent.drewN {w : World} {M : Nat} {E : Nat → Addr} (h : Sent w M E) (q : Nat) : Sent (w.drewN q) M E := h.below (below_drewN (Below.refl _ _) q)
set_option maxRecDepth 20000 in
set_option maxHeartbeats 1000000 in
theorem sizes_ok (k m n : Nat) (h1 : 1 ≤ m) (h2 : m ≤ k) (h3 : k + m ≤ 16) (hn : n ≤ 1024) (w : World) :
    Calls Tryd.prog 3 #[.int .i64 (k : Int), .int .i64 (m : Int), .int .i64 (n : Int)] w fun e w' => e = .returned (.bool true) ∧ Hid (Below w.heap.size w w') := by
  obtain ⟨s, Hs⟩ : ∃ s, Hid (sz k n = s) := ⟨_, rfl⟩
  have RS : Hid (∀ w, Calls Tryd.prog 13 #[.int .i64 (k : Int), .int .i64 (m : Int), .int .i64 (n : Int)] w fun e w' => e = .returned (.tuple #[.int .i64 (s : Int), .int .i64 (0 : Int)]) ∧ w' = w) := by
    intro w
    have h := refsize_ok k m n h1 h2 h3 hn w
    rw [Hs.out] at h
    exact h
  go_enter Tryd.func3, Tryd.ntmps3
  go_wp2_with (first | (go_at_call 9; refine (alive_any _).mono ?_; rintro e w1 ⟨rfl, H1⟩) | (go_at_call 10; refine (check_ok k m h1 h2 h3 _).mono ?_; rintro e w0 ⟨rfl, h0⟩; rw [h0]; clear h0))
  go_quiet ((go_at_call 11; exact Calls.quiet_of_same (legal_t k m h1 h2 h3 _)))
  have L2 : Hid (Below w.heap.size w (w1.drewN nq)) := below_drewN H1.out nq
  obtain ⟨w2, hw2⟩ : ∃ w2, w2 = w1.drewN nq := ⟨_, rfl⟩
  rw [← hw2] at L2 ⊢
  clear hw2
  go_wp2_with (first | (go_at_call 12; refine (size_s k m n s h1 h2 h3 hn Hs _).mono ?_; rintro e w0 ⟨rfl, h0⟩; rw [h0]; clear h0) | (go_at_call 13; refine (RS.out _).mono ?_; rintro e w0 ⟨rfl, h0⟩; rw [h0]; clear h0) | (go_at_call 14; refine (num_nil _).mono ?_; rintro e w0 ⟨rfl, h0⟩; rw [h0]; clear h0))
  go_ret
  exact ⟨rfl, L2.out⟩
set_option maxRecDepth 20000 in
set_option maxHeartbeats 1000000 in
theorem sizes_legal (k m : Nat) (n : Int) (hn : (Lit.int .i64 n).wf = true) (h1 : 1 ≤ m) (h2 : m ≤ k) (h3 : k + m ≤ 16) (j p : Nat) (hj : errNo k m n = j + 1) (hp : p < 18) (ho : ordL.getD p 0 = j) (hf : ∀ i, i < p → ordL.getD i 0 ≠ j) (hc : Lgl k m ∧ n < 0 ∧ (p : Int) + 1 = 2 ∨ Lgl k m ∧ 1024 < n ∧ (p : Int) + 1 = 11) (w : World) (E : Nat → Addr) (hS : Hid (Sent w 18 E)) :
    Calls Tryd.prog 3 #[.int .i64 (k : Int), .int .i64 (m : Int), .int .i64 n] w fun e w' => e = .returned (.bool true) ∧ Hid (Below w.heap.size w w') := by
  have wk : (Lit.int .i64 (k : Int)).wf = true := by
    have : k < 17 := by omega
    clear hj hc h2 h3
    revert k; decide
  have wm : (Lit.int .i64 (m : Int)).wf = true := by
    have : m < 17 := by omega
    clear hj hc h2 h3 h1
    revert m; decide
  have RS : Hid (∀ w, Calls Tryd.prog 13 #[.int .i64 (k : Int), .int .i64 (m : Int), .int .i64 n] w fun e w' => e = .returned (.tuple #[.int .i64 (0 : Int), .int .i64 ((p : Int) + 1)]) ∧ w' = w) := fun w => refsize_bad k m n wk wm hn _ (.inr hc) w
  have NE : Hid (∀ w, Hid (Sent w 18 E) → Calls Tryd.prog 14 #[.iface 84 (.pointer (some (E j)))] w fun e w' => e = .returned (.int .i64 ((p : Int) + 1)) ∧ Hid (Below w.heap.size w w')) := fun w h => num_err j p E w hp ho hf h
  have HJ : Hid (errNo k m n = j + 1) := hj
  clear hj hc ho hf
  go_enter Tryd.func3, Tryd.ntmps3
  go_wp2_with (first | (go_at_call 9; refine (alive_any _).mono ?_; rintro e w1 ⟨rfl, H1⟩) | (go_at_call 10; refine (check_ok k m h1 h2 h3 _).mono ?_; rintro e w0 ⟨rfl, h0⟩; rw [h0]; clear h0))
  go_quiet ((go_at_call 11; exact Calls.quiet_of_same (legal_t k m h1 h2 h3 _)))
  have L2 : Hid (Below w.heap.size w (w1.drewN nq)) := below_drewN H1.out nq
  have S2 : Hid (Sent (w1.drewN nq) 18 E) := (hS.out.below H1.out).drewN nq
  obtain ⟨w2, hw2⟩ : ∃ w2, w2 = w1.drewN nq := ⟨_, rfl⟩
  rw [← hw2] at L2 S2 ⊢
  clear hw2
  have E2 : Hid (Errs w2 E) := S2.out.errs (by omega)
  go_wp2_with (first | (go_at_call 12; refine (size_err k m n wk wm hn j HJ.out _ E E2).mono ?_; rintro e w3 ⟨rfl, hq⟩; have L3 : Hid (Below w.heap.size w w3) := (by obtain ⟨q, rfl⟩ := hq.out; exact below_drewN L2.out q); have S3 : Hid (Sent w3 18 E) := (by obtain ⟨q, rfl⟩ := hq.out; exact S2.out.drewN q)) | (go_at_call 13; refine (RS.out _).mono ?_; rintro e w0 ⟨rfl, h0⟩; rw [h0]; clear h0) | (go_at_call 14; refine (NE.out _ S3).mono ?_; rintro e w4 ⟨rfl, H4⟩))
  go_ret
  exact ⟨rfl, L3.out.trans (H4.out.mono L3.out.size)⟩
set_option maxRecDepth 20000 in
set_option maxHeartbeats 1000000 in
theorem sizes_not (k m n : Int) (hk : (Lit.int .i64 k).wf = true) (hm : (Lit.int .i64 m).wf = true) (hn : (Lit.int .i64 n).wf = true) (hL : ¬ Lgl k m) (w : World) (E : Nat → Addr) (hS : Hid (Sent w 18 E)) :
    Calls Tryd.prog 3 #[.int .i64 k, .int .i64 m, .int .i64 n] w fun e w' => e = .returned (.bool true) ∧ Hid (Below w.heap.size w w') := by
  have RS : Hid (∀ w, Calls Tryd.prog 13 #[.int .i64 k, .int .i64 m, .int .i64 n] w fun e w' => e = .returned (.tuple #[.int .i64 (0 : Int), .int .i64 (1 : Int)]) ∧ w' = w) := fun w => refsize_bad k m n hk hm hn 1 (.inl ⟨hL, rfl⟩) w
  have NE : Hid (∀ w, Hid (Sent w 18 E) → Calls Tryd.prog 14 #[.iface 84 (.pointer (some (E 0)))] w fun e w' => e = .returned (.int .i64 (1 : Int)) ∧ Hid (Below w.heap.size w w')) := fun w h => num_err 0 0 E w (by omega) rfl (fun i hi => by omega) h
  have HJ : Hid (errNo k m n = 0 + 1) := (by simp [errNo, hL] : errNo k m n = 0 + 1)
  have HL : Hid (¬ Lgl k m) := hL
  clear hL
  go_enter Tryd.func3, Tryd.ntmps3
  go_wp2_with (first | (go_at_call 9; refine (alive_any _).mono ?_; rintro e w1 ⟨rfl, H1⟩; have S1 : Hid (Sent w1 18 E) := hS.out.below H1.out; have E1 : Hid (Errs w1 E) := S1.out.errs (by omega)) | (go_at_call 10; refine (check_bad k m hk hm HL.out _ E E1).mono ?_; rintro e w0 ⟨rfl, h0⟩; rw [h0]; clear h0))
  have c0 := S1.out.c 0 (by omega)
  unfold er at c0
  have nq0 : ∀ j, (binOp .neq 24 (.iface 84 (.pointer (some (E 0)))) (.iface 84 (.pointer (some (E 0))))).run Tryd.prog (w1.drewN j) = .ok (.bool false) (w1.drewN j) := fun j => neq_same _ _
  go_quiet ((go_at_call 11; exact Calls.quiet_of_same (legal_f k m hk hm HL.out _)))
  have L2 : Hid (Below w.heap.size w (w1.drewN nq)) := below_drewN H1.out nq
  have S2 : Hid (Sent (w1.drewN nq) 18 E) := S1.out.drewN nq
  clear nq0 c0 E1 S1
  obtain ⟨w2, hw2⟩ : ∃ w2, w2 = w1.drewN nq := ⟨_, rfl⟩
  rw [← hw2] at L2 S2 ⊢
  clear hw2
  have E2 : Hid (Errs w2 E) := S2.out.errs (by omega)
  go_wp2_with (first | (go_at_call 12; refine (size_err k m n hk hm hn 0 HJ.out _ E E2).mono ?_; rintro e w3 ⟨rfl, hq⟩; have L3 : Hid (Below w.heap.size w w3) := (by obtain ⟨q, rfl⟩ := hq.out; exact below_drewN L2.out q); have S3 : Hid (Sent w3 18 E) := (by obtain ⟨q, rfl⟩ := hq.out; exact S2.out.drewN q)) | (go_at_call 13; refine (RS.out _).mono ?_; rintro e w0 ⟨rfl, h0⟩; rw [h0]; clear h0) | (go_at_call 14; refine (NE.out _ S3).mono ?_; rintro e w4 ⟨rfl, H4⟩))
  go_ret
  exact ⟨rfl, L3.out.trans (H4.out.mono L3.out.size)⟩
theorem sizes_any (k m n : Int) (hk : (Lit.int .i64 k).wf = true) (hm : (Lit.int .i64 m).wf = true) (hn : (Lit.int .i64 n).wf = true) (w : World) (E : Nat → Addr) (hS : Hid (Sent w 18 E)) :
    Calls Tryd.prog 3 #[.int .i64 k, .int .i64 m, .int .i64 n] w fun e w' => e = .returned (.bool true) ∧ Hid (Below w.heap.size w w') := by
  by_cases hL : Lgl k m
  · have hL2 := hL
    unfold Lgl at hL2
    obtain ⟨k', rfl⟩ : ∃ k' : Nat, k = (k' : Int) := ⟨k.toNat, by omega⟩
    obtain ⟨m', rfl⟩ : ∃ m' : Nat, m = (m' : Int) := ⟨m.toNat, by omega⟩
    by_cases h0 : n < 0
    · exact sizes_legal k' m' n hn (by omega) (by omega) (by omega) 2 1 (by simp [errNo, hL, h0]) (by omega) rfl (by decide) (.inl ⟨hL, h0, rfl⟩) w E hS
    · by_cases h1 : 1024 < n
      · exact sizes_legal k' m' n hn (by omega) (by omega) (by omega) 3 10 (by simp [errNo, hL, h0, h1]) (by omega) rfl (by decide) (.inr ⟨hL, h1, rfl⟩) w E hS
      · obtain ⟨n', rfl⟩ : ∃ n' : Nat, n = (n' : Int) := ⟨n.toNat, by omega⟩
        exact sizes_ok k' m' n' (by omega) (by omega) (by omega) (by omega) w
  · exact sizes_not k m n hk hm hn hL w E hS
end Go.Proofs.YtokkjdgfhpocdaaDoor
