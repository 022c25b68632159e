/- What the laws' own SameLists does on two rows of rows that read alike, and what both Encodes answer where the numbers are not right. -/
import Derived.Test.YtokkjdgfhpocdaaDoorEy
import Derived.Test.YtokkjdgfhpocdaaDoorEo
namespace Go.Proofs.YtokkjdgfhpocdaaDoor
open Go.ChangeShapes Go.WideShapes Go.ChangeAt Go.RowKit
set_option linter.unusedVariables false
set_option linter.unusedSimpArgs false
theorem encode_bad (k m : Int) (n c : Nat) (a : Option Addr) (wk : (Lit.int .i64 k).wf = true) (wm : (Lit.int .i64 m).wf = true) (wn : (Lit.int .i64 (n : Int)).wf = true) (hn : n ≤ 140737488351232) (j : Nat) (h : errNo k m n = j + 1) (w : World) (E : Nat → Addr) (hE : Hid (Errs w E)) :
    Calls Tryd.prog 16 #[.int .i64 k, .int .i64 m, .slice a n c] w fun e w' => e = .returned (.tuple #[.slice none 0 0, .iface 84 (.pointer (some (E j)))]) ∧ Hid (∃ q, w' = w.drewN q) := by
  have HJ : Hid (errNo k m n = j + 1) := h
  clear h
  go_enter Tryd.func16, Tryd.ntmps16
  go_wp2_with (go_at_call 12; refine (size_err k m n wk wm wn j HJ.out _ E hE).mono ?_; rintro e w1 ⟨rfl, H1⟩)
  go_ret2
  exact ⟨rfl, H1.out⟩
theorem refencode_bad (k m : Int) (n c : Nat) (a : Option Addr) (wk : (Lit.int .i64 k).wf = true) (wm : (Lit.int .i64 m).wf = true) (wn : (Lit.int .i64 (n : Int)).wf = true) (hn : n ≤ 140737488351232) (x : Int) (h : ¬ Lgl k m ∧ x = 1 ∨ Lgl k m ∧ 1024 < (n : Int) ∧ x = 11) (w : World) :
    Calls Tryd.prog 17 #[.int .i64 k, .int .i64 m, .slice a n c] w fun e w' => e = .returned (.tuple #[.slice none 0 0, .int .i64 x]) ∧ w' = w := by
  have RS : Hid (∀ w, Calls Tryd.prog 13 #[.int .i64 k, .int .i64 m, .int .i64 (n : Int)] w fun e w' => e = .returned (.tuple #[.int .i64 (0 : Int), .int .i64 x]) ∧ w' = w) := fun w => refsize_bad k m n wk wm wn x (h.imp id .inr) w
  have hx0 : (x == 0) = false := by rcases h with ⟨_, rfl⟩ | ⟨_, _, rfl⟩ <;> rfl
  clear h
  go_enter Tryd.func17, Tryd.ntmps17
  go_wp2_with (go_at_call 13; refine (RS.out _).mono ?_; rintro e w0 ⟨rfl, h0⟩; rw [h0]; clear h0)
  go_ret2
  exact ⟨rfl, rfl⟩
theorem sameLists_nil (w : World) : Calls Tryd.prog 18 #[.slice none 0 0, .slice none 0 0] w fun e w' => e = .returned (.bool true) ∧ w' = w := by
  go_enter Tryd.func18, Tryd.ntmps18
  go_wp2
  refine wp_loop_rounds 1 ?_
  rw [rounds_succ]
  go_wp2
  go_ret
  exact ⟨rfl, rfl⟩
theorem Lst.drewN' {w : World} {g n : Nat} {R : List (List Nat)} (h : Lst w g n R) (q : Nat) : Lst (w.drewN q) g n R := h.below (below_drewN (Below.refl _ _) q)
set_option maxRecDepth 20000 in
set_option maxHeartbeats 1000000 in
theorem sameLists_n (g1 g2 c1 c2 s N : Nat) (R : List (List Nat)) (w : World) (hN : N ≤ 1000) (hs : s ≤ 1100) (HN : Hid (R.length = N)) (L1 : Hid (Lst w g1 s R)) (L2 : Hid (Lst w g2 s R)) :
    Calls Tryd.prog 18 #[.slice (some ⟨g1, 0, none⟩) N c1, .slice (some ⟨g2, 0, none⟩) N c2] w fun e w' => e = .returned (.bool true) ∧ Hid (∃ q, w' = w.drewN q) := by
  go_enter Tryd.func18, Tryd.ntmps18
  go_wp2
  go_loopw [13] (fun ti wr => ∃ i : Nat, i ≤ N ∧ ti = .int .i64 (i : Int) ∧ Hid (∃ q, wr = w.drewN q)) (fun ti _ => N - (intOf ti).toNat)
  case atStart => exact ⟨0, by omega, rfl, 0, rfl⟩
  case round =>
    obtain ⟨i, hi, rfl, HQ⟩ := hrel
    by_cases hlt : i < N
    · obtain ⟨q, hq⟩ := HQ.out
      have iR : i < R.length := by rw [HN.out]; exact hlt
      have R1 : ∀ j, Lst (wr.drewN j) g1 s R := fun j => by rw [hq]; exact (L1.out.drewN' q).drewN' j
      have R2 : ∀ j, Lst (wr.drewN j) g2 s R := fun j => by rw [hq]; exact (L2.out.drewN' q).drewN' j
      obtain ⟨b1, f1, B1⟩ := (R1 0).c i iR
      obtain ⟨b2, f2, B2⟩ := (R2 0).c i iR
      have e1 : wr.cell? ⟨g1, i, none⟩ = some (.slice (some ⟨b1, 0, none⟩) s s) := f1
      have e2 : wr.cell? ⟨g2, i, none⟩ = some (.slice (some ⟨b2, 0, none⟩) s s) := f2
      have rl := (R1 0).rl i iR
      have rt := (R1 0).lt i iR
      have S1 : ∀ j, Hid (Sln (wr.drewN j) (some ⟨b1, 0, none⟩) s (R.getD i [])) := fun j => ⟨rl.symm, B1.sli rt (by omega)⟩
      have S2 : ∀ j, Hid (Sln (wr.drewN j) (some ⟨b2, 0, none⟩) s (R.getD i [])) := fun j => ⟨rl.symm, B2.sli rt (by omega)⟩
      have v1 : ∀ j, (convert 33 9 (.slice (some ⟨b1, 0, none⟩) s s)).run Tryd.prog (wr.drewN j) = .ok (.string (spell (R.getD i []))) (wr.drewN j) := fun j => conv_n (S1 j)
      have v2 : ∀ j, (convert 33 9 (.slice (some ⟨b2, 0, none⟩) s s)).run Tryd.prog (wr.drewN j) = .ok (.string (spell (R.getD i []))) (wr.drewN j) := fun j => conv_n (S2 j)
      obtain ⟨t, Ht⟩ : ∃ t, Hid (spell (R.getD i []) = t) := ⟨_, rfl⟩
      rw [Ht.out] at v1 v2
      have i1 : (i : Int) < (N : Int) := by omega
      clear R1 R2 f1 f2 B1 B2 S1 S2 rl rt hq
      go_wp2
      go_quiet (fail)
      have Q7 : Hid (∃ q, wr.drewN nq = w.drewN q) := by
        obtain ⟨q2, hq2⟩ := HQ.out
        rw [hq2]; exact ⟨_, World.drewN_drewN _ _ _⟩
      clear v1 v2 e1 e2 HQ
      go_wp2
      go_roundw
      case rel => exact ⟨i + 1, by omega, by go_num, Q7.out⟩
      case measure => simp [intOf]; omega
    · have e : i = N := by omega
      subst e
      go_wp2
      go_ret
      exact ⟨rfl, HQ.out⟩
end Go.Proofs.YtokkjdgfhpocdaaDoor
