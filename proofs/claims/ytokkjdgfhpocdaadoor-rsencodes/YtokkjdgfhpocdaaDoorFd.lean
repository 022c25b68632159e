/- What the Go function RsEncodes does where the numbers are wrong: it returns true, and changes nothing that was there. -/
import Derived.Test.YtokkjdgfhpocdaaDoorFc
import Derived.Test.YtokkjdgfhpocdaaDoorEo
namespace Go.Proofs.YtokkjdgfhpocdaaDoor
open Go.ChangeShapes Go.WideShapes Go.ChangeAt Go.RowKit
set_option linter.unusedVariables false
set_option linter.unusedSimpArgs false
set_option maxRecDepth 40000 in
set_option maxHeartbeats 4000000 in
theorem encodes_bad (k m : Int) (n c : Nat) (a : Option Addr) (data : List Nat) (w : World) (wk : (Lit.int .i64 k).wf = true) (wm : (Lit.int .i64 m).wf = true) (wn : (Lit.int .i64 (n : Int)).wf = true) (hn : n ≤ 140737488351232) (j p : Nat) (hj : errNo k m n = j + 1) (hp : p < 18) (ho : ordL.getD p 0 = j) (hf : ∀ i, i < p → ordL.getD i 0 ≠ j) (hc : ¬ Lgl k m ∧ (p : Int) + 1 = 1 ∨ Lgl k m ∧ 1024 < (n : Int) ∧ (p : Int) + 1 = 11) (S : Hid (Sln w a n data)) (hk0 : Hid (a = none → c = 0)) (E : Nat → Addr) (hS : Hid (Sent w 18 E)) :
    Calls Tryd.prog 4 #[.int .i64 k, .int .i64 m, .slice a n c] w fun e w' => e = .returned (.bool true) ∧ Hid (Below w.heap.size w w') := by
  obtain ⟨x, Hx⟩ : ∃ x, Hid ((p : Int) + 1 = x) := ⟨_, rfl⟩
  have RE : Hid (∀ w, Calls Tryd.prog 17 #[.int .i64 k, .int .i64 m, .slice a n c] w fun e w' => e = .returned (.tuple #[.slice none 0 0, .int .i64 x]) ∧ w' = w) := fun w => refencode_bad k m n c a wk wm wn hn x (by rw [← Hx.out]; exact hc) w
  have NE : Hid (∀ w, Hid (Sent w 18 E) → Calls Tryd.prog 14 #[.iface 84 (.pointer (some (E j)))] w fun e w' => e = .returned (.int .i64 x) ∧ Hid (Below w.heap.size w w')) := fun w h => by rw [← Hx.out]; exact num_err j p E w hp ho hf h
  have HJ : Hid (errNo k m n = j + 1) := hj
  have HN0 : Hid (n ≤ 140737488351232) := hn
  clear hj hc ho hf hn
  go_enter Tryd.func4, Tryd.ntmps4
  go_upto_region 8 with (first | (go_at_call 9; refine (alive_any _).mono ?_; rintro e w1 ⟨rfl, H1⟩; have S1 : Hid (Sln w1 a n data) := S.out.below H1.out; have T1 : Hid (Sent w1 18 E) := hS.out.below H1.out) | (go_at_call 15; refine (bytes_n S1 hk0).mono ?_; rintro e w2 ⟨gi, N, rfl, H2⟩; have HN : Hid (N = n + 6) := H2.out.1; have S2 : Hid (Sln w2 a n data) := S1.out.below H2.out.2.2.2; have T2 : Hid (Sent w2 18 E) := T1.out.below H2.out.2.2.2; have E2 : Hid (Errs w2 E) := T2.out.errs (by omega); have B2 : Hid (Below w.heap.size w w2) := H1.out.trans (H2.out.2.2.2.mono H1.out.size); have K2 : Hid (Blk w2 gi (data ++ marks)) := H2.out.2.2.1) | (go_at_call 16; refine (encode_bad k m n N (some ⟨gi, 0, none⟩) wk wm wn HN0.out j HJ.out _ E E2).mono ?_; rintro e w3 ⟨rfl, hq⟩; have Q3 : Hid (Below w2.heap.size w2 w3) := (by obtain ⟨q, rfl⟩ := hq.out; exact below_drewN (Below.refl _ _) q); have T3 : Hid (Sent w3 18 E) := T2.out.below Q3.out) | (go_at_call 17; refine (RE.out _).mono ?_; rintro e w0 ⟨rfl, h0⟩; rw [h0]; clear h0) | (go_at_call 14; refine (NE.out _ T3).mono ?_; rintro e w4 ⟨rfl, H4⟩; have Q4 : Hid (Below w2.heap.size w2 w4) := Q3.out.trans (H4.out.mono Q3.out.size); have S4 : Hid (Sln w4 a n data) := S2.out.below Q4.out; have K4 : Hid (Blk w4 gi (data ++ marks)) := K2.out.below Q4.out K2.out.lt) | (go_at_call 18; refine (sameLists_nil _).mono ?_; rintro e w0 ⟨rfl, h0⟩; rw [h0]; clear h0) | (go_at_call 19; refine (kept_n K4 HN S4).mono ?_; rintro e w6 ⟨rfl, hQ6⟩; have Q6 : Hid (Below w2.heap.size w2 w6) := (by obtain ⟨q, rfl⟩ := hQ6.out; exact below_drewN Q4.out q); have S6 : Hid (Sln w6 a n data) := S2.out.below Q6.out; have K6 : Hid (Blk w6 gi (data ++ marks)) := K2.out.below Q6.out K2.out.lt))
  clear hQ6 hq H4 H2 H1 S4 K4 S1 T1 T2 T3 E2
  go_wp2
  refine wp_loop_rounds 1 ?_
  rw [rounds_succ]
  go_wp2_with (go_at_call 19; refine (kept_n K6 HN S6).mono ?_; rintro e w7 ⟨rfl, hQ7⟩)
  go_ret
  obtain ⟨q, rfl⟩ := hQ7.out
  exact ⟨rfl, below_drewN (B2.out.trans (Q6.out.mono B2.out.size)) q⟩
end Go.Proofs.YtokkjdgfhpocdaaDoor
