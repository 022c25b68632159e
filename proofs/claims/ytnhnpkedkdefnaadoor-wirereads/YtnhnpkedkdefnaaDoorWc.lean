/- What a Reader's piece, Text and Bytes do to a machine. -/
import Derived.Test.YtnhnpkedkdefnaaDoorWb
namespace Go.Proofs.YtnhnpkedkdefnaaDoor
open Go.ChangeShapes Go.WideShapes Go.ChangeAt Go.RowKit
set_option linter.unusedVariables false
set_option linter.unusedSimpArgs false
set_option maxHeartbeats 2000000 in
theorem piece_ok {w : World} {g B : Nat} {a : Option Addr} {n c : Nat} {l : List Nat} {p N S : Nat} {z : Int} (hR : Hid (Rdr w g B a n c l p)) (hN : Hid (nat 9 (l.drop p) 0 0 = (N, S, true))) (hz : (N : Int) ≤ z) (hz2 : z ≤ 9223372036854775807) (hf : p + S + N ≤ n) :
    Calls Tryd.prog 42 #[.pointer (some ⟨g, 0, none⟩), .int .i64 z] w fun e w' => ∃ a' m c', e = .returned (.tuple #[.slice a' m c', .nilIface]) ∧ Hid (m = N ∧ Sln w' a' m ((l.drop (p + S)).take N) ∧ (a' = none → c' = 0) ∧ Rdr w' g B a n c l (p + S + N) ∧ Wfr w w' g none) := by
  have h3 := hR.out.sz
  have hp := hR.out.le
  have hcap := hR.out.own.cap
  obtain ⟨q, Hq⟩ : ∃ q, q = p + S := ⟨_, rfl⟩
  obtain ⟨r, Hr⟩ : ∃ r, r = q + N := ⟨_, rfl⟩
  obtain ⟨t, Ht⟩ : ∃ t, t = n - p := ⟨_, rfl⟩
  obtain ⟨u, Hu⟩ : ∃ u, u = t - S := ⟨_, rfl⟩
  have eq : (p : Int) + (S : Int) = (q : Int) := by omega
  have er' : (q : Int) + (N : Int) = (r : Int) := by omega
  have eu : (t : Int) - (S : Int) = (u : Int) := by omega
  have hq : q ≤ r := by omega
  have hr : r ≤ n := by omega
  have i2 : ¬ ((u : Int) < (N : Int)) := by omega
  have i1 : ¬ (z < (N : Int)) := by omega
  have bS : S ≤ 140737488352256 := by omega
  have bN : N ≤ 140737488352256 := by omega
  have ht : t ≤ 140737488352256 := by omega
  have hqn : q ≤ 140737488352256 := by omega
  have hrn : r ≤ 140737488352256 := by omega
  have hrc : r ≤ c := by omega
  have HT : Hid (n - p = t) := Ht.symm
  have HQ : Hid (p + S = q ∧ q + N = r ∧ r - q = N) := ⟨Hq.symm, Hr.symm, by omega⟩
  rw [HQ.out.1, HQ.out.2.1]
  clear Hq Hr Ht Hu hf
  go_enter Tryd.func42, Tryd.ntmps42
  go_upto_region 2 with (first
    | (go_at_call 40; refine (left_n hR).mono ?_; rintro e w1 ⟨a1, c1, rfl, H1⟩
       have R1 : Hid (Rdr w1 g B a n c l p ∧ Wfr w w1 g none ∧ Sln w1 a1 (n - p) (l.drop p)) := by
         obtain ⟨j, hj⟩ := H1.out.2
         rw [hj]
         exact ⟨hR.out.drewN j, wfr_drewN w g j, H1.out.1.drewN j⟩
       have S1 : Hid (Sln w1 a1 (n - p) (l.drop p)) := R1.out.2.2)
    | (go_at_call 39; refine (numberAt_n S1 hN).mono ?_; rintro e w2 ⟨rfl, H2⟩))
  have R2 : Hid (Rdr w2 g B a n c l p) := by obtain ⟨j, hj⟩ := H2.out; rw [hj]; exact R1.out.1.drewN j
  have F2 : Hid (Wfr w w2 g none) := by obtain ⟨j, hj⟩ := H2.out; rw [hj]; exact R1.out.2.1.none_trans (wfr_drewN _ _ _)
  clear R1 H1 H2
  go_upto_region 4 with (first
    | (go_at_call 27; refine (lft_n R2).mono ?_; rintro e w3 ⟨rfl, H3⟩; rw [HT.out]))
  have R3 : Hid (Rdr w3 g B a n c l p) := by obtain ⟨j, hj⟩ := H3.out; rw [hj]; exact R2.out.drewN j
  have F3 : Hid (Wfr w w3 g none) := by obtain ⟨j, hj⟩ := H3.out; rw [hj]; exact F2.out.none_trans (wfr_drewN _ _ _)
  have d1 := R3.out.c1
  have f1 : w3.frozen? ⟨g, 1, none⟩ = false := fz R3.out.blk 1
  obtain ⟨w4, W4⟩ : ∃ w4, Hid (w3.setCell ⟨g, 1, none⟩ (.int .i64 (r : Int)) = w4) := ⟨_, rfl⟩
  have R4 : Hid (Rdr w4 g B a n c l r) := by rw [← W4.out]; exact (R3.out.go hr).1
  have F4 : Hid (Wfr w w4 g none) := by rw [← W4.out]; exact F3.out.none_trans (R3.out.go hr).2
  clear H3 R2 F2
  go_upto_region 6 with (fail)
  rw [W4.out]
  have g0 := R4.out.c0
  have g1 := R4.out.c1
  have S4 : Hid (Sln w4 (if c = q then a else a.map (·.add q)) (r - q) ((l.drop q).take N)) := by
    have h1 := slice_from (R4.out.own.sln h3) (Nat.le_trans hq hr) hcap
    have h2 := h1.take (k := r - q) (by omega)
    rw [HQ.out.2.2] at h2 ⊢
    exact h2
  have Z4 : Hid ((if c = q then a else a.map (·.add q)) = none → c - q = 0) := by
    intro h1
    by_cases hcq : c = q
    · omega
    · rw [if_neg hcq] at h1
      have := R4.out.own.cap0 (by simpa using h1)
      omega
  have FIN : Hid (∀ j, r - q = N ∧ Sln (w4.drewN j) (if c = q then a else a.map (·.add q)) (r - q) ((l.drop q).take N) ∧ ((if c = q then a else a.map (·.add q)) = none → c - q = 0) ∧ Rdr (w4.drewN j) g B a n c l r ∧ Wfr w (w4.drewN j) g none) :=
    fun j => ⟨HQ.out.2.2, S4.out.drewN j, Z4.out, R4.out.drewN j, F4.out.none_trans (wfr_drewN _ _ _)⟩
  clear d1 f1 R3 F3 R4 F4 S4 Z4 W4
  go_wp2
  go_quiet (fail)
  go_wp2
  all_goals
    go_ret2
    first
      | exact ⟨_, _, _, rfl, by have := FIN.out nq; rw [if_pos (by assumption)] at this; exact this⟩
      | exact ⟨_, _, _, rfl, by have := FIN.out nq; rw [if_neg (by assumption)] at this; exact this⟩
      | exact ⟨_, _, _, rfl, by have hh : c = q := by assumption
                                have := FIN.out nq; rw [if_pos hh] at this; (try rw [hh, Nat.sub_self] at this); exact this⟩
end Go.Proofs.YtnhnpkedkdefnaaDoor
