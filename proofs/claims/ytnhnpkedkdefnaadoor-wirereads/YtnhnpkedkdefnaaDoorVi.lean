/- The law WireSlips walked: it returns true, and changes nothing that was there. -/
import Derived.Test.YtnhnpkedkdefnaaDoorVh
namespace Go.Proofs.YtnhnpkedkdefnaaDoor
open Go.ChangeShapes Go.WideShapes Go.ChangeAt Go.RowKit
set_option linter.unusedVariables false
set_option linter.unusedSimpArgs false
/- the place that the law picks: below N -/
theorem pick_place (x : Int) (N : Nat) (hN : 0 < N) : ∃ (t : Int) (r : Nat), Int.tmod x (N : Int) = t ∧ -(N : Int) < t ∧ t < (N : Int) ∧ Int.tmod (t + (N : Int)) (N : Int) = (r : Int) ∧ r < N := by
  have h1 : Int.tmod x (N : Int) < (N : Int) := Int.tmod_lt_of_pos x (by omega)
  have h2 : -(N : Int) < Int.tmod x (N : Int) := by
    have := Int.tmod_lt_of_pos (-x) (show (0 : Int) < (N : Int) by omega)
    rw [Int.neg_tmod] at this
    omega
  have h3 : Int.tmod (Int.tmod x (N : Int) + (N : Int)) (N : Int) = (Int.tmod x (N : Int) + (N : Int)) % (N : Int) := Int.tmod_eq_emod_of_nonneg (by omega)
  have h4 : 0 ≤ (Int.tmod x (N : Int) + (N : Int)) % (N : Int) := Int.emod_nonneg _ (by omega)
  have h5 : (Int.tmod x (N : Int) + (N : Int)) % (N : Int) < (N : Int) := Int.emod_lt_of_pos _ (by omega)
  exact ⟨Int.tmod x (N : Int), ((Int.tmod x (N : Int) + (N : Int)) % (N : Int)).toNat, rfl, h2, h1, by rw [h3]; omega, by omega⟩
set_option maxHeartbeats 2000000 in
theorem slips_n {w : World} {a : Option Addr} {n c tb : Nat} {l : List Nat} {x : Int} {E : Nat → Addr} (h : Hid (Sln w a n l)) (hc : Hid (a = none → c = 0)) (hn : n ≤ 140737488351232) (wx : (Lit.int .i64 x).wf = true) (hto : tb < 256) (hE : Hid (Sent w 3 E)) :
    Calls Tryd.prog 7 #[.slice a n c, .int .i64 x, .int .u8 (tb : Int)] w fun e w' => e = .returned (.bool true) ∧ Hid (Below w.heap.size w w') := by
  have bx := bounds_i64 wx
  go_enter Tryd.func7, Tryd.ntmps7
  go_upto_region 4 with (first
    | (go_at_call 9; refine (alive_n w).mono ?_; rintro e w1 ⟨rfl, B1⟩
       have S1 : Hid (Sln w1 a n l) := h.out.below B1.out)
    | (go_at_call 28; refine (seal_n S1 hc).mono ?_; rintro e w2 ⟨g, N, rfl, H2⟩))
  obtain ⟨t, r, e1, t1, t2, e2, hr⟩ := pick_place x N (by rw [H2.out.1]; omega)
  have hN : N = n + 4 := H2.out.1
  have B2 : Hid (Below w.heap.size w w2) := B1.out.trans (H2.out.2.2.2.mono B1.out.size)
  have G2 : Hid (w.heap.size ≤ g) := by rw [H2.out.2.1]; exact B1.out.size
  have K2 : Hid (Blk w2 g (sealL l)) := H2.out.2.2.1
  have L2 : Hid ((sealL l).length = N) := by rw [seal_len, ← h.out.len]; exact hN.symm
  obtain ⟨v, Hv⟩ : ∃ v, Hid ((sealL l).getD r 0 = v) := ⟨_, rfl⟩
  have hv : v < 256 := by rw [← Hv.out]; exact getD_lt (seal_bytes h.out.lt) r
  have c1 : w2.cell? ⟨g, r, none⟩ = some (.int .u8 (v : Int)) := by rw [← Hv.out]; exact K2.out.cell (by rw [L2.out]; exact hr)
  have f1 : w2.frozen? ⟨g, r, none⟩ = false := K2.out.frozen r
  have ir : (r : Int) < (N : Int) := by omega
  have i4 : (n : Int) + 4 = (N : Int) := by omega
  have N0 : ¬ ((N : Int) = 0) := by omega
  have N0' : ¬ (N = 0) := by omega
  by_cases hvt : v = tb
  · subst hvt
    have HN : Hid (N = n + 4) := hN
    clear hN
    go_wp2

    go_ret
    exact ⟨rfl, B2.out⟩
  · obtain ⟨w3, W3⟩ : ∃ w3, Hid (w2.setCell ⟨g, r, none⟩ (.int .u8 (tb : Int)) = w3) := ⟨_, rfl⟩
    have K3 : Hid (Blk w3 g ((sealL l).set r tb)) := by rw [← W3.out]; exact K2.out.set r tb
    have B3 : Hid (Below w.heap.size w w3) := by rw [← W3.out]; exact ((Oth.refl g w2).setCell r _).below B2.out G2.out
    have L3 : Hid (((sealL l).set r tb).length = N) := by rw [List.length_set]; exact L2.out
    have T3 : Hid (∀ y ∈ (sealL l).set r tb, y < 256) := by
      intro y hy
      rcases List.mem_or_eq_of_mem_set hy with h1 | h1
      · exact seal_bytes h.out.lt y h1
      · omega
    have S3 : Hid (Sln w3 (some ⟨g, 0, none⟩) N ((sealL l).set r tb)) := by
      have := K3.out.sln T3.out (by rw [L3.out]; omega)
      rw [L3.out] at this
      exact this
    have BAD : Hid (sealL (((sealL l).set r tb).take (N - 4)) ≠ (sealL l).set r tb) := by
      have := seal_slip h.out.lt (i := r) (tb := tb) (by rw [L2.out]; exact hr) hto (by rw [Hv.out]; exact hvt)
      rw [L3.out] at this
      exact this
    have E3 : Hid (Sent w3 3 E) := hE.out.below B3.out
    have vt : ¬ ((v : Int) = (tb : Int)) := by omega
    have W3' : w2.setCell ⟨g, r, none⟩ (.int .u8 (tb : Int)) = w3 := W3.out
    have hN4 : 4 ≤ N := by omega
    have HN : Hid (N = n + 4) := hN
    clear hN W3 L2 K2
    go_upto_region 11 with (first
      | (go_at_call 29; (try rw [W3']); refine (open_bad S3 (by show _ → _; simp) (Nat.le_refl _) hN4 BAD E3 (Nat.le_refl _)).mono ?_; rintro e w4 ⟨rfl, B4⟩))
    have ce := (E3.out.below B4.out).c 2 (by omega)
    unfold er at ce
    have EQ := eql_same w4 (E 2)
    have FIN : Hid (Below w.heap.size w w4) := B3.out.trans (B4.out.mono B3.out.size)
    go_wp2
    go_ret
    exact ⟨rfl, FIN.out⟩
theorem slips_any {w : World} {a : Option Addr} {n c : Nat} {l : List Nat} {x z : Int} {E : Nat → Addr} (h : Hid (Sln w a n l)) (hc : Hid (a = none → c = 0)) (hn : n ≤ 140737488351232) (wx : (Lit.int .i64 x).wf = true) (wz : (Lit.int .u8 z).wf = true) (hE : Hid (Sent w 3 E)) :
    Calls Tryd.prog 7 #[.slice a n c, .int .i64 x, .int .u8 z] w fun e w' => e = .returned (.bool true) ∧ Hid (Below w.heap.size w w') := by
  have bz := bounds_u8 wz
  obtain ⟨t, rfl⟩ : ∃ t : Nat, z = (t : Int) := ⟨z.toNat, by omega⟩
  exact slips_n h hc hn wx (by omega) hE
end Go.Proofs.YtnhnpkedkdefnaaDoor
