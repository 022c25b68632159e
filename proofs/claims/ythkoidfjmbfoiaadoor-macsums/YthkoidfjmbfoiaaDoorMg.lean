/- The law MacSums walked: it returns true, and changes nothing that was there. -/
import Derived.Test.YthkoidfjmbfoiaaDoorMf
namespace Go.Proofs.YthkoidfjmbfoiaaDoor
open Go.ChangeShapes Go.WideShapes Go.ChangeAt Go.RowKit
set_option linter.unusedVariables false
set_option linter.unusedSimpArgs false
set_option maxRecDepth 20000 in
set_option maxHeartbeats 1000000 in
theorem macsums_n (w : World) {a0 a1 : Option Addr} {n0 c0 n1 c1 : Nat} {l0 l1 : List Nat} (S0 : Hid (Sln w a0 n0 l0)) (z0 : Hid (a0 = none → c0 = 0)) (S1 : Hid (Sln w a1 n1 l1)) (z1 : Hid (a1 = none → c1 = 0)) (hm : n1 ≤ 140737488352192) (hKs : Hid (Kst w)) (h0 : Hid (0 < w.heap.size)) :
    Calls Tryd.prog 4 #[.slice a0 n0 c0, .slice a1 n1 c1] w fun e w' => e = .returned (.bool true) ∧ Hid (Below w.heap.size w w') := by
  obtain ⟨sm, SM⟩ : ∃ sm, Hid (Gs.mac l0 l1 = sm) := ⟨_, rfl⟩
  have EQ : ∀ w', (Op.equalIn 10000 25 (.agg (cs .u8 sm)) (.agg (cs .u8 sm))).run Tryd.prog w' = .ok true w' := eq_same sm (by rw [← SM.out]; exact mac_length _ _)
  go_enter Tryd.func4, Tryd.ntmps4
  go_upto_region 3 with (first
    | (go_at_call 14; refine (malive_n _ hKs h0).mono ?_; rintro e w1 ⟨rfl, B1⟩))
  have P1 : Hid (Sln w1 a0 n0 l0) := S0.out.below B1.out
  go_wp2_with (fail)
  refine (bytes_n P1 z0).mono ?_
  rintro e w2 ⟨g2, N2, rfl, H2⟩
  have B2 : Hid (Below w.heap.size w w2) := B1.out.trans (H2.out.2.2.2.mono B1.out.size)
  have K2 : Hid (Blk w2 g2 (l0 ++ marks)) := H2.out.2.2.1
  have M2 : Hid (N2 = n0 + 6) := H2.out.1
  have P2 : Hid (Sln w2 a1 n1 l1) := S1.out.below B2.out
  go_wp2_with (fail)
  refine (bytes_n P2 z1).mono ?_
  rintro e w3 ⟨g3, N3, rfl, H3⟩
  have B3 : Hid (Below w.heap.size w w3) := B2.out.trans (H3.out.2.2.2.mono B2.out.size)
  have K3 : Hid (Blk w3 g3 (l1 ++ marks)) := H3.out.2.2.1
  have M3 : Hid (N3 = n1 + 6) := H3.out.1
  have K3' : Hid (Blk w3 g2 (l0 ++ marks)) := K2.out.below H3.out.2.2.2 K2.out.lt
  have Q0 : Hid (Sln w3 (some ⟨g2, 0, none⟩) n0 l0) := blk_begin K3'.out S0.out.len S0.out.lt S0.out.sli.2.1
  have Q1 : Hid (Sln w3 (some ⟨g3, 0, none⟩) n1 l1) := blk_begin K3.out S1.out.len S1.out.lt S1.out.sli.2.1
  have T3 : Hid (Kst w3) := hKs.out.below B3.out h0.out
  have Z3 : Hid (0 < w3.heap.size) := Nat.lt_of_lt_of_le h0.out B3.out.size
  go_wp2_with (fail)
  refine (macsum_n Q0 (by have := M2.out; omega) Q1 (by have := M3.out; omega) T3 Z3).mono ?_
  rintro e w4 ⟨d4, rfl, H4⟩
  have s4 : sm = d4 := SM.out.symm.trans H4.out.1.symm
  subst s4
  have B4 : Hid (Below w.heap.size w w4) := B3.out.trans (H4.out.2.mono B3.out.size)
  have P4 : Hid (Sln w4 a0 n0 l0) := S0.out.below B4.out
  have P4' : Hid (Sln w4 a1 n1 l1) := S1.out.below B4.out
  go_wp2_with (fail)
  refine (refmac_n P4 z0 P4' z1 hm).mono ?_
  rintro e w5 ⟨d5, rfl, H5⟩
  have s5 : sm = d5 := SM.out.symm.trans H5.out.1.symm
  subst s5
  have B5 : Hid (Below w.heap.size w w5) := B4.out.trans (H5.out.2.mono B4.out.size)
  have P5 : Hid (Sln w5 a0 n0 l0) := S0.out.below B5.out
  have E5 : Hid (Blk w5 g2 (l0 ++ marks)) := (K3'.out.below H4.out.2 K3'.out.lt).below H5.out.2 (Nat.lt_of_lt_of_le K3'.out.lt H4.out.2.size)
  have E5' : Hid (Blk w5 g3 (l1 ++ marks)) := (K3.out.below H4.out.2 K3.out.lt).below H5.out.2 (Nat.lt_of_lt_of_le K3.out.lt H4.out.2.size)
  go_wp2_with (fail)
  refine (kept_n E5 M2 P5).mono ?_
  rintro e w6 ⟨rfl, H6⟩
  have B65 : Hid (Below w5.heap.size w5 w6) := by
    obtain ⟨q, hq⟩ := H6.out
    rw [hq]
    exact below_drewN (Below.refl _ _) q
  have B6 : Hid (Below w.heap.size w w6) := B5.out.trans (B65.out.mono B5.out.size)
  have P6 : Hid (Sln w6 a1 n1 l1) := S1.out.below B6.out
  have E6 : Hid (Blk w6 g3 (l1 ++ marks)) := E5'.out.below B65.out E5'.out.lt
  clear EQ
  go_wp2_with (fail)
  refine (kept_n E6 M3 P6).mono ?_
  rintro e w7 ⟨rfl, H7⟩
  have B7 : Hid (Below w.heap.size w w7) := by
    obtain ⟨q, hq⟩ := H7.out
    rw [hq]
    exact below_drewN B6.out q
  go_wp2
  go_ret
  exact ⟨rfl, B7.out⟩
end Go.Proofs.YthkoidfjmbfoiaaDoor
