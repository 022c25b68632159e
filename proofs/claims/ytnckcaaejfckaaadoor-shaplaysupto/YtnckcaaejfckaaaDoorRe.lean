/- The law ShaSums walked, the document's own Sum by a contract that is handed in: it returns true, and changes nothing that was there. -/
import Derived.Test.YtnckcaaejfckaaaDoorSm
namespace Go.Proofs.YtnckcaaejfckaaaDoor
open Go.ChangeShapes Go.WideShapes Go.ChangeAt Go.RowKit
set_option linter.unusedVariables false
set_option linter.unusedSimpArgs false
/- what the document's Sum is to do -/
def RefSum : Prop := ∀ (w : World) (a : Option Addr) (n k : Nat) (l : List Nat), Hid (Sln w a n l) → Hid (a = none → k = 0) → Calls Tryd.prog 8 #[.slice a n k] w fun e w' => ∃ d, e = .returned (.agg (cs .u8 d)) ∧ Hid (d = Gs.sum l ∧ Below w.heap.size w w')
set_option maxRecDepth 20000 in
set_option maxHeartbeats 1000000 in
theorem sums_of (ref : RefSum) (w : World) (n k : Nat) (a : Option Addr) (l : List Nat) (hS : Hid (Sln w a n l)) (hk : Hid (a = none → k = 0)) (hKs : Hid (Kst w)) (h0 : Hid (0 < w.heap.size)) :
    Calls Tryd.prog 3 #[.slice a n k] w fun e w' => e = .returned (.bool true) ∧ Hid (Below w.heap.size w w') := by
  have REF : Hid RefSum := ref
  clear ref
  obtain ⟨sm, SM⟩ : ∃ sm, Hid (Gs.sum l = sm) := ⟨_, rfl⟩
  have EQ : ∀ w', (Op.equalIn 10000 25 (.agg (cs .u8 sm)) (.agg (cs .u8 sm))).run Tryd.prog w' = .ok true w' := eq_same sm (by rw [← SM.out]; exact sum_length _)
  go_enter Tryd.func3, Tryd.ntmps3
  go_upto_region 4 with (first
    | (go_at_call 5; refine (alive_n _ hKs h0).mono ?_; rintro e w1 ⟨rfl, B1⟩
       have S1 : Hid (Sln w1 a n l) := hS.out.below B1.out)
    | (go_at_call 6; refine (bytes_n S1 hk).mono ?_; rintro e w2 ⟨g, N, rfl, H2⟩))
  have B2 : Hid (Below w.heap.size w w2) := B1.out.trans (H2.out.2.2.2.mono B1.out.size)
  have K2 : Hid (Blk w2 g (l ++ marks)) := H2.out.2.2.1
  have SI : Hid (Sln w2 (some ⟨g, 0, none⟩) n l) := blk_begin K2.out hS.out.len hS.out.lt hS.out.sli.2.1
  have T2 : Hid (Kst w2) := hKs.out.below B2.out h0.out
  have Z2 : Hid (0 < w2.heap.size) := Nat.lt_of_lt_of_le h0.out B2.out.size
  have nN : Hid (N = n + 6) := H2.out.1
  go_wp2_with (fail)
  refine (sum_n SI (by have := nN.out; omega) T2 Z2).mono ?_
  rintro e w3 ⟨d3, rfl, H3⟩
  have s3 : sm = d3 := SM.out.symm.trans H3.out.1.symm
  subst s3
  have B3 : Hid (Below w.heap.size w w3) := B2.out.trans (H3.out.2.mono B2.out.size)
  have S3 : Hid (Sln w3 a n l) := hS.out.below B3.out
  go_wp2_with (fail)
  refine (REF.out w3 a n k l S3 hk).mono ?_
  rintro e w4 ⟨d4, rfl, H4⟩
  have s4 : sm = d4 := SM.out.symm.trans H4.out.1.symm
  subst s4
  have B4 : Hid (Below w.heap.size w w4) := B3.out.trans (H4.out.2.mono B3.out.size)
  have S4 : Hid (Sln w4 a n l) := hS.out.below B4.out
  have K4 : Hid (Blk w4 g (l ++ marks)) := (K2.out.below H3.out.2 K2.out.lt).below H4.out.2 (Nat.lt_of_lt_of_le K2.out.lt H3.out.2.size)
  go_wp2_with (fail)
  refine (kept_n K4 nN S4).mono ?_
  rintro e w5 ⟨rfl, H5⟩
  have B5 : Hid (Below w.heap.size w w5) := by
    obtain ⟨q, hq⟩ := H5.out
    rw [hq]
    exact below_drewN B4.out q
  clear EQ
  go_wp2
  go_ret
  exact ⟨rfl, B5.out⟩
end Go.Proofs.YtnckcaaejfckaaaDoor
