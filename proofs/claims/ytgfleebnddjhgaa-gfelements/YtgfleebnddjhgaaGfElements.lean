/- For every two bytes a, b and every integer n of 64 bits the Go function GfElements (Add, Mul, Inv, Div, Pow, Log of package gf answer as the document's own definitions do) returns true and leaves its arguments as they were. No condition. -/
import Derived.Test.YtgfleebnddjhgaaRows
import Derived.Test.YtgfleebnddjhgaaWf
import Derived.WalkKit
import Derived.ProofKit
import Derived.OpenShut
import Derived.ShutString
namespace Go.Proofs.Ytgfleebnddjhgaa.gfElements
open Go.ChangeShapes Go.WideShapes Go.ChangeAt Go.RowKit
open Go.ChangeMaps (open_string shut_string)
set_option linter.unusedVariables false

theorem own : ownKnob Try.prog.godebug = none := by kernel_rfl

theorem inv_pair (a : Nat) (ha : a < 256) : ∃ (x : Int) (ok : Bool), (∀ w : World, Calls Try.prog 10 #[.int .u8 (a : Int)] w fun e w' => e = .returned (.tuple #[.int .u8 x, .bool ok]) ∧ w' = w) ∧ (∀ w : World, Calls Try.prog 11 #[.int .u8 (a : Int)] w fun e w' => e = .returned (.tuple #[.int .u8 x, .bool ok]) ∧ w' = w) := by
  by_cases h : a = 0
  · subst h; exact ⟨0, false, fun w => inv_none w, fun w => refinv_none w⟩
  · exact ⟨_, true, fun w => inv_some a ha h w, fun w => refinv_some a ha h w⟩
theorem div_pair (a b : Nat) (ha : a < 256) (hb : b < 256) : ∃ (x : Int) (ok : Bool), (∀ w : World, Calls Try.prog 12 #[.int .u8 (a : Int), .int .u8 (b : Int)] w fun e w' => e = .returned (.tuple #[.int .u8 x, .bool ok]) ∧ w' = w) ∧ (∀ w : World, Calls Try.prog 13 #[.int .u8 (a : Int), .int .u8 (b : Int)] w fun e w' => e = .returned (.tuple #[.int .u8 x, .bool ok]) ∧ w' = w) := by
  by_cases h : b = 0
  · subst h; exact ⟨0, false, fun w => div_none a w, fun w => refdiv_none a w⟩
  · exact ⟨_, true, fun w => div_some a b ha hb h w, fun w => refdiv_some a b ha hb h w⟩
theorem log_pair (a : Nat) (ha : a < 256) : ∃ (x : Int) (ok : Bool), (∀ w : World, Calls Try.prog 14 #[.int .u8 (a : Int)] w fun e w' => e = .returned (.tuple #[.int .i64 x, .bool ok]) ∧ w' = w) ∧ (∀ w : World, Calls Try.prog 15 #[.int .u8 (a : Int)] w fun e w' => e = .returned (.tuple #[.int .i64 x, .bool ok]) ∧ w' = w) := by
  have h : ∃ (x : Int) (ok : Bool), logV a = .tuple #[.int .i64 x, .bool ok] := by
    unfold logV; split
    · exact ⟨_, _, rfl⟩
    · exact ⟨_, _, rfl⟩
  obtain ⟨x, ok, h⟩ := h
  refine ⟨x, ok, fun w => ?_, fun w => ?_⟩
  · have := log_any a ha w; rwa [h] at this
  · have := reflog_any a ha w; rwa [h] at this
set_option maxHeartbeats 1000000 in
theorem walkN (a b : Nat) (n : Int) (ha : a < 256) (hb : b < 256) (hn : (Lit.int .i64 n).wf = true) (w : World) :
    Calls Try.prog 3 #[.int .u8 (a : Int), .int .u8 (b : Int), .int .i64 n] w fun e w' => e = .returned (.bool true) ∧ Grown w w' := by
  obtain ⟨i, oi, hI, hI2⟩ := inv_pair a ha
  obtain ⟨d, od, hD, hD2⟩ := div_pair a b ha hb
  obtain ⟨l, ol, hL, hL2⟩ := log_pair a ha
  obtain ⟨m, hm⟩ : ∃ m, Hid (Gm.mul a b = m) := ⟨_, rfl⟩
  obtain ⟨p, hp⟩ : ∃ p, Hid (Gm.powZ a n = p) := ⟨_, rfl⟩
  obtain ⟨s, hs⟩ : ∃ s, Hid (a ^^^ b = s) := ⟨_, rfl⟩
  have I1 : Hid (∀ w : World, Calls Try.prog 10 #[.int .u8 (a : Int)] w fun e w' => e = .returned (.tuple #[.int .u8 i, .bool oi]) ∧ w' = w) := hI
  have I2 : Hid (∀ w : World, Calls Try.prog 11 #[.int .u8 (a : Int)] w fun e w' => e = .returned (.tuple #[.int .u8 i, .bool oi]) ∧ w' = w) := hI2
  have D1 : Hid (∀ w : World, Calls Try.prog 12 #[.int .u8 (a : Int), .int .u8 (b : Int)] w fun e w' => e = .returned (.tuple #[.int .u8 d, .bool od]) ∧ w' = w) := hD
  have D2 : Hid (∀ w : World, Calls Try.prog 13 #[.int .u8 (a : Int), .int .u8 (b : Int)] w fun e w' => e = .returned (.tuple #[.int .u8 d, .bool od]) ∧ w' = w) := hD2
  have L1 : Hid (∀ w : World, Calls Try.prog 14 #[.int .u8 (a : Int)] w fun e w' => e = .returned (.tuple #[.int .i64 l, .bool ol]) ∧ w' = w) := hL
  have L2 : Hid (∀ w : World, Calls Try.prog 15 #[.int .u8 (a : Int)] w fun e w' => e = .returned (.tuple #[.int .i64 l, .bool ol]) ∧ w' = w) := hL2
  have M1 : Hid (∀ w : World, Calls Try.prog 17 #[.int .u8 (a : Int), .int .u8 (b : Int)] w fun e w' => e = .returned (.int .u8 (m : Int)) ∧ w' = w) := fun w => by rw [← hm.out]; exact mul_any a b ha hb w
  have M2 : Hid (∀ w : World, Calls Try.prog 18 #[.int .u8 (a : Int), .int .u8 (b : Int)] w fun e w' => e = .returned (.int .u8 (m : Int)) ∧ w' = w) := fun w => by rw [← hm.out]; exact refmul_any a b ha hb w
  have P1 : Hid (∀ w : World, Calls Try.prog 19 #[.int .u8 (a : Int), .int .i64 n] w fun e w' => e = .returned (.int .u8 (p : Int)) ∧ w' = w) := fun w => by rw [← hp.out]; exact pow_any a n ha hn w
  have P2 : Hid (∀ w : World, Calls Try.prog 20 #[.int .u8 (a : Int), .int .i64 n] w fun e w' => e = .returned (.int .u8 (p : Int)) ∧ w' = w) := fun w => by rw [← hp.out]; exact refpow_any a n ha hn w
  have S1 : Hid (∀ w : World, Calls Try.prog 16 #[.int .u8 (a : Int), .int .u8 (b : Int)] w fun e w' => e = .returned (.int .u8 (s : Int)) ∧ w' = w) := fun w => by rw [← hs.out]; exact add_any a b ha hb w
  have x1 : bits BinOp.xor IntKind.u8 (a : Int) (b : Int) = (s : Int) := by rw [← hs.out]; exact u8_xor_nat a b ha hb
  clear hI hI2 hD hD2 hL hL2
  go_enter Try.func3, Try.ntmps3
  go_wp2_with (first | (go_at_call 9; refine (alive_any _).mono ?_; rintro e w' ⟨rfl, hg, hbl⟩) | (go_at_call 10; refine (I1.out _).mono ?_; rintro e w' ⟨rfl, rfl⟩) | (go_at_call 11; refine (I2.out _).mono ?_; rintro e w' ⟨rfl, rfl⟩) | (go_at_call 12; refine (D1.out _).mono ?_; rintro e w' ⟨rfl, rfl⟩) | (go_at_call 13; refine (D2.out _).mono ?_; rintro e w' ⟨rfl, rfl⟩) | (go_at_call 14; refine (L1.out _).mono ?_; rintro e w' ⟨rfl, rfl⟩) | (go_at_call 15; refine (L2.out _).mono ?_; rintro e w' ⟨rfl, rfl⟩) | (go_at_call 16; refine (S1.out _).mono ?_; rintro e w' ⟨rfl, rfl⟩) | (go_at_call 17; refine (M1.out _).mono ?_; rintro e w' ⟨rfl, rfl⟩) | (go_at_call 18; refine (M2.out _).mono ?_; rintro e w' ⟨rfl, rfl⟩) | (go_at_call 19; refine (P1.out _).mono ?_; rintro e w' ⟨rfl, rfl⟩) | (go_at_call 20; refine (P2.out _).mono ?_; rintro e w' ⟨rfl, rfl⟩))
  go_ret
  exact ⟨rfl, hg⟩
theorem walk (a0 : Int) (a1 : Int) (a2 : Int) (w0 : (Lit.int .u8 a0).wf = true) (w1 : (Lit.int .u8 a1).wf = true) (w2 : (Lit.int .i64 a2).wf = true) (w : World) :
    Calls Try.prog 3 #[.int .u8 a0, .int .u8 a1, .int .i64 a2] w fun e w' => e = .returned (.bool true) ∧ Grown w w' := by
  have b0 := bounds_u8 w0
  have b1 := bounds_u8 w1
  have h := walkN a0.toNat a1.toNat a2 (by omega) (by omega) w2 w
  rwa [Int.toNat_of_nonneg b0.1, Int.toNat_of_nonneg b1.1] at h

set_option maxRecDepth 100000 in
theorem lifted (os : Os) (started : os.Started) (H : Type) (enc : TypeId × Value → H) :
    ReturnsInHanded {} Try.checked os 3 .any (Rows.gfElementsSpec.pre6 enc Try.prog Try.f3 Rows.gfElementsRow.domain false) (Rows.gfElementsSpec.post enc Try.prog Try.f3 false true false false) := by
  refine returnsInHanded_of_change (C := Try.checked) own started (by kernel_rfl) Try.func3
    (ChangeSpec.witness6 (enc := enc) (C := Try.checked) false ⟨#[], #[.int .u8 0, .int .u8 0, .int .i64 0], []⟩ 8 (by kernel_rfl) (by kernel_rfl) (by kernel_rfl) (by kernel_rfl)) ?_
  intro W base args ds gs before hval0 hW hcnd _
  have hval : ∀ (j : Nat) t v, Try.f3.params[j]? = some t → args[j]? = some v → Value.okWide Try.prog W .any base t v := hval0
  have hW' := hW
  obtain ⟨p, q, hA0, hV, rfl, hfz, hnd⟩ := hW
  have hA : DataW.TrodAll enc Try.prog W 0 (fun _ => true) true Try.f3.params.toList args.toList ds p := hA0
  rw [Try.params3] at hA hval
  obtain ⟨v0, vs0, d0, ds0, p0, q0, hargs, rfl, rfl, h0, r0⟩ := trodAll_cons hA
  obtain ⟨v1, vs1, d1, ds1, p1, q1, rfl, rfl, rfl, h1, r1⟩ := trodAll_cons r0
  obtain ⟨v2, vs2, d2, ds2, p2, q2, rfl, rfl, rfl, h2, r2⟩ := trodAll_cons r1
  obtain ⟨rfl, rfl, rfl⟩ := trodAll_nil r2
  obtain rfl : args = #[v0, v1, v2] := by cases args; simp_all
  obtain ⟨rfl, rfl⟩ := trodVars_none hV
  obtain ⟨a0, rfl, rfl, rfl, w0⟩ := open_int Try.underlying5 (hval 0 5 v0 rfl rfl) h0
  obtain ⟨a1, rfl, rfl, rfl, w1⟩ := open_int Try.underlying5 (hval 1 5 v1 rfl rfl) h1
  obtain ⟨a2, rfl, rfl, rfl, w2⟩ := open_int Try.underlying3 (hval 2 3 v2 rfl rfl) h2
  clear hA0 hval0
  simp only [List.append_nil] at hW'
  refine (walk a0 a1 a2 w0 w1 w2 W).mono fun e W' ⟨he, hg⟩ => ?_
  subst he
  exact ⟨_, rfl, post_of_same (pa := []) (pv := []) hW' (fun _ _ _ => (trodAll_cons_mk (shut_bool Try.underlying4 _) trodAll_mk0)) (fun sp _ => (trodAll_cons_mk (shut_int Try.underlying5 w0) (trodAll_cons_mk (shut_int Try.underlying5 w1) (trodAll_cons_mk (shut_int Try.underlying3 w2) trodAll_mk0)))) (fun _ _ => rfl) rfl
    (hg.frame _) hg.2.1 (ok_one (by kernel_rfl) rfl (okWide_bool_mk Try.underlying4 _))⟩

theorem over : Rows.gfElementsRow.holds Try.pinned (OpenSpec.ofChange Rows.gfElementsSpec) :=
  OpenClaim.holds_of_wide 3 Try.f3 rfl rfl rfl rfl rfl rfl rfl ⟨rfl, rfl, rfl, rfl, rfl⟩ rfl rfl rfl rfl rfl (by kernel_rfl) Try.func3 (by kernel_rfl)
    (of_decide_eq_true (by kernel_rfl)) (by unfold Func.isWrapper; first | (rw [if_pos (by decide +kernel)]; kernel_rfl) | (rw [if_neg (by decide +kernel)]; exact ⟨rfl, rfl⟩))
    (fun os started H enc _ => lifted os started H enc)

theorem proved : Rows.GfElementsSaid :=
  over
end Go.Proofs.Ytgfleebnddjhgaa.gfElements
namespace Go.Proofs.Ytgfleebnddjhgaa
theorem gfElements_holds : Rows.GfElementsSaid := gfElements.proved
#print axioms gfElements_holds
end Go.Proofs.Ytgfleebnddjhgaa
