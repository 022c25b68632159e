/- For every three bytes a, b, c the Go function GfLaws (the laws of a field, held against package gf) returns true and leaves its arguments as they were. No condition. -/
import Derived.Test.YtgfleebnddjhgaaRows
import Derived.Test.YtgfleebnddjhgaaWf
import Derived.WalkKit
import Derived.ProofKit
import Derived.OpenShut
import Derived.ShutString
namespace Go.Proofs.Ytgfleebnddjhgaa.gfLaws
open Go.ChangeShapes Go.WideShapes Go.ChangeAt Go.RowKit
open Go.ChangeMaps (open_string shut_string)
set_option linter.unusedVariables false

theorem own : ownKnob Try.prog.godebug = none := by kernel_rfl

theorem q_eq (a b : Nat) (ha : a < 256) (hb : b < 256) (h : b ≠ 0) : Gm.mul (Gm.mul a b) (Gm.inv b) = a := by
  rw [Gm.mul_assoc _ _ _ ha hb (Gm.inv_lt b hb), Gm.inv_mul b hb h, Gm.mul_one a ha]
theorem bf {x y : Nat} (h : x = y) : ((x : Int) != (y : Int)) = false := by rw [h]; simp
theorem bt {x y : Nat} (h : x = y) : ((x : Int) == (y : Int)) = true := by rw [h]; simp
theorem add_zero_c (a : Nat) (ha : a < 256) (w : World) : Calls Try.prog 16 #[.int .u8 (a : Int), .int .u8 (0 : Int)] w fun e w' => e = .returned (.int .u8 (a : Int)) ∧ w' = w := by
  have h := add_any a 0 ha (by omega) w
  rw [Nat.xor_zero] at h; exact h
theorem mul_one_c (a : Nat) (ha : a < 256) (w : World) : Calls Try.prog 17 #[.int .u8 (a : Int), .int .u8 (1 : Int)] w fun e w' => e = .returned (.int .u8 (a : Int)) ∧ w' = w := by
  have h := mul_any a 1 ha (by omega) w
  rw [Gm.mul_one a ha] at h; exact h
theorem mul_zero_c (a : Nat) (ha : a < 256) (w : World) : Calls Try.prog 17 #[.int .u8 (a : Int), .int .u8 (0 : Int)] w fun e w' => e = .returned (.int .u8 (0 : Int)) ∧ w' = w := by
  have h := mul_any a 0 ha (by omega) w
  rw [Gm.mul_zero a] at h; exact h
theorem inv_none_c (a : Nat) (h : a = 0) (w : World) : Calls Try.prog 10 #[.int .u8 (a : Int)] w fun e w' => e = .returned (.tuple #[.int .u8 (0 : Int), .bool false]) ∧ w' = w := by
  subst h; exact inv_none w
theorem div_none_c (a b : Nat) (h : b = 0) (w : World) : Calls Try.prog 12 #[.int .u8 (a : Int), .int .u8 (b : Int)] w fun e w' => e = .returned (.tuple #[.int .u8 (0 : Int), .bool false]) ∧ w' = w := by
  subst h; exact div_none a w
set_option maxHeartbeats 1000000 in
theorem walkN (a b c : Nat) (ha : a < 256) (hb : b < 256) (hc : c < 256) (w : World) :
    Calls Try.prog 5 #[.int .u8 (a : Int), .int .u8 (b : Int), .int .u8 (c : Int)] w fun e w' => e = .returned (.bool true) ∧ Grown w w' := by
  have f1 := bf (Nat.xor_comm a b)
  have f2 := bf (Gm.mul_comm a b ha hb)
  have f5 := bf (Nat.xor_assoc a b c)
  have f6 := bf (Gm.mul_assoc a b c ha hb hc)
  have f7 := bf (Gm.mul_add a b c)
  have m1 := Gm.mul_lt a b ha
  have m2 := Gm.mul_lt b c hb
  have m3 := Gm.mul_lt a c ha
  have x1 := Gm.xor_lt a b ha hb
  have x2 := Gm.xor_lt b c hb hc
  go_enter Try.func5, Try.ntmps5
  go_wp2_with (first | (go_at_call 9; refine (alive_any _).mono ?_; rintro e w' ⟨rfl, hg, hbl⟩) | (go_at_call 16; with_reducible refine (add_zero_c _ ha _).mono ?_; rintro e w' ⟨rfl, rfl⟩) | (go_at_call 17; with_reducible refine (mul_one_c _ ha _).mono ?_; rintro e w' ⟨rfl, rfl⟩) | (go_at_call 17; with_reducible refine (mul_zero_c _ ha _).mono ?_; rintro e w' ⟨rfl, rfl⟩) | (go_at_call 16; refine (add_any _ _ (by first | assumption | omega) (by first | assumption | omega) _).mono ?_; rintro e w' ⟨rfl, rfl⟩) | (go_at_call 17; refine (mul_any _ _ (by first | assumption | omega) (by first | assumption | omega) _).mono ?_; rintro e w' ⟨rfl, rfl⟩))
  by_cases a0 : a = 0
  · have A0 : Hid (a = 0) := a0
    have e1 : ((a : Int) == 0) = true := by simp; exact a0
    have e2 : ((a : Int) != 0) = false := by simp; exact a0
    clear a0
    by_cases b0 : b = 0
    · have B0 : Hid (b = 0) := b0
      have e3 : ((b : Int) == 0) = true := by simp; exact b0
      have e4 : ((b : Int) != 0) = false := by simp; exact b0
      clear b0
      go_wp2_with (first | (go_at_call 10; refine (inv_none_c _ A0.out _).mono ?_; rintro e w' ⟨rfl, rfl⟩) | (go_at_call 12; refine (div_none_c _ _ B0.out _).mono ?_; rintro e w' ⟨rfl, rfl⟩) | (go_at_call 17; refine (mul_any _ _ (by assumption) (by assumption) _).mono ?_; rintro e w' ⟨rfl, rfl⟩))
      go_ret
      exact ⟨rfl, hg⟩
    · have B0 : Hid (b ≠ 0) := b0
      have e3 : ((b : Int) == 0) = false := by simp; exact b0
      have e4 : ((b : Int) != 0) = true := by simp; exact b0
      have q := bt (q_eq a b ha hb b0)
      clear b0
      go_wp2_with (first | (go_at_call 10; refine (inv_none_c _ A0.out _).mono ?_; rintro e w' ⟨rfl, rfl⟩) | (go_at_call 12; refine (div_some _ _ m1 hb B0.out _).mono ?_; rintro e w' ⟨rfl, rfl⟩) | (go_at_call 17; refine (mul_any _ _ (by assumption) (by assumption) _).mono ?_; rintro e w' ⟨rfl, rfl⟩))
      go_ret
      exact ⟨rfl, hg⟩
  · have A0 : Hid (a ≠ 0) := a0
    have e1 : ((a : Int) == 0) = false := by simp; exact a0
    have e2 : ((a : Int) != 0) = true := by simp; exact a0
    have i1 : (((Gm.mul a (Gm.inv a) : Nat) : Int) == 1) = true := by rw [Gm.inv_mul a ha a0]; rfl
    have i2 := Gm.inv_lt a ha
    clear a0
    by_cases b0 : b = 0
    · have B0 : Hid (b = 0) := b0
      have e3 : ((b : Int) == 0) = true := by simp; exact b0
      have e4 : ((b : Int) != 0) = false := by simp; exact b0
      clear b0
      go_wp2_with (first | (go_at_call 10; refine (inv_some _ ha A0.out _).mono ?_; rintro e w' ⟨rfl, rfl⟩) | (go_at_call 12; refine (div_none_c _ _ B0.out _).mono ?_; rintro e w' ⟨rfl, rfl⟩) | (go_at_call 17; refine (mul_any _ _ (by assumption) (by assumption) _).mono ?_; rintro e w' ⟨rfl, rfl⟩))
      go_ret
      exact ⟨rfl, hg⟩
    · have B0 : Hid (b ≠ 0) := b0
      have e3 : ((b : Int) == 0) = false := by simp; exact b0
      have e4 : ((b : Int) != 0) = true := by simp; exact b0
      have q := bt (q_eq a b ha hb b0)
      clear b0
      go_wp2_with (first | (go_at_call 10; refine (inv_some _ ha A0.out _).mono ?_; rintro e w' ⟨rfl, rfl⟩) | (go_at_call 12; refine (div_some _ _ m1 hb B0.out _).mono ?_; rintro e w' ⟨rfl, rfl⟩) | (go_at_call 17; refine (mul_any _ _ (by assumption) (by assumption) _).mono ?_; rintro e w' ⟨rfl, rfl⟩))
      go_ret
      exact ⟨rfl, hg⟩
theorem walk (a0 : Int) (a1 : Int) (a2 : Int) (w0 : (Lit.int .u8 a0).wf = true) (w1 : (Lit.int .u8 a1).wf = true) (w2 : (Lit.int .u8 a2).wf = true) (w : World) :
    Calls Try.prog 5 #[.int .u8 a0, .int .u8 a1, .int .u8 a2] w fun e w' => e = .returned (.bool true) ∧ Grown w w' := by
  have b0 := bounds_u8 w0
  have b1 := bounds_u8 w1
  have b2 := bounds_u8 w2
  have h := walkN a0.toNat a1.toNat a2.toNat (by omega) (by omega) (by omega) w
  rwa [Int.toNat_of_nonneg b0.1, Int.toNat_of_nonneg b1.1, Int.toNat_of_nonneg b2.1] at h

set_option maxRecDepth 100000 in
theorem lifted (os : Os) (started : os.Started) (H : Type) (enc : TypeId × Value → H) :
    ReturnsInHanded {} Try.checked os 5 .any (Rows.gfLawsSpec.pre6 enc Try.prog Try.f5 Rows.gfLawsRow.domain false) (Rows.gfLawsSpec.post enc Try.prog Try.f5 false true false false) := by
  refine returnsInHanded_of_change (C := Try.checked) own started (by kernel_rfl) Try.func5
    (ChangeSpec.witness6 (enc := enc) (C := Try.checked) false ⟨#[], #[.int .u8 0, .int .u8 0, .int .u8 0], []⟩ 8 (by kernel_rfl) (by kernel_rfl) (by kernel_rfl) (by kernel_rfl)) ?_
  intro W base args ds gs before hval0 hW hcnd _
  have hval : ∀ (j : Nat) t v, Try.f5.params[j]? = some t → args[j]? = some v → Value.okWide Try.prog W .any base t v := hval0
  have hW' := hW
  obtain ⟨p, q, hA0, hV, rfl, hfz, hnd⟩ := hW
  have hA : DataW.TrodAll enc Try.prog W 0 (fun _ => true) true Try.f5.params.toList args.toList ds p := hA0
  rw [Try.params5] at hA hval
  obtain ⟨v0, vs0, d0, ds0, p0, q0, hargs, rfl, rfl, h0, r0⟩ := trodAll_cons hA
  obtain ⟨v1, vs1, d1, ds1, p1, q1, rfl, rfl, rfl, h1, r1⟩ := trodAll_cons r0
  obtain ⟨v2, vs2, d2, ds2, p2, q2, rfl, rfl, rfl, h2, r2⟩ := trodAll_cons r1
  obtain ⟨rfl, rfl, rfl⟩ := trodAll_nil r2
  obtain rfl : args = #[v0, v1, v2] := by cases args; simp_all
  obtain ⟨rfl, rfl⟩ := trodVars_none hV
  obtain ⟨a0, rfl, rfl, rfl, w0⟩ := open_int Try.underlying5 (hval 0 5 v0 rfl rfl) h0
  obtain ⟨a1, rfl, rfl, rfl, w1⟩ := open_int Try.underlying5 (hval 1 5 v1 rfl rfl) h1
  obtain ⟨a2, rfl, rfl, rfl, w2⟩ := open_int Try.underlying5 (hval 2 5 v2 rfl rfl) h2
  clear hA0 hval0
  simp only [List.append_nil] at hW'
  refine (walk a0 a1 a2 w0 w1 w2 W).mono fun e W' ⟨he, hg⟩ => ?_
  subst he
  exact ⟨_, rfl, post_of_same (pa := []) (pv := []) hW' (fun _ _ _ => (trodAll_cons_mk (shut_bool Try.underlying4 _) trodAll_mk0)) (fun sp _ => (trodAll_cons_mk (shut_int Try.underlying5 w0) (trodAll_cons_mk (shut_int Try.underlying5 w1) (trodAll_cons_mk (shut_int Try.underlying5 w2) trodAll_mk0)))) (fun _ _ => rfl) rfl
    (hg.frame _) hg.2.1 (ok_one (by kernel_rfl) rfl (okWide_bool_mk Try.underlying4 _))⟩

theorem over : Rows.gfLawsRow.holds Try.pinned (OpenSpec.ofChange Rows.gfLawsSpec) :=
  OpenClaim.holds_of_wide 5 Try.f5 rfl rfl rfl rfl rfl rfl rfl ⟨rfl, rfl, rfl, rfl, rfl⟩ rfl rfl rfl rfl rfl (by kernel_rfl) Try.func5 (by kernel_rfl)
    (of_decide_eq_true (by kernel_rfl)) (by unfold Func.isWrapper; first | (rw [if_pos (by decide +kernel)]; kernel_rfl) | (rw [if_neg (by decide +kernel)]; exact ⟨rfl, rfl⟩))
    (fun os started H enc _ => lifted os started H enc)

theorem proved : Rows.GfLawsSaid :=
  over
end Go.Proofs.Ytgfleebnddjhgaa.gfLaws
namespace Go.Proofs.Ytgfleebnddjhgaa
theorem gfLaws_holds : Rows.GfLawsSaid := gfLaws.proved
#print axioms gfLaws_holds
end Go.Proofs.Ytgfleebnddjhgaa
