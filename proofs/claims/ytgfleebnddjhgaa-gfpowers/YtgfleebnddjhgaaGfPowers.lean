/- For every byte a and all integers n, m of 64 bits the Go function GfPowers (powers of package gf add in their numbers, powers of 2 are all elements but 0) returns true and leaves its arguments as they were. No condition. -/
import Derived.Test.YtgfleebnddjhgaaRows
import Derived.Test.YtgfleebnddjhgaaWf
import Derived.WalkKit
import Derived.ProofKit
import Derived.OpenShut
import Derived.ShutString
namespace Go.Proofs.Ytgfleebnddjhgaa.gfPowers
open Go.ChangeShapes Go.WideShapes Go.ChangeAt Go.RowKit
open Go.ChangeMaps (open_string shut_string)
set_option linter.unusedVariables false

theorem own : ownKnob Try.prog.godebug = none := by kernel_rfl

theorem wf_i64 {n : Int} (h1 : -9223372036854775808 ≤ n) (h2 : n ≤ 9223372036854775807) : (Lit.int .i64 n).wf = true := by
  simp only [Lit.wf, IntKind.min, IntKind.max, IntKind.signed, IntKind.bits, Bool.and_eq_true, decide_eq_true_eq, if_true]; omega
theorem pow_b (a : Nat) (n : Int) (ha : a < 256) (h1 : -9223372036854775808 ≤ n) (h2 : n ≤ 9223372036854775807) (w : World) :
    Calls Try.prog 19 #[.int .u8 (a : Int), .int .i64 n] w fun e w' => e = .returned (.int .u8 (Gm.powZ a n : Nat)) ∧ w' = w := pow_any a n ha (wf_i64 h1 h2) w
theorem pow_one_c (a : Nat) (ha : a < 256) (w : World) : Calls Try.prog 19 #[.int .u8 (a : Int), .int .i64 (1 : Int)] w fun e w' => e = .returned (.int .u8 (a : Int)) ∧ w' = w := by
  have h := pow_b a 1 ha (by omega) (by omega) w
  rwa [Gm.powZ_one a ha] at h
theorem pow_zero_c (a : Nat) (ha : a < 256) (w : World) : Calls Try.prog 19 #[.int .u8 (a : Int), .int .i64 (0 : Int)] w fun e w' => e = .returned (.int .u8 (1 : Int)) ∧ w' = w := by
  have h := pow_b a 0 ha (by omega) (by omega) w
  exact h
theorem pow_two_c (a l : Nat) (hl : l < 255) (h : Gm.dblN l = a) (w : World) : Calls Try.prog 19 #[.int .u8 (2 : Int), .int .i64 (l : Int)] w fun e w' => e = .returned (.int .u8 (a : Int)) ∧ w' = w := by
  have e : Gm.powZ 2 l = a := by
    rw [Gm.powZ_pos 2 l (by omega) (by omega), ← h, Gm.dblN_eq]
    have : ((l : Int) % 255).toNat = l := by omega
    rw [this]
  have h := pow_b 2 l (by omega) (by omega) (by omega) w
  rw [e] at h; exact h
theorem log_none_c (a : Nat) (h : a = 0) (w : World) : Calls Try.prog 14 #[.int .u8 (a : Int)] w fun e w' => e = .returned (.tuple #[.int .i64 (0 : Int), .bool false]) ∧ w' = w := by
  subst h
  have h := log_any 0 (by omega) w
  rwa [logV_f Gm.log_zero] at h
theorem log_some_c (a : Nat) (ha : a < 256) (h0 : a ≠ 0) : ∃ l : Nat, l < 255 ∧ Gm.dblN l = a ∧ ∀ w : World, Calls Try.prog 14 #[.int .u8 (a : Int)] w fun e w' => e = .returned (.tuple #[.int .i64 (l : Int), .bool true]) ∧ w' = w := by
  have h1 := Gm.log_ok a ha h0
  refine ⟨Gm.log a, h1.1, h1.2, fun w => ?_⟩
  have h := log_any a ha w
  rwa [logV_t h1.1 rfl] at h
theorem tmod40 (n : Int) : -1099511627775 ≤ n.tmod 1099511627776 ∧ n.tmod 1099511627776 ≤ 1099511627775 := by
  have h1 := Int.tmod_lt_of_pos n (show (0 : Int) < 1099511627776 by omega)
  have h2 := Int.lt_tmod_of_pos n (show (0 : Int) < 1099511627776 by omega)
  omega
set_option maxHeartbeats 1000000 in
theorem walkN (a : Nat) (n m : Int) (ha : a < 256) (hn : -9223372036854775808 ≤ n ∧ n ≤ 9223372036854775807) (hm : -9223372036854775808 ≤ m ∧ m ≤ 9223372036854775807) (w : World) :
    Calls Try.prog 6 #[.int .u8 (a : Int), .int .i64 n, .int .i64 m] w fun e w' => e = .returned (.bool true) ∧ Grown w w' := by
  have t1 := tmod40 n
  have t2 := tmod40 m
  by_cases a0 : a = 0
  · have A0 : Hid (a = 0) := a0
    have e1 : ((a : Int) == 0) = true := by simp; exact a0
    have e2 : ((a : Int) != 0) = false := by simp; exact a0
    clear a0
    go_enter Try.func6, Try.ntmps6
    go_wp2_with (first | (go_at_call 9; refine (alive_any _).mono ?_; rintro e w' ⟨rfl, hg, hbl⟩) | (go_at_call 14; refine (log_none_c _ A0.out _).mono ?_; rintro e w' ⟨rfl, rfl⟩) | (go_at_call 19; with_reducible refine (pow_one_c _ ha _).mono ?_; rintro e w' ⟨rfl, rfl⟩) | (go_at_call 19; with_reducible refine (pow_zero_c _ ha _).mono ?_; rintro e w' ⟨rfl, rfl⟩))
    go_ret
    exact ⟨rfl, hg⟩
  · obtain ⟨l, hl, hd, hL⟩ := log_some_c a ha a0
    have HL : Hid (∀ w : World, Calls Try.prog 14 #[.int .u8 (a : Int)] w fun e w' => e = .returned (.tuple #[.int .i64 (l : Int), .bool true]) ∧ w' = w) := hL
    have HT : Hid (∀ w : World, Calls Try.prog 19 #[.int .u8 (2 : Int), .int .i64 (l : Int)] w fun e w' => e = .returned (.int .u8 (a : Int)) ∧ w' = w) := fun w => pow_two_c a l hl hd w
    have hl' : ¬ (254 : Int) < (l : Int) := by omega
    have e1 : ((a : Int) == 0) = false := by simp; exact a0
    have e2 : ((a : Int) != 0) = true := by simp; exact a0
    obtain ⟨N, hN⟩ : ∃ N, n.tmod 1099511627776 = N := ⟨_, rfl⟩
    obtain ⟨M, hM⟩ : ∃ M, m.tmod 1099511627776 = M := ⟨_, rfl⟩
    rw [hN] at t1; rw [hM] at t2
    have q1 : (((Gm.mul (Gm.powZ a N) (Gm.powZ a M) : Nat) : Int) == ((Gm.powZ a (N + M) : Nat) : Int)) = true := by rw [Gm.powZ_add a N M ha a0]; simp
    have q2 : (((Gm.mul (Gm.powZ a N) (Gm.powZ a (-N)) : Nat) : Int) == 1) = true := by rw [Gm.powZ_neg a N ha a0]; rfl
    have p1 := Gm.powZ_lt a N ha
    have p2 := Gm.powZ_lt a M ha
    have p3 := Gm.powZ_lt a (-N) ha
    clear hL hl hd a0 hn hm
    go_enter Try.func6, Try.ntmps6
    go_wp2_with (first | (go_at_call 9; refine (alive_any _).mono ?_; rintro e w' ⟨rfl, hg, hbl⟩) | (go_at_call 14; refine (HL.out _).mono ?_; rintro e w' ⟨rfl, rfl⟩) | (go_at_call 19; with_reducible refine (HT.out _).mono ?_; rintro e w' ⟨rfl, rfl⟩) | (go_at_call 19; with_reducible refine (pow_one_c _ ha _).mono ?_; rintro e w' ⟨rfl, rfl⟩) | (go_at_call 19; with_reducible refine (pow_zero_c _ ha _).mono ?_; rintro e w' ⟨rfl, rfl⟩) | (go_at_call 19; with_reducible refine (pow_b _ _ ha (by omega) (by omega) _).mono ?_; rintro e w' ⟨rfl, rfl⟩) | (go_at_call 17; refine (mul_any _ _ (by assumption) (by assumption) _).mono ?_; rintro e w' ⟨rfl, rfl⟩))
    go_ret
    exact ⟨rfl, hg⟩
theorem walk (a0 : Int) (a1 : Int) (a2 : Int) (w0 : (Lit.int .u8 a0).wf = true) (w1 : (Lit.int .i64 a1).wf = true) (w2 : (Lit.int .i64 a2).wf = true) (w : World) :
    Calls Try.prog 6 #[.int .u8 a0, .int .i64 a1, .int .i64 a2] w fun e w' => e = .returned (.bool true) ∧ Grown w w' := by
  have b0 := bounds_u8 w0
  have b1 := bounds_i64 w1
  have b2 := bounds_i64 w2
  have h := walkN a0.toNat a1 a2 (by omega) b1 b2 w
  rwa [Int.toNat_of_nonneg b0.1] at h

set_option maxRecDepth 100000 in
theorem lifted (os : Os) (started : os.Started) (H : Type) (enc : TypeId × Value → H) :
    ReturnsInHanded {} Try.checked os 6 .any (Rows.gfPowersSpec.pre6 enc Try.prog Try.f6 Rows.gfPowersRow.domain false) (Rows.gfPowersSpec.post enc Try.prog Try.f6 false true false false) := by
  refine returnsInHanded_of_change (C := Try.checked) own started (by kernel_rfl) Try.func6
    (ChangeSpec.witness6 (enc := enc) (C := Try.checked) false ⟨#[], #[.int .u8 0, .int .i64 0, .int .i64 0], []⟩ 8 (by kernel_rfl) (by kernel_rfl) (by kernel_rfl) (by kernel_rfl)) ?_
  intro W base args ds gs before hval0 hW hcnd _
  have hval : ∀ (j : Nat) t v, Try.f6.params[j]? = some t → args[j]? = some v → Value.okWide Try.prog W .any base t v := hval0
  have hW' := hW
  obtain ⟨p, q, hA0, hV, rfl, hfz, hnd⟩ := hW
  have hA : DataW.TrodAll enc Try.prog W 0 (fun _ => true) true Try.f6.params.toList args.toList ds p := hA0
  rw [Try.params6] at hA hval
  obtain ⟨v0, vs0, d0, ds0, p0, q0, hargs, rfl, rfl, h0, r0⟩ := trodAll_cons hA
  obtain ⟨v1, vs1, d1, ds1, p1, q1, rfl, rfl, rfl, h1, r1⟩ := trodAll_cons r0
  obtain ⟨v2, vs2, d2, ds2, p2, q2, rfl, rfl, rfl, h2, r2⟩ := trodAll_cons r1
  obtain ⟨rfl, rfl, rfl⟩ := trodAll_nil r2
  obtain rfl : args = #[v0, v1, v2] := by cases args; simp_all
  obtain ⟨rfl, rfl⟩ := trodVars_none hV
  obtain ⟨a0, rfl, rfl, rfl, w0⟩ := open_int Try.underlying5 (hval 0 5 v0 rfl rfl) h0
  obtain ⟨a1, rfl, rfl, rfl, w1⟩ := open_int Try.underlying3 (hval 1 3 v1 rfl rfl) h1
  obtain ⟨a2, rfl, rfl, rfl, w2⟩ := open_int Try.underlying3 (hval 2 3 v2 rfl rfl) h2
  clear hA0 hval0
  simp only [List.append_nil] at hW'
  refine (walk a0 a1 a2 w0 w1 w2 W).mono fun e W' ⟨he, hg⟩ => ?_
  subst he
  exact ⟨_, rfl, post_of_same (pa := []) (pv := []) hW' (fun _ _ _ => (trodAll_cons_mk (shut_bool Try.underlying4 _) trodAll_mk0)) (fun sp _ => (trodAll_cons_mk (shut_int Try.underlying5 w0) (trodAll_cons_mk (shut_int Try.underlying3 w1) (trodAll_cons_mk (shut_int Try.underlying3 w2) trodAll_mk0)))) (fun _ _ => rfl) rfl
    (hg.frame _) hg.2.1 (ok_one (by kernel_rfl) rfl (okWide_bool_mk Try.underlying4 _))⟩

theorem over : Rows.gfPowersRow.holds Try.pinned (OpenSpec.ofChange Rows.gfPowersSpec) :=
  OpenClaim.holds_of_wide 6 Try.f6 rfl rfl rfl rfl rfl rfl rfl ⟨rfl, rfl, rfl, rfl, rfl⟩ rfl rfl rfl rfl rfl (by kernel_rfl) Try.func6 (by kernel_rfl)
    (of_decide_eq_true (by kernel_rfl)) (by unfold Func.isWrapper; first | (rw [if_pos (by decide +kernel)]; kernel_rfl) | (rw [if_neg (by decide +kernel)]; exact ⟨rfl, rfl⟩))
    (fun os started H enc _ => lifted os started H enc)

theorem proved : Rows.GfPowersSaid :=
  over
end Go.Proofs.Ytgfleebnddjhgaa.gfPowers
namespace Go.Proofs.Ytgfleebnddjhgaa
theorem gfPowers_holds : Rows.GfPowersSaid := gfPowers.proved
#print axioms gfPowers_holds
end Go.Proofs.Ytgfleebnddjhgaa
