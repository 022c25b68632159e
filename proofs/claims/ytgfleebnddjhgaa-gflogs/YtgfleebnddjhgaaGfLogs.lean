/- For every two bytes a, b the Go function GfLogs (logarithms of package gf add, modulo 255; unlike elements have unlike ones) returns true and leaves its arguments as they were. No condition. -/
import Derived.Test.YtgfleebnddjhgaaRows
import Derived.Test.YtgfleebnddjhgaaGfPowers
import Derived.WalkKit
import Derived.ProofKit
import Derived.OpenShut
import Derived.ShutString
namespace Go.Proofs.Ytgfleebnddjhgaa.gfLogs
open Go.ChangeShapes Go.WideShapes Go.ChangeAt Go.RowKit
open Go.ChangeMaps (open_string shut_string)
set_option linter.unusedVariables false

theorem own : ownKnob Try.prog.godebug = none := by kernel_rfl

open gfPowers (log_none_c log_some_c)
theorem log_add (x y : Nat) (z : Nat) (hz : z < 255) (h : Gm.dblN z = Gm.mul (Gm.dblN x) (Gm.dblN y)) : z = (x + y) % 255 := by
  rw [Gm.dblN_eq x, Gm.dblN_eq y, ← Gm.mpow_add 2 x y (by omega), ← Gm.mpow_mod 2 (x + y) (by omega) (by omega), ← Gm.dblN_eq] at h
  have h1 := Gm.log_first z hz
  have h2 := Gm.log_first ((x + y) % 255) (by omega)
  rw [← h1, h, h2]
theorem mul_ne (a b : Nat) (ha : a < 256) (hb : b < 256) (h1 : a ≠ 0) (h2 : b ≠ 0) : Gm.mul a b ≠ 0 := by
  intro e
  have h := Gm.inv_mul a ha h1
  have h3 : Gm.mul (Gm.inv a) (Gm.mul a b) = b := by
    rw [← Gm.mul_assoc _ _ _ (Gm.inv_lt a ha) ha hb, Gm.mul_comm (Gm.inv a) a (Gm.inv_lt a ha) ha, h, Gm.one_mul b hb]
  rw [e, Gm.mul_zero] at h3
  exact h2 h3.symm
set_option maxHeartbeats 1000000 in
theorem walkN (a b : Nat) (ha : a < 256) (hb : b < 256) (w : World) :
    Calls Try.prog 8 #[.int .u8 (a : Int), .int .u8 (b : Int)] w fun e w' => e = .returned (.bool true) ∧ Grown w w' := by
  have hab := Gm.mul_lt a b ha
  obtain ⟨c, hc⟩ : ∃ c, Hid (Gm.mul a b = c) := ⟨_, rfl⟩
  have HM : Hid (∀ w : World, Calls Try.prog 17 #[.int .u8 (a : Int), .int .u8 (b : Int)] w fun e w' => e = .returned (.int .u8 (c : Int)) ∧ w' = w) := fun w => by rw [← hc.out]; exact mul_any a b ha hb w
  rw [hc.out] at hab
  by_cases a0 : a = 0
  · have c0 : c = 0 := by rw [← hc.out, a0, Gm.zero_mul]
    have LA : Hid (∀ w : World, Calls Try.prog 14 #[.int .u8 (a : Int)] w fun e w' => e = .returned (.tuple #[.int .i64 (0 : Int), .bool false]) ∧ w' = w) := fun w => log_none_c a a0 w
    have LC : Hid (∀ w : World, Calls Try.prog 14 #[.int .u8 (c : Int)] w fun e w' => e = .returned (.tuple #[.int .i64 (0 : Int), .bool false]) ∧ w' = w) := fun w => log_none_c c c0 w
    have e2 : ((a : Int) != 0) = false := by simp; exact a0
    clear a0 c0
    by_cases b0 : b = 0
    · have LB : Hid (∀ w : World, Calls Try.prog 14 #[.int .u8 (b : Int)] w fun e w' => e = .returned (.tuple #[.int .i64 (0 : Int), .bool false]) ∧ w' = w) := fun w => log_none_c b b0 w
      have e3 : ((b : Int) != 0) = false := by simp; exact b0
      clear b0
      go_enter Try.func8, Try.ntmps8
      go_wp2_with (first | (go_at_call 9; refine (alive_any _).mono ?_; rintro e w' ⟨rfl, hg, hbl⟩) | (go_at_call 17; refine (HM.out _).mono ?_; rintro e w' ⟨rfl, rfl⟩) | (go_at_call 14; with_reducible refine (LA.out _).mono ?_; rintro e w' ⟨rfl, rfl⟩) | (go_at_call 14; with_reducible refine (LB.out _).mono ?_; rintro e w' ⟨rfl, rfl⟩) | (go_at_call 14; with_reducible refine (LC.out _).mono ?_; rintro e w' ⟨rfl, rfl⟩))
      go_ret
      exact ⟨rfl, hg⟩
    · obtain ⟨y, hy, hd, hL⟩ := log_some_c b hb b0
      have LB : Hid (∀ w : World, Calls Try.prog 14 #[.int .u8 (b : Int)] w fun e w' => e = .returned (.tuple #[.int .i64 (y : Int), .bool true]) ∧ w' = w) := hL
      have e3 : ((b : Int) != 0) = true := by simp; exact b0
      clear b0 hL hd hy
      go_enter Try.func8, Try.ntmps8
      go_wp2_with (first | (go_at_call 9; refine (alive_any _).mono ?_; rintro e w' ⟨rfl, hg, hbl⟩) | (go_at_call 17; refine (HM.out _).mono ?_; rintro e w' ⟨rfl, rfl⟩) | (go_at_call 14; with_reducible refine (LA.out _).mono ?_; rintro e w' ⟨rfl, rfl⟩) | (go_at_call 14; with_reducible refine (LB.out _).mono ?_; rintro e w' ⟨rfl, rfl⟩) | (go_at_call 14; with_reducible refine (LC.out _).mono ?_; rintro e w' ⟨rfl, rfl⟩))
      go_ret
      exact ⟨rfl, hg⟩
  · obtain ⟨x, hx, hdx, hLx⟩ := log_some_c a ha a0
    have LA : Hid (∀ w : World, Calls Try.prog 14 #[.int .u8 (a : Int)] w fun e w' => e = .returned (.tuple #[.int .i64 (x : Int), .bool true]) ∧ w' = w) := hLx
    have e2 : ((a : Int) != 0) = true := by simp; exact a0
    by_cases b0 : b = 0
    · have c0 : c = 0 := by rw [← hc.out, b0, Gm.mul_zero]
      have LB : Hid (∀ w : World, Calls Try.prog 14 #[.int .u8 (b : Int)] w fun e w' => e = .returned (.tuple #[.int .i64 (0 : Int), .bool false]) ∧ w' = w) := fun w => log_none_c b b0 w
      have LC : Hid (∀ w : World, Calls Try.prog 14 #[.int .u8 (c : Int)] w fun e w' => e = .returned (.tuple #[.int .i64 (0 : Int), .bool false]) ∧ w' = w) := fun w => log_none_c c c0 w
      have e3 : ((b : Int) != 0) = false := by simp; exact b0
      clear a0 b0 c0 hLx hdx hx
      go_enter Try.func8, Try.ntmps8
      go_wp2_with (first | (go_at_call 9; refine (alive_any _).mono ?_; rintro e w' ⟨rfl, hg, hbl⟩) | (go_at_call 17; refine (HM.out _).mono ?_; rintro e w' ⟨rfl, rfl⟩) | (go_at_call 14; with_reducible refine (LA.out _).mono ?_; rintro e w' ⟨rfl, rfl⟩) | (go_at_call 14; with_reducible refine (LB.out _).mono ?_; rintro e w' ⟨rfl, rfl⟩) | (go_at_call 14; with_reducible refine (LC.out _).mono ?_; rintro e w' ⟨rfl, rfl⟩))
      go_ret
      exact ⟨rfl, hg⟩
    · obtain ⟨y, hy, hdy, hLy⟩ := log_some_c b hb b0
      have c0 : c ≠ 0 := by rw [← hc.out]; exact mul_ne a b ha hb a0 b0
      obtain ⟨z, hz, hdz, hLz⟩ := log_some_c c hab c0
      have LB : Hid (∀ w : World, Calls Try.prog 14 #[.int .u8 (b : Int)] w fun e w' => e = .returned (.tuple #[.int .i64 (y : Int), .bool true]) ∧ w' = w) := hLy
      have LC : Hid (∀ w : World, Calls Try.prog 14 #[.int .u8 (c : Int)] w fun e w' => e = .returned (.tuple #[.int .i64 (z : Int), .bool true]) ∧ w' = w) := hLz
      have e3 : ((b : Int) != 0) = true := by simp; exact b0
      have hzz : z = (x + y) % 255 := log_add x y z hz (by rw [hdz, hdx, hdy]; exact hc.out.symm)
      have e4 : ((z : Int) == ((x : Int) + (y : Int)) % 255) = true := by rw [hzz]; simp
      have e5 : (((x : Int) == (y : Int)) == ((a : Int) == (b : Int))) = true := by
        have h1 : x = y ↔ a = b := by
          constructor
          · intro h; rw [← hdx, ← hdy, h]
          · intro h; have h1 := Gm.log_first x hx; have h2 := Gm.log_first y hy; rw [← h1, ← h2, hdx, hdy, h]
        by_cases h : x = y
        · have h2 := h1.1 h; subst h; subst h2; simp
        · have h2 : ¬ a = b := fun e => h (h1.2 e)
          have g1 : ((x : Int) == (y : Int)) = false := by simp; omega
          have g2 : ((a : Int) == (b : Int)) = false := by simp; omega
          rw [g1, g2]; rfl
      have hxi : (x : Int) ≤ 254 := by omega
      have hyi : (y : Int) ≤ 254 := by omega
      clear a0 b0 c0 hLx hLy hLz hdx hdy hdz hx hy hz hzz
      go_enter Try.func8, Try.ntmps8
      go_wp2_with (first | (go_at_call 9; refine (alive_any _).mono ?_; rintro e w' ⟨rfl, hg, hbl⟩) | (go_at_call 17; refine (HM.out _).mono ?_; rintro e w' ⟨rfl, rfl⟩) | (go_at_call 14; with_reducible refine (LA.out _).mono ?_; rintro e w' ⟨rfl, rfl⟩) | (go_at_call 14; with_reducible refine (LB.out _).mono ?_; rintro e w' ⟨rfl, rfl⟩) | (go_at_call 14; with_reducible refine (LC.out _).mono ?_; rintro e w' ⟨rfl, rfl⟩))
      go_ret
      exact ⟨rfl, hg⟩
theorem walk (a0 : Int) (a1 : Int) (w0 : (Lit.int .u8 a0).wf = true) (w1 : (Lit.int .u8 a1).wf = true) (w : World) :
    Calls Try.prog 8 #[.int .u8 a0, .int .u8 a1] w fun e w' => e = .returned (.bool true) ∧ Grown w w' := by
  have b0 := bounds_u8 w0
  have b1 := bounds_u8 w1
  have h := walkN a0.toNat a1.toNat (by omega) (by omega) w
  rwa [Int.toNat_of_nonneg b0.1, Int.toNat_of_nonneg b1.1] at h

set_option maxRecDepth 100000 in
theorem lifted (os : Os) (started : os.Started) (H : Type) (enc : TypeId × Value → H) :
    ReturnsInHanded {} Try.checked os 8 .any (Rows.gfLogsSpec.pre6 enc Try.prog Try.f8 Rows.gfLogsRow.domain false) (Rows.gfLogsSpec.post enc Try.prog Try.f8 false true false false) := by
  refine returnsInHanded_of_change (C := Try.checked) own started (by kernel_rfl) Try.func8
    (ChangeSpec.witness6 (enc := enc) (C := Try.checked) false ⟨#[], #[.int .u8 0, .int .u8 0], []⟩ 8 (by kernel_rfl) (by kernel_rfl) (by kernel_rfl) (by kernel_rfl)) ?_
  intro W base args ds gs before hval0 hW hcnd _
  have hval : ∀ (j : Nat) t v, Try.f8.params[j]? = some t → args[j]? = some v → Value.okWide Try.prog W .any base t v := hval0
  have hW' := hW
  obtain ⟨p, q, hA0, hV, rfl, hfz, hnd⟩ := hW
  have hA : DataW.TrodAll enc Try.prog W 0 (fun _ => true) true Try.f8.params.toList args.toList ds p := hA0
  rw [Try.params8] at hA hval
  obtain ⟨v0, vs0, d0, ds0, p0, q0, hargs, rfl, rfl, h0, r0⟩ := trodAll_cons hA
  obtain ⟨v1, vs1, d1, ds1, p1, q1, rfl, rfl, rfl, h1, r1⟩ := trodAll_cons r0
  obtain ⟨rfl, rfl, rfl⟩ := trodAll_nil r1
  obtain rfl : args = #[v0, v1] := by cases args; simp_all
  obtain ⟨rfl, rfl⟩ := trodVars_none hV
  obtain ⟨a0, rfl, rfl, rfl, w0⟩ := open_int Try.underlying5 (hval 0 5 v0 rfl rfl) h0
  obtain ⟨a1, rfl, rfl, rfl, w1⟩ := open_int Try.underlying5 (hval 1 5 v1 rfl rfl) h1
  clear hA0 hval0
  simp only [List.append_nil] at hW'
  refine (walk a0 a1 w0 w1 W).mono fun e W' ⟨he, hg⟩ => ?_
  subst he
  exact ⟨_, rfl, post_of_same (pa := []) (pv := []) hW' (fun _ _ _ => (trodAll_cons_mk (shut_bool Try.underlying4 _) trodAll_mk0)) (fun sp _ => (trodAll_cons_mk (shut_int Try.underlying5 w0) (trodAll_cons_mk (shut_int Try.underlying5 w1) trodAll_mk0))) (fun _ _ => rfl) rfl
    (hg.frame _) hg.2.1 (ok_one (by kernel_rfl) rfl (okWide_bool_mk Try.underlying4 _))⟩

theorem over : Rows.gfLogsRow.holds Try.pinned (OpenSpec.ofChange Rows.gfLogsSpec) :=
  OpenClaim.holds_of_wide 8 Try.f8 rfl rfl rfl rfl rfl rfl rfl ⟨rfl, rfl, rfl, rfl, rfl⟩ rfl rfl rfl rfl rfl (by kernel_rfl) Try.func8 (by kernel_rfl)
    (of_decide_eq_true (by kernel_rfl)) (by unfold Func.isWrapper; first | (rw [if_pos (by decide +kernel)]; kernel_rfl) | (rw [if_neg (by decide +kernel)]; exact ⟨rfl, rfl⟩))
    (fun os started H enc _ => lifted os started H enc)

theorem proved : Rows.GfLogsSaid :=
  over
end Go.Proofs.Ytgfleebnddjhgaa.gfLogs
namespace Go.Proofs.Ytgfleebnddjhgaa
theorem gfLogs_holds : Rows.GfLogsSaid := gfLogs.proved
#print axioms gfLogs_holds
end Go.Proofs.Ytgfleebnddjhgaa
