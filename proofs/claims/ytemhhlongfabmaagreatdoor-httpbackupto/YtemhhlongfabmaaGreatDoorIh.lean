/- The document's firstLine. -/
import Derived.Test.YtemhhlongfabmaaGreatDoorIg
import Derived.OwnWalk
namespace Go.Proofs.YtemhhlongfabmaaGreatDoor
open Go.ChangeShapes Go.WideShapes Go.ChangeAt Go.RowKit
set_option maxRecDepth 20000
set_option linter.unusedVariables false
set_option linter.unusedSimpArgs false
def FirstR (o : Option (ByteArray × ByteArray)) (e : Ending) : Prop := match o with
  | some (m, t) => e = .returned (.tuple #[.string m, .string t, .bool true])
  | none => e = .returned (.tuple #[.string ⟨#[]⟩, .string ⟨#[]⟩, .bool false])
theorem gr_no1 {x : Nat} (h : ¬ 65 ≤ x) : grB x = false := decide_eq_false (fun e => h e.1)
theorem gr_no2 {x : Nat} (h : ¬ x ≤ 90) : grB x = false := decide_eq_false (fun e => h e.2)
theorem gr_ok {x : Nat} (h : 65 ≤ x) (h2 : x ≤ 90) : grB x = true := decide_eq_true ⟨h, h2⟩
theorem tg_no1 {x : Nat} (h : ¬ 33 ≤ x) : tgB x = false := decide_eq_false (fun e => h e.1)
theorem tg_no2 {x : Nat} (h : ¬ x ≤ 126) : tgB x = false := decide_eq_false (fun e => h e.2)
theorem tg_ok {x : Nat} (h : 33 ≤ x) (h2 : x ≤ 126) : tgB x = true := decide_eq_true ⟨h, h2⟩
set_option maxHeartbeats 8000000 in
theorem firstLine_n (s : ByteArray) (hs : s.size ≤ 4096) (w : World) : Calls Tryz.prog 32 #[.string s] w fun e w' => FirstR (rdF s) e ∧ Hid (Below w.heap.size w w') := by
  have IX : ∀ (i : Nat), i < s.size → ∀ W, (Instr.index 9 (.string s) (.int .i64 (i : Int))).run Tryz.prog W = .ok (.int .u8 (sb s i : Nat)) W := fun i h W => sb_ix s i i rfl h W
  have HIX := (show Hid (∀ (i : Nat), i < s.size → ∀ W, (Instr.index 9 (.string s) (.int .i64 (i : Int))).run Tryz.prog W = .ok (.int .u8 (sb s i : Nat)) W) from IX)
  clear IX
  go_enter Tryz.func32, Tryz.ntmps32
  go_wp2
  go_loopw [5] (fun ti wr => ∃ a : Nat, a ≤ s.size ∧ ti = .int .i64 (a : Int) ∧ Hid (∀ j, j < a → grB (sb s j) = true) ∧ Hid (Below w.heap.size w wr)) (fun ti _ => s.size - (intOf ti).toNat)
  case atStart => exact ⟨0, by omega, rfl, fun j hj => by omega, Below.refl _ _⟩
  case round =>
    obtain ⟨a, ha, rfl, HA, HB⟩ := hrel
    by_cases h1 : a < s.size
    · have i1 : (a : Int) < (s.size : Int) := by omega
      have X0 := HIX.out a h1
      obtain ⟨x, Hx⟩ : ∃ x, Hid (sb s a = x) := ⟨_, rfl⟩
      rw [Hx.out] at X0
      by_cases h2 : 65 ≤ x
      · have i2 : (65 : Int) ≤ (x : Int) := by omega
        by_cases h3 : x ≤ 90
        · have i3 : (x : Int) ≤ 90 := by omega
          have NX : Hid (∀ j, j < a + 1 → grB (sb s j) = true) := fun j hj => by
            by_cases e : j = a
            · rw [e, Hx.out]; exact gr_ok h2 h3
            · exact HA.out j (by omega)
          go_wp2
          go_roundw
          case rel => exact ⟨a + 1, by omega, by go_num, NX.out, HB.out⟩
          case measure => simp [intOf]; omega
        · have i3 : ¬ ((x : Int) ≤ 90) := by omega
          have EV : Hid (rdF s = none) := rdF_no1 HA.out (fun _ => by rw [Hx.out]; exact gr_no2 h3) (fun e => by have h := e.2.2.2; rw [Hx.out] at h; omega)
          have i4 : ¬ ((x : Int) = 32) := by omega
          have i5 : ¬ ((s.size : Int) ≤ (a : Int)) := by omega
          by_cases a1 : (a : Int) < 1
          · go_wp2
            go_ret3
            rw [EV.out]
            exact ⟨rfl, HB.out⟩
          · by_cases a2 : (16 : Int) < (a : Int)
            · go_wp2
              go_ret3
              rw [EV.out]
              exact ⟨rfl, HB.out⟩
            · go_wp2
              go_ret3
              rw [EV.out]
              exact ⟨rfl, HB.out⟩
      · have i2 : ¬ ((65 : Int) ≤ (x : Int)) := by omega
        have i5 : ¬ ((s.size : Int) ≤ (a : Int)) := by omega
        have HST : Hid (a < s.size → grB (sb s a) = false) := fun _ => by rw [Hx.out]; exact gr_no1 h2
        by_cases a1 : (a : Int) < 1
        · have EV : Hid (rdF s = none) := rdF_no1 HA.out HST.out (fun e => by have h := e.1; omega)
          go_wp2
          go_ret3
          rw [EV.out]
          exact ⟨rfl, HB.out⟩
        · by_cases a2 : (16 : Int) < (a : Int)
          · have EV : Hid (rdF s = none) := rdF_no1 HA.out HST.out (fun e => by have h := e.2.1; omega)
            go_wp2
            go_ret3
            rw [EV.out]
            exact ⟨rfl, HB.out⟩
          · by_cases x32 : x = 32
            · subst x32
              go_upto_region 7 with (fail)
              clear i1 i2 i5 X0
              go_wp2
              go_loopw [6] (fun tz wz => ∃ z : Nat, a + 1 ≤ z ∧ z ≤ s.size ∧ tz = .int .i64 (z : Int) ∧ Hid (∀ j, a + 1 ≤ j → j < z → tgB (sb s j) = true) ∧ Hid (Below w.heap.size w wz)) (fun tz _ => s.size - (intOf tz).toNat)
              case atStart => exact ⟨a + 1, by omega, by omega, by go_num, fun j h1 h2 => by omega, HB.out⟩
              case round =>
                obtain ⟨z, haz, hzs, rfl, HZ, HB2⟩ := hrel
                have k1 : (a : Int) + 1 ≤ (z : Int) := by omega
                have k2 : (z : Int) ≤ (s.size : Int) := by omega
                by_cases g1 : z < s.size
                · have j1 : (z : Int) < (s.size : Int) := by omega
                  have Y0 := HIX.out z g1
                  obtain ⟨y, Hy⟩ : ∃ y, Hid (sb s z = y) := ⟨_, rfl⟩
                  rw [Hy.out] at Y0
                  by_cases g2 : 33 ≤ y
                  · have j2 : (33 : Int) ≤ (y : Int) := by omega
                    by_cases g3 : y ≤ 126
                    · have j3 : (y : Int) ≤ 126 := by omega
                      have NZ : Hid (∀ j, a + 1 ≤ j → j < z + 1 → tgB (sb s j) = true) := fun j h4 h5 => by
                        by_cases e : j = z
                        · rw [e, Hy.out]; exact tg_ok g2 g3
                        · exact HZ.out j h4 (by omega)
                      go_wp2
                      go_roundw
                      case rel => exact ⟨z + 1, by omega, by omega, by go_num, NZ.out, HB2.out⟩
                      case measure => simp [intOf]; omega
                    · have j3 : ¬ ((y : Int) ≤ 126) := by omega
                      have HSZ : Hid (z < s.size → tgB (sb s z) = false) := fun _ => by rw [Hy.out]; exact tg_no2 g3
                      by_cases z0 : z = a + 1
                      · subst z0
                        have Y1 : ∀ W, (Instr.index 9 (.string s) (.int .i64 ((a : Int) + 1))).run Tryz.prog W = .ok (.int .u8 (y : Nat)) W := Y0
                        have j1b : (a : Int) + 1 < (s.size : Int) := by omega
                        have EV : Hid (rdF s = none) := rdF_no2 HA.out HST.out haz HZ.out HSZ.out (fun e => by have h := e.1; omega)
                        go_wp2
                        go_ret3
                        rw [EV.out]
                        exact ⟨rfl, HB2.out⟩
                      · have e0 : ¬ ((z : Int) = (a : Int) + 1) := by omega
                        have V0 := HIX.out (a + 1) (by omega)
                        obtain ⟨v, Hv⟩ : ∃ v, Hid (sb s (a + 1) = v) := ⟨_, rfl⟩
                        rw [Hv.out] at V0
                        have V1 : ∀ W, (Instr.index 9 (.string s) (.int .i64 ((a : Int) + 1))).run Tryz.prog W = .ok (.int .u8 (v : Nat)) W := V0
                        clear V0
                        by_cases v47 : v = 47
                        · subst v47
                          obtain ⟨r, Hr⟩ : ∃ r, Hid (s.extract z s.size = r) := ⟨_, rfl⟩
                          obtain ⟨bq, Eq⟩ : ∃ b, Hid (decide (r = spv) = b) := ⟨_, rfl⟩
                          have q2 : ((s.extract z s.size).toList == [32, 72, 84, 84, 80, 47, 49, 46, 49]) = bq := beq_lit (t := spv) (by rw [Hr.out]; exact Eq.out) rfl
                          cases bq with
                          | true =>
                            have EV : Hid (rdF s = some (s.extract 0 a, s.extract (a + 1) z)) := rdF_yes HA.out (by omega) (by omega) h1 Hx.out hzs HZ.out (by omega) Hv.out (by rw [Hr.out]; exact of_decide_eq_true Eq.out)
                            have k3 : (a : Int) ≤ (s.size : Int) := by omega
                            have k4 : (0 : Int) ≤ (a : Int) + 1 := by omega
                            have k5 : ((a : Int) + 1).toNat = a + 1 := by omega
                            go_upto_region 11 with (fail)
                            go_quiet (fail)
                            go_wp2
                            go_ret3
                            rw [EV.out]
                            exact ⟨rfl, below_drewN HB2.out _⟩
                          | false =>
                            have EV : Hid (rdF s = none) := rdF_no2 HA.out HST.out haz HZ.out HSZ.out (fun e => of_decide_eq_false Eq.out (by rw [← Hr.out]; exact e.2.2))
                            go_wp2
                            go_ret3
                            rw [EV.out]
                            exact ⟨rfl, HB2.out⟩
                        · have v1 : ¬ ((v : Int) = 47) := by omega
                          have EV : Hid (rdF s = none) := rdF_no2 HA.out HST.out haz HZ.out HSZ.out (fun e => v47 (by rw [← Hv.out]; exact e.2.1))
                          go_wp2
                          go_ret3
                          rw [EV.out]
                          exact ⟨rfl, HB2.out⟩
                  · have j2 : ¬ ((33 : Int) ≤ (y : Int)) := by omega
                    have HSZ : Hid (z < s.size → tgB (sb s z) = false) := fun _ => by rw [Hy.out]; exact tg_no1 g2
                    by_cases z0 : z = a + 1
                    · subst z0
                      have Y1 : ∀ W, (Instr.index 9 (.string s) (.int .i64 ((a : Int) + 1))).run Tryz.prog W = .ok (.int .u8 (y : Nat)) W := Y0
                      have j1b : (a : Int) + 1 < (s.size : Int) := by omega
                      have EV : Hid (rdF s = none) := rdF_no2 HA.out HST.out haz HZ.out HSZ.out (fun e => by have h := e.1; omega)
                      go_wp2
                      go_ret3
                      rw [EV.out]
                      exact ⟨rfl, HB2.out⟩
                    · have e0 : ¬ ((z : Int) = (a : Int) + 1) := by omega
                      have V0 := HIX.out (a + 1) (by omega)
                      obtain ⟨v, Hv⟩ : ∃ v, Hid (sb s (a + 1) = v) := ⟨_, rfl⟩
                      rw [Hv.out] at V0
                      have V1 : ∀ W, (Instr.index 9 (.string s) (.int .i64 ((a : Int) + 1))).run Tryz.prog W = .ok (.int .u8 (v : Nat)) W := V0
                      clear V0
                      by_cases v47 : v = 47
                      · subst v47
                        obtain ⟨r, Hr⟩ : ∃ r, Hid (s.extract z s.size = r) := ⟨_, rfl⟩
                        obtain ⟨bq, Eq⟩ : ∃ b, Hid (decide (r = spv) = b) := ⟨_, rfl⟩
                        have q2 : ((s.extract z s.size).toList == [32, 72, 84, 84, 80, 47, 49, 46, 49]) = bq := beq_lit (t := spv) (by rw [Hr.out]; exact Eq.out) rfl
                        cases bq with
                        | true =>
                          have EV : Hid (rdF s = some (s.extract 0 a, s.extract (a + 1) z)) := rdF_yes HA.out (by omega) (by omega) h1 Hx.out hzs HZ.out (by omega) Hv.out (by rw [Hr.out]; exact of_decide_eq_true Eq.out)
                          have k3 : (a : Int) ≤ (s.size : Int) := by omega
                          have k4 : (0 : Int) ≤ (a : Int) + 1 := by omega
                          have k5 : ((a : Int) + 1).toNat = a + 1 := by omega
                          go_upto_region 11 with (fail)
                          go_quiet (fail)
                          go_wp2
                          go_ret3
                          rw [EV.out]
                          exact ⟨rfl, below_drewN HB2.out _⟩
                        | false =>
                          have EV : Hid (rdF s = none) := rdF_no2 HA.out HST.out haz HZ.out HSZ.out (fun e => of_decide_eq_false Eq.out (by rw [← Hr.out]; exact e.2.2))
                          go_wp2
                          go_ret3
                          rw [EV.out]
                          exact ⟨rfl, HB2.out⟩
                      · have v1 : ¬ ((v : Int) = 47) := by omega
                        have EV : Hid (rdF s = none) := rdF_no2 HA.out HST.out haz HZ.out HSZ.out (fun e => v47 (by rw [← Hv.out]; exact e.2.1))
                        go_wp2
                        go_ret3
                        rw [EV.out]
                        exact ⟨rfl, HB2.out⟩
                · have j1 : ¬ ((z : Int) < (s.size : Int)) := by omega
                  have HSZ : Hid (z < s.size → tgB (sb s z) = false) := fun h => absurd h g1
                  by_cases z0 : z = a + 1
                  · subst z0
                    have j1b : ¬ ((a : Int) + 1 < (s.size : Int)) := by omega
                    have EV : Hid (rdF s = none) := rdF_no2 HA.out HST.out haz HZ.out HSZ.out (fun e => by have h := e.1; omega)
                    go_wp2
                    go_ret3
                    rw [EV.out]
                    exact ⟨rfl, HB2.out⟩
                  · have e0 : ¬ ((z : Int) = (a : Int) + 1) := by omega
                    have V0 := HIX.out (a + 1) (by omega)
                    obtain ⟨v, Hv⟩ : ∃ v, Hid (sb s (a + 1) = v) := ⟨_, rfl⟩
                    rw [Hv.out] at V0
                    have V1 : ∀ W, (Instr.index 9 (.string s) (.int .i64 ((a : Int) + 1))).run Tryz.prog W = .ok (.int .u8 (v : Nat)) W := V0
                    clear V0
                    by_cases v47 : v = 47
                    · subst v47
                      obtain ⟨r, Hr⟩ : ∃ r, Hid (s.extract z s.size = r) := ⟨_, rfl⟩
                      obtain ⟨bq, Eq⟩ : ∃ b, Hid (decide (r = spv) = b) := ⟨_, rfl⟩
                      have q2 : ((s.extract z s.size).toList == [32, 72, 84, 84, 80, 47, 49, 46, 49]) = bq := beq_lit (t := spv) (by rw [Hr.out]; exact Eq.out) rfl
                      cases bq with
                      | true =>
                        have EV : Hid (rdF s = some (s.extract 0 a, s.extract (a + 1) z)) := rdF_yes HA.out (by omega) (by omega) h1 Hx.out hzs HZ.out (by omega) Hv.out (by rw [Hr.out]; exact of_decide_eq_true Eq.out)
                        have k3 : (a : Int) ≤ (s.size : Int) := by omega
                        have k4 : (0 : Int) ≤ (a : Int) + 1 := by omega
                        have k5 : ((a : Int) + 1).toNat = a + 1 := by omega
                        go_upto_region 11 with (fail)
                        go_quiet (fail)
                        go_wp2
                        go_ret3
                        rw [EV.out]
                        exact ⟨rfl, below_drewN HB2.out _⟩
                      | false =>
                        have EV : Hid (rdF s = none) := rdF_no2 HA.out HST.out haz HZ.out HSZ.out (fun e => of_decide_eq_false Eq.out (by rw [← Hr.out]; exact e.2.2))
                        go_wp2
                        go_ret3
                        rw [EV.out]
                        exact ⟨rfl, HB2.out⟩
                    · have v1 : ¬ ((v : Int) = 47) := by omega
                      have EV : Hid (rdF s = none) := rdF_no2 HA.out HST.out haz HZ.out HSZ.out (fun e => v47 (by rw [← Hv.out]; exact e.2.1))
                      go_wp2
                      go_ret3
                      rw [EV.out]
                      exact ⟨rfl, HB2.out⟩
            · have i6 : ¬ ((x : Int) = 32) := by omega
              have EV : Hid (rdF s = none) := rdF_no1 HA.out HST.out (fun e => by have h := e.2.2.2; rw [Hx.out] at h; exact x32 h)
              go_wp2
              go_ret3
              rw [EV.out]
              exact ⟨rfl, HB.out⟩
    · have i1 : ¬ ((a : Int) < (s.size : Int)) := by omega
      have i5 : (s.size : Int) ≤ (a : Int) := by omega
      have EV : Hid (rdF s = none) := rdF_no1 HA.out (fun h => absurd h h1) (fun e => h1 e.2.2.1)
      by_cases a1 : (a : Int) < 1
      · go_wp2
        go_ret3
        rw [EV.out]
        exact ⟨rfl, HB.out⟩
      · by_cases a2 : (16 : Int) < (a : Int)
        · go_wp2
          go_ret3
          rw [EV.out]
          exact ⟨rfl, HB.out⟩
        · go_wp2
          go_ret3
          rw [EV.out]
          exact ⟨rfl, HB.out⟩
end Go.Proofs.YtemhhlongfabmaaGreatDoor
