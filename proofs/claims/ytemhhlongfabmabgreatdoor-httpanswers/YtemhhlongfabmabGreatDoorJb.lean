/- HttpAnswers. -/
import Derived.Test.YtemhhlongfabmabGreatDoorJa
namespace Go.Proofs.YtemhhlongfabmabGreatDoor
open Go.ChangeShapes Go.WideShapes Go.ChangeAt Go.RowKit
set_option maxRecDepth 20000
set_option linter.unusedVariables false
set_option linter.unusedSimpArgs false
theorem lo_run {g : Nat} {n c lo : Nat} (h1 : lo ≤ n) (w : World) : (Instr.sliceAt 22 (.slice (some ⟨g, 0, none⟩) n c) (some (.int .i64 (lo : Nat))) none none).run Tryz.prog w = .ok (.slice (adr (some ⟨g, 0, none⟩) c lo) (n - lo) (c - lo)) w := by
  have el : Tryz.prog.elem 22 = 5 := by kernel_rfl
  have hu : Tryz.prog.underlying 22 = some (.slice (Tryz.prog.elem 22)) := by rw [el]; exact Tryz.underlying22
  rw [run_sliceAt_slice w 22 _ _ _ _ hu, run_slice_l w 22 _ n c hu .i64 lo (by omega) (by omega), el, Tryz.sizeOf5]
  simp only [Result.andThen_ok, sliced, adr, Int.toNat_natCast, Nat.mul_one]
theorem hi_run {g : Nat} {n c hi : Nat} (h1 : hi ≤ c) (w : World) : (Instr.sliceAt 22 (.slice (some ⟨g, 0, none⟩) n c) none (some (.int .i64 (hi : Nat))) none).run Tryz.prog w = .ok (.slice (adr (some ⟨g, 0, none⟩) c 0) hi c) w := by
  have el : Tryz.prog.elem 22 = 5 := by kernel_rfl
  have hu : Tryz.prog.underlying 22 = some (.slice (Tryz.prog.elem 22)) := by rw [el]; exact Tryz.underlying22
  rw [run_sliceAt_slice w 22 _ _ _ _ hu, run_slice_h w 22 _ n c hu .i64 hi (by omega) (by omega), el, Tryz.sizeOf5]
  simp only [Result.andThen_ok, sliced, adr, Int.toNat_natCast, Nat.mul_one, Nat.sub_zero]
set_option maxHeartbeats 4000000 in
theorem answers_n {st : Int} {ba : Option Addr} {bn bc : Nat} {body : List Nat} {w : World} {M : Nat → Prop} {E : Nat → Addr} (hS : Hid (Sln w ba bn body)) (hbc : Hid (ba = none → bc = 0)) (hbn : bn ≤ 140737488351232) (wx : (Lit.int .i64 st).wf = true) (hm : Hid (Mx w)) (hE : Hid (Sent w M E)) (M0 : M 0) (M12 : M 2) (ht : Hid (Tab w)) :
    Calls Tryz.prog 3 #[.int .i64 st, .slice ba bn bc] w fun e w' => e = .returned (.bool true) ∧ Hid (Below w.heap.size w w') := by
  have bx := bounds_i64 wx
  have BL : Hid (bn = body.length) := hS.out.len
  obtain ⟨hd, HD⟩ : ∃ l, Hid (hed st body.length = l) := ⟨_, rfl⟩
  obtain ⟨h, HH⟩ : ∃ n, Hid (hd.length = n) := ⟨_, rfl⟩
  have h13 : 13 ≤ h := by rw [← HH.out, ← HD.out]; exact hed_len _ _
  have h200 : h ≤ 200 := by rw [← HH.out, ← HD.out]; exact hed_size _ _ (by omega) (by omega) (by rw [← BL.out]; omega)
  have WH : Hid (wrt st [(fA, fB)] body = hd ++ body) := (by rw [wrt_hed, HD.out] : wrt st [(fA, fB)] body = hd ++ body)
  have CL : Hid (cl hd = 4) := (by rw [← HD.out]; exact hed_cl _ _ : cl hd = 4)
  have BEG : Hid (hd.take 9 = bo v9) := (by rw [← HD.out]; exact hed_beg _ _ : hd.take 9 = bo v9)
  have END : Hid (hd.drop (h - 4) = [13, 10, 13, 10]) := (by rw [← HH.out, ← HD.out]; exact hed_end _ _ : hd.drop (h - 4) = [13, 10, 13, 10])
  have RP : Hid (0 < (rsn st).size) := rsn_pos st
  go_enter Tryz.func3, Tryz.ntmps3
  go_upto_region 3 with (go_at_call 4; refine (alive_n hm hE M0 M12 ht).mono ?_; rintro e w1 ⟨rfl, D1⟩)
  obtain ⟨g1, G1⟩ : ∃ g, Hid (w1.heap.size = g) := ⟨_, rfl⟩
  obtain ⟨w2, H2⟩ : ∃ w2, Hid (w1.alloc (.cells #[.string { data := #[97] }, .string { data := #[98] }] 26) = w2) := ⟨_, rfl⟩
  have D2 : Hid (Below w.heap.size w w2) := by rw [← H2.out]; exact D1.out.alloc D1.out.size _
  have F2 : Hid (Fw w2 (some ⟨g1, 0, none⟩) 1 [(fA, fB)]) := by
    refine ⟨rfl, by omega, fun i hi => ?_, .inr ⟨g1, 0, rfl, ?_, fun i hi => ?_⟩⟩
    · obtain rfl : i = 0 := by omega
      exact (by decide : fB.size ≤ 140737488355328)
    · rw [← H2.out, ← G1.out]; simp
    · obtain rfl : i = 0 := by omega
      rw [← H2.out, ← G1.out]
      exact ⟨by simp [fA], by simp [fB]⟩
  have WR : Hid (Calls Tryz.prog 5 #[.agg #[.int .i64 st, .slice (some ⟨g1, 0, none⟩) 1 1, .slice ba bn bc]] w2 fun e w' => ∃ a n c, e = .returned (.slice a n c) ∧ Hid (Om w' w2.heap.size a n c (hd ++ body) ∧ Below w2.heap.size w2 w')) := by
    have h := write_n (st := st) (fc := 1) (bc := bc) F2 (by omega) (Nat.le_refl 1) (hS.out.below D2.out) hbc (ht.out.below D2.out) (by omega) (by omega) (by rw [WH.out, List.length_append, HH.out, ← BL.out]; exact (by omega : h + bn ≤ 140737488354304))
    rw [WH.out] at h
    exact h
  go_upto_region 4 with (rw [H2.out]; rw [G1.out]; go_at_call 5; refine WR.out.mono ?_; rintro e w4 ⟨a4, n4, c4, rfl, H4⟩)
  obtain ⟨g, cur, fr, rfl, _, _, _, c4m, _, _⟩ := H4.out.1.row
  obtain ⟨k, rfl⟩ : ∃ k, h = k + 4 := ⟨h - 4, by omega⟩
  obtain rfl : n4 = k + 4 + bn := by rw [H4.out.1.len, List.length_append, HH.out, ← BL.out]
  have nc := H4.out.1.nc
  have S4 : Hid (Sln w4 (some ⟨g, 0, none⟩) (k + 4 + bn) (hd ++ body)) := H4.out.1.sln (by omega)
  have D4 : Hid (Below w.heap.size w w4) := D2.out.trans (H4.out.2.mono D2.out.size)
  have SB : Hid (Sln w4 ba bn body) := hS.out.below D4.out
  have CB := fun (z q : Nat) => conv_n (w := w4.drewN z) (k := q) (show Hid _ from SB.out.below (below_drewN (Below.refl _ _) z))
  obtain ⟨a1, A1⟩ : ∃ a, Hid (adr (some ⟨g, 0, none⟩) c4 (k + 4) = a) := ⟨_, rfl⟩
  have R1 : ∀ W, (Instr.sliceAt 22 (.slice (some ⟨g, 0, none⟩) (k + 4 + bn) c4) (some (.int .i64 ((k : Int) + 4))) none none).run Tryz.prog W = .ok (.slice a1 bn (c4 - (k + 4))) W := fun W => by
    have h := lo_run (g := g) (n := k + 4 + bn) (c := c4) (lo := k + 4) (by omega) W
    rw [A1.out, Nat.add_sub_cancel_left] at h
    exact h
  have S1 : Hid (Sln w4 a1 bn body) := by
    have h := slice_mid (m := c4) (lo := k + 4) (hi := k + 4 + bn) S4.out (by omega) (Nat.le_refl _) nc
    have e : ((hd ++ body).drop (k + 4)).take (k + 4 + bn - (k + 4)) = body := by
      rw [Nat.add_sub_cancel_left, ← HH.out, List.drop_left, BL.out, List.take_length]
    rw [e, Nat.add_sub_cancel_left] at h
    rw [← A1.out]
    exact h
  have C1 := fun (z q : Nat) => conv_n (w := w4.drewN z) (k := q) (show Hid _ from S1.out.below (below_drewN (Below.refl _ _) z))
  obtain ⟨a2, A2⟩ : ∃ a, Hid (adr (some ⟨g, 0, none⟩) c4 k = a) := ⟨_, rfl⟩
  have R2 : ∀ W, (Instr.sliceAt 22 (.slice (some ⟨g, 0, none⟩) (k + 4 + bn) c4) (some (.int .i64 (k : Int))) (some (.int .i64 ((k : Int) + 4))) none).run Tryz.prog W = .ok (.slice a2 4 (c4 - k)) W := fun W => by
    have h := mid_run (a := some ⟨g, 0, none⟩) (n := k + 4 + bn) (c := c4) (lo := k) (hi := k + 4) (by omega) (by omega) W
    rw [A2.out, Nat.add_sub_cancel_left] at h
    exact h
  have S2 : Hid (Sln w4 a2 4 [13, 10, 13, 10]) := by
    have h := slice_mid (m := c4) (lo := k) (hi := k + 4) S4.out (by omega) (by omega) (by omega)
    have e : ((hd ++ body).drop k).take (k + 4 - k) = [13, 10, 13, 10] := by
      have h1 := END.out
      rw [Nat.add_sub_cancel] at h1
      rw [Nat.add_sub_cancel_left, List.drop_append_of_le_length (by rw [HH.out]; omega), h1]
      rfl
    rw [e, Nat.add_sub_cancel_left] at h
    rw [← A2.out]
    exact h
  have C2 := fun (z q : Nat) => conv_n (w := w4.drewN z) (k := q) (show Hid _ from S2.out.below (below_drewN (Below.refl _ _) z))
  obtain ⟨a3, A3⟩ : ∃ a, Hid (adr (some ⟨g, 0, none⟩) c4 0 = a) := ⟨_, rfl⟩
  have R3 : ∀ W, (Instr.sliceAt 22 (.slice (some ⟨g, 0, none⟩) (k + 4 + bn) c4) none (some (.int .i64 9)) none).run Tryz.prog W = .ok (.slice a3 9 c4) W := fun W => by
    have h := hi_run (g := g) (n := k + 4 + bn) (c := c4) (hi := 9) (by omega) W
    rw [A3.out] at h
    exact h
  have S3 : Hid (Sln w4 a3 9 (bo v9)) := by
    have h := slice_mid (m := c4) (lo := 0) (hi := 9) S4.out (by omega) (by omega) (by omega)
    have e : ((hd ++ body).drop 0).take (9 - 0) = bo v9 := by
      rw [List.drop_zero, Nat.sub_zero, List.take_append_of_le_length (by rw [HH.out]; omega), BEG.out]
    rw [e] at h
    rw [← A3.out]
    exact h
  have C3 := fun (z q : Nat) => conv_n (w := w4.drewN z) (k := q) (show Hid _ from S3.out.below (below_drewN (Below.refl _ _) z))
  rw [spell_bo] at C3
  have q2 : ((spell [13, 10, 13, 10]).toList == [13, 10, 13, 10]) = true := beq_lit (t := spell [13, 10, 13, 10]) (decide_eq_true rfl) (by kernel_rfl)
  have q3 : (v9.toList == [72, 84, 84, 80, 47, 49, 46, 49, 32]) = true := beq_lit (t := v9) (decide_eq_true rfl) (by kernel_rfl)
  have dk : decide ((k : Int) + 4 < 4) = false := decide_eq_false (by omega)
  go_upto_region 5 with (fail)
  go_quiet (fail)
  go_upto_region 7 with (fail)
  clear CB C1 R1 C2 R2 C3 R3 q2 q3 A1 A2 A3 S1 S2 S3
  have LN : Hid ((hd ++ body).length = k + 4 + bn) := (by rw [List.length_append, HH.out, ← BL.out] : (hd ++ body).length = k + 4 + bn)
  have GD : Hid (∀ i, i < k + 4 → (hd ++ body).getD i 0 = hd.getD i 0) := fun i hi => by
    unfold List.getD
    rw [List.getElem?_append_left (by rw [HH.out]; exact hi)]
  go_wp2
  go_loopw [8, 7] (fun ti tl wr => ∃ i j : Nat, i + 1 ≤ k + 4 ∧ j ≤ i ∧ ti = .int .i64 (i : Int) ∧ tl = .int .i64 (j : Int) ∧ Hid (j + cl (hd.drop i) = 4) ∧ Hid (Below w4.heap.size w4 wr)) (fun ti _ _ => k + 4 - (intOf ti).toNat)
  case atStart => exact ⟨0, 0, by omega, by omega, rfl, rfl, (show 0 + cl (hd.drop 0) = 4 by rw [List.drop_zero, CL.out]), below_drewN (Below.refl _ _) _⟩
  case round =>
    obtain ⟨i, j, hi, hj, rfl, rfl, HN, HB⟩ := hrel
    have RW : Hid (Row wr g 0 (hd ++ body)) := (H4.out.1.below HB.out).row_
    by_cases hlt : i + 1 < k + 4
    · have i1 : (i : Int) + 1 < (k : Int) + 4 := by omega
      have c0 := RW.out i (by rw [LN.out]; omega)
      have c1 := RW.out (i + 1) (by rw [LN.out]; omega)
      rw [GD.out i (by omega)] at c0
      rw [GD.out (i + 1) (by omega)] at c1
      rw [Nat.zero_add] at c0 c1
      obtain ⟨x, Hx⟩ : ∃ x, Hid (hd.getD i 0 = x) := ⟨_, rfl⟩
      obtain ⟨y, Hy⟩ : ∃ y, Hid (hd.getD (i + 1) 0 = y) := ⟨_, rfl⟩
      rw [Hx.out] at c0
      rw [Hy.out] at c1
      have NX : Hid (cl (hd.drop i) = (if x = 13 ∧ y = 10 then 1 else 0) + cl (hd.drop (i + 1))) := cl_drop (by rw [HH.out]; omega) Hx.out Hy.out
      clear Hx Hy
      by_cases ex : x = 13
      · subst ex
        by_cases ey : y = 10
        · subst ey
          have NZ : Hid (j + 1 + cl (hd.drop (i + 1)) = 4) := (by have h1 := NX.out; have h2 := HN.out; rw [if_pos ⟨rfl, rfl⟩] at h1; omega : j + 1 + cl (hd.drop (i + 1)) = 4)
          go_wp2
          go_roundw
          case rel => exact ⟨i + 1, j + 1, by omega, by omega, by go_num, by go_num, NZ.out, HB.out⟩
          case measure => simp [intOf]; omega
        · have y1 : ¬ (y : Int) = 10 := by omega
          have NZ : Hid (j + cl (hd.drop (i + 1)) = 4) := (by have h1 := NX.out; have h2 := HN.out; rw [if_neg (fun h => ey h.2)] at h1; omega : j + cl (hd.drop (i + 1)) = 4)
          go_wp2
          go_roundw
          case rel => exact ⟨i + 1, j, by omega, by omega, by go_num, rfl, NZ.out, HB.out⟩
          case measure => simp [intOf]; omega
      · have x1 : ¬ (x : Int) = 13 := by omega
        have NZ : Hid (j + cl (hd.drop (i + 1)) = 4) := (by have h1 := NX.out; have h2 := HN.out; rw [if_neg (fun h => ex h.1)] at h1; omega : j + cl (hd.drop (i + 1)) = 4)
        go_wp2
        go_roundw
        case rel => exact ⟨i + 1, j, by omega, by omega, by go_num, rfl, NZ.out, HB.out⟩
        case measure => simp [intOf]; omega
    · have j4 : j = 4 := by
        have h := HN.out
        rw [cl_one (by rw [List.length_drop, HH.out]; omega)] at h
        omega
      subst j4
      obtain ⟨rs, HR⟩ : ∃ s, Hid (rsn st = s) := ⟨_, rfl⟩
      have rp : decide (0 < rs.size) = true := decide_eq_true (by have h := RP.out; rw [HR.out] at h; exact h)
      go_wp2_with (go_at_call 6; refine (reason_n st wr).mono ?_; rintro e w5 ⟨rfl, h5⟩; rw [h5, HR.out]; clear h5)
      go_ret
      exact ⟨rfl, D4.out.trans (HB.out.mono D4.out.size)⟩
end Go.Proofs.YtemhhlongfabmabGreatDoor
