/- decode: for all texts. -/
import Derived.Test.YtalagagnolhppaaDoorUb
import Derived.Test.YtalagagnolhppaaDoorVc
namespace Go.Proofs.YtalagagnolhppaaDoor
open Go.ChangeShapes Go.WideShapes Go.ChangeAt Go.RowKit
set_option maxRecDepth 20000
set_option linter.unusedVariables false
set_option linter.unusedSimpArgs false
theorem make_cap (n : Nat) (h : n ≤ 281474976710656) (w : World) : (Instr.makeSlice 61 (.int .i64 0) (.int .i64 (n : Int))).run Tryd.prog w = .ok (.slice (some ⟨w.heap.size, 0, none⟩) 0 n) (w.alloc (.cells (madeCells #[.int .u8 0] n) 5)) := by
  obtain ⟨i, hi, hz0, hz1, hz2⟩ := info_parts info5
  have hr := run_make (P := Tryd.prog) w 61 5 i (.int .u8 0) Tryd.underlying61 hi hz0 .i64 .i64 0 (n : Int) (by omega) (by omega) (by rw [hz2]; omega) (by omega)
  rw [hz1] at hr
  have e : ((n : Int)).toNat = n := by omega
  rw [e] at hr
  simpa [Value.cells] using hr
theorem own_cap (w : World) (n : Nat) (h : n ≤ 140737488355328) : Own (w.alloc (.cells (madeCells #[.int .u8 0] n) 5)) w.heap.size (some ⟨w.heap.size, 0, none⟩) 0 n [] :=
  ⟨rfl, World.ownsRow_made w _ n (Nat.le_refl _) (by unfold maxLen; omega) (by simp [size_madeCells]), by simp⟩
theorem wr2_two : ∀ {l : List Nat} {v : Nat}, wr2 l = some v → 2 ≤ l.length
  | [], v, h => by cases h
  | [a], v, h => by cases h
  | a :: b :: r, v, _ => by simp
theorem dst_plain {c : Nat} (h : c ≠ 37) (r : List Nat) : dst (c :: r) = some (c, r) := by rw [dst, if_neg h]
theorem dst_none {r : List Nat} (h : wr2 r = none) : dst (37 :: r) = none := by rw [dst, if_pos rfl, h]
theorem dst_some {r : List Nat} {v : Nat} (h : wr2 r = some v) : dst (37 :: r) = some (v, r.drop 2) := by rw [dst, if_pos rfl, h]
set_option maxHeartbeats 4000000 in
theorem decode_n (s : ByteArray) (hs : s.size ≤ 140737488354304) (w : World) : Calls Tryd.prog 22 #[.string s] w fun e w' => DecEnd (dcS s) e ∧ Hid (Below w.heap.size w w') := by
  have MK := make_cap s.size (by omega) w
  have O0 := own_cap w s.size (by omega)
  obtain ⟨w0, H0⟩ : ∃ q, Hid (w.alloc (.cells (madeCells #[.int .u8 0] s.size) 5) = q) := ⟨_, rfl⟩
  have B0 : Hid (Below w.heap.size w w0) := by rw [← H0.out]; exact alloc1 _ _
  rw [H0.out] at MK O0
  obtain ⟨h0, HH⟩ : ∃ q, Hid (w.heap.size = q) := ⟨_, rfl⟩
  have O0 : Hid (Own w0 w.heap.size (some ⟨h0, 0, none⟩) 0 s.size []) := by rw [← HH.out]; exact O0
  rw [HH.out] at MK
  go_enter Tryd.func22, Tryd.ntmps22
  go_wp2
  go_loopw [5, 4] (fun ti ta wr => ∃ (i : Nat) (a : Option Addr) (n c : Nat) (out : List Nat), i ≤ s.size ∧ n ≤ i ∧ ti = .int .i64 (i : Int) ∧ ta = .slice a n c ∧ Hid (DcI (bl s) ((bl s).drop i) out) ∧ Hid (Own wr w.heap.size a n c out) ∧ Hid (Below w.heap.size w wr)) (fun ti _ _ => s.size - (intOf ti).toNat)
  case atStart => exact ⟨0, _, 0, _, [], by omega, by omega, rfl, rfl, by rw [List.drop_zero]; exact DcI.zero _, O0.out, B0.out⟩
  case round =>
    clear MK O0 B0 H0
    obtain ⟨i, a, n, c, out, hi, hn, rfl, rfl, HD, HO, HB⟩ := hrel
    by_cases hlt : i < s.size
    · have i1 : (i : Int) < (s.size : Int) := by omega
      have X0 := fun W => sb_ix s i (i : Int) rfl hlt W
      have b8 := sb_lt s i
      have HD2 : Hid (DcI (bl s) (sb s i :: (bl s).drop (i + 1)) out) := by rw [← bl_cons hlt]; exact HD.out
      obtain ⟨b, Hb⟩ : ∃ q, Hid (sb s i = q) := ⟨_, rfl⟩
      rw [Hb.out] at X0 b8 HD2
      clear HD
      by_cases b37 : b = 37
      · subst b37
        obtain ⟨t, HT⟩ : ∃ q, Hid (s.extract (i + 1) s.size = q) := ⟨_, rfl⟩
        have BT : Hid (bl t = (bl s).drop (i + 1)) := (by rw [← HT.out, bl_tail] : bl t = (bl s).drop (i + 1))
        have W0 := fun w => written_n t w
        have W0 : Hid (∀ w, Calls Tryd.prog 35 #[.string t] w fun e w' => DigEnd (wr2 (bl t)) e ∧ w' = w) := W0
        rw [BT.out] at W0
        cases hw : wr2 ((bl s).drop (i + 1)) with
        | none =>
          rw [hw] at W0
          have EV : Hid (dcS s = none) := (by unfold dcS; rw [HD2.out.none (dst_none hw)]; rfl : dcS s = none)
          clear hw
          go_wp2_with (go_at_call 35; rw [HT.out]; refine (W0.out _).mono ?_; rintro e w1 ⟨h1, h2⟩; rw [h2]; clear h2; obtain rfl := (show e = .returned (.tuple #[.int .u8 0, .bool false]) from h1); clear h1)
          go_ret2
          rw [EV.out]
          exact ⟨rfl, HB.out⟩
        | some v =>
          rw [hw] at W0
          have v8 := wr2_lt hw
          have i3 : i + 3 ≤ s.size := by have := wr2_two hw; rw [List.length_drop, bl_len] at this; omega
          have DS : Hid (dst (37 :: (bl s).drop (i + 1)) = some (v, (bl s).drop (i + 3))) := (by rw [dst_some hw, List.drop_drop] : dst (37 :: (bl s).drop (i + 1)) = some (v, (bl s).drop (i + 3)))
          clear hw
          by_cases g32 : 32 ≤ v
          · have t32 : ¬ ((v : Int) < 32) := by omega
            by_cases g126 : v ≤ 126
            · have t126 : ¬ ((126 : Int) < (v : Int)) := by omega
              have HX : Hid (DcI (bl s) ((bl s).drop (i + 3)) (out ++ [v])) := HD2.out.step DS.out (decide_eq_true (by omega))
              obtain ⟨a', c', w', run, own, gr, _⟩ := app_byte (x := v) HO.out (by omega) (by omega) HB.out.size
              have RUN : Hid ((Builtin.append_ #[61, 61] 61 #[.slice a n c, .slice (some ⟨wr.heap.size, 0, none⟩) 1 1]).run Tryd.prog (wr.alloc (.cells #[.int .u8 (v : Int)] 5)) = .ok (.slice a' (n + 1) c') w') := run
              have OX : Hid (Own w' w.heap.size a' (n + 1) c' (out ++ [v])) := own
              have BX : Hid (Below w.heap.size w w') := HB.out.grown gr HB.out.size (fun q e => (HO.out.ge q e).1)
              clear run own gr HD2 DS
              go_wp2_with (first
                | (at_builtin; refine wpList_app (by rfl) (.tmp 42) (.tmp 44) (by rfl) (by rfl) (by rfl) (by rfl) RUN.out ?_)
                | (go_at_call 35; rw [HT.out]; refine (W0.out _).mono ?_; rintro e w1 ⟨h1, h2⟩; rw [h2]; clear h2; obtain rfl := (show e = .returned (.tuple #[.int .u8 (v : Int), .bool true]) from h1); clear h1))
              go_roundw
              case rel => exact ⟨i + 3, a', n + 1, c', _, by omega, by omega, by go_num, rfl, HX.out, OX.out, BX.out⟩
              case measure => simp [intOf]; omega
            · have t126 : (126 : Int) < (v : Int) := by omega
              have EV : Hid (dcS s = none) := (by unfold dcS; rw [HD2.out.bad DS.out (decide_eq_false (by omega))]; rfl : dcS s = none)
              go_wp2_with (go_at_call 35; rw [HT.out]; refine (W0.out _).mono ?_; rintro e w1 ⟨h1, h2⟩; rw [h2]; clear h2; obtain rfl := (show e = .returned (.tuple #[.int .u8 (v : Int), .bool true]) from h1); clear h1)
              go_ret2
              rw [EV.out]
              exact ⟨rfl, HB.out⟩
          · have t32 : (v : Int) < 32 := by omega
            have EV : Hid (dcS s = none) := (by unfold dcS; rw [HD2.out.bad DS.out (decide_eq_false (by omega))]; rfl : dcS s = none)
            go_wp2_with (go_at_call 35; rw [HT.out]; refine (W0.out _).mono ?_; rintro e w1 ⟨h1, h2⟩; rw [h2]; clear h2; obtain rfl := (show e = .returned (.tuple #[.int .u8 (v : Int), .bool true]) from h1); clear h1)
            go_ret2
            rw [EV.out]
            exact ⟨rfl, HB.out⟩
      · have n37 : ¬ ((b : Int) = 37) := by omega
        have DS : Hid (dst (b :: (bl s).drop (i + 1)) = some (b, (bl s).drop (i + 1))) := dst_plain b37 _
        clear b37
        by_cases g32 : 32 ≤ b
        · have t32 : ¬ ((b : Int) < 32) := by omega
          by_cases g126 : b ≤ 126
          · have t126 : ¬ ((126 : Int) < (b : Int)) := by omega
            have HX : Hid (DcI (bl s) ((bl s).drop (i + 1)) (out ++ [b])) := HD2.out.step DS.out (decide_eq_true (by omega))
            obtain ⟨a', c', w', run, own, gr, _⟩ := app_byte (x := b) HO.out (by omega) (by omega) HB.out.size
            have RUN : Hid ((Builtin.append_ #[61, 61] 61 #[.slice a n c, .slice (some ⟨wr.heap.size, 0, none⟩) 1 1]).run Tryd.prog (wr.alloc (.cells #[.int .u8 (b : Int)] 5)) = .ok (.slice a' (n + 1) c') w') := run
            have OX : Hid (Own w' w.heap.size a' (n + 1) c' (out ++ [b])) := own
            have BX : Hid (Below w.heap.size w w') := HB.out.grown gr HB.out.size (fun q e => (HO.out.ge q e).1)
            clear run own gr HD2 DS
            go_wp2_with (first
              | (at_builtin; refine wpList_app (by rfl) (.tmp 42) (.tmp 44) (by rfl) (by rfl) (by rfl) (by rfl) RUN.out ?_)
              | fail)
            go_roundw
            case rel => exact ⟨i + 1, a', n + 1, c', _, by omega, by omega, by go_num, rfl, HX.out, OX.out, BX.out⟩
            case measure => simp [intOf]; omega
          · have t126 : (126 : Int) < (b : Int) := by omega
            have EV : Hid (dcS s = none) := (by unfold dcS; rw [HD2.out.bad DS.out (decide_eq_false (by omega))]; rfl : dcS s = none)
            go_wp2
            go_ret2
            rw [EV.out]
            exact ⟨rfl, HB.out⟩
        · have t32 : (b : Int) < 32 := by omega
          have EV : Hid (dcS s = none) := (by unfold dcS; rw [HD2.out.bad DS.out (decide_eq_false (by omega))]; rfl : dcS s = none)
          go_wp2
          go_ret2
          rw [EV.out]
          exact ⟨rfl, HB.out⟩
    · have i1 : ¬ ((i : Int) < (s.size : Int)) := by omega
      obtain rfl : i = s.size := by omega
      have EV : Hid (dcS s = some (spell out)) := by
        have h := HD.out
        rw [List.drop_of_length_le (by rw [bl_len]; exact Nat.le_refl _)] at h
        exact (by unfold dcS; rw [h.done]; rfl : dcS s = some (spell out))
      have CV := conv_n (k := c) (show Hid _ from HO.out.sln (by omega))
      go_wp2
      go_ret2
      rw [EV.out]
      exact ⟨rfl, HB.out⟩
end Go.Proofs.YtalagagnolhppaaDoor
