/- What Unhex of package sha does, for all strings. -/
import Derived.Test.YtljlibhhefceaaaDoorUa
import Derived.Deep.DeepCutAuto
namespace Go.Proofs.YtljlibhhefceaaaDoor
open Go.ChangeShapes Go.WideShapes Go.ChangeAt Go.RowKit
set_option linter.unusedVariables false
set_option linter.unusedSimpArgs false
/- a string's byte -/
def sb (s : ByteArray) (i : Nat) : Nat := (s.data.toList.getD i 0).toNat
theorem sb_lt (s : ByteArray) (i : Nat) : sb s i < 256 := UInt8.toNat_lt _
theorem sb_ix (s : ByteArray) (i : Nat) (z : Int) (hz : z = (i : Int)) (h : i < s.size) (w : World) : (Instr.index 9 (.string s) (.int .i64 z)).run Tryd.prog w = .ok (.int .u8 (sb s i : Nat)) w := by
  subst hz
  rw [run_index_string w _ _ _ _ Tryd.underlying9, dif_pos ⟨by omega, by omega⟩]
  have e : (s[((i : Int)).toNat]'(by simpa using h)).toNat = sb s i := by
    have h3 : i < s.data.size := h
    have e2 : s.data.toList.getD i 0 = s.data[i] := by
      rw [List.getD, Array.getElem?_toList, Array.getElem?_eq_getElem h3]
      rfl
    unfold sb
    rw [e2]
    rfl
  rw [e]
/- the bytes that the digits of s spell, as far as i -/
def dg (c : Nat) : Nat := (dig c).getD 0
def unL (s : ByteArray) (m : Nat) : List Nat := (List.range m).map fun j => 16 * dg (sb s (2 * j)) + dg (sb s (2 * j + 1))
def unP (s : ByteArray) (m i : Nat) : List Nat := (unL s m).take i ++ List.replicate (m - i) 0
theorem dg_lt (c : Nat) : dg c < 16 := by
  unfold dg
  cases h : dig c with
  | none => simp
  | some x => have := dig_lt h; simpa using this
theorem unL_lt (s : ByteArray) (m : Nat) : ∀ x ∈ unL s m, x < 256 := by
  intro x hx
  simp only [unL, List.mem_map] at hx
  obtain ⟨j, _, rfl⟩ := hx
  have h1 := dg_lt (sb s (2 * j))
  have h2 := dg_lt (sb s (2 * j + 1))
  omega
theorem unL_length (s : ByteArray) (m : Nat) : (unL s m).length = m := by simp [unL]
theorem unP_length (s : ByteArray) {m i : Nat} (h : i ≤ m) : (unP s m i).length = m := by simp [unP, unL_length]; omega
theorem unP_set (s : ByteArray) {m i : Nat} (hi : i < m) : (unP s m i).set i (16 * dg (sb s (2 * i)) + dg (sb s (2 * i + 1))) = unP s m (i + 1) := by
  unfold unP
  have hl : ((unL s m).take i).length = i := by simp [unL_length]; omega
  have h3 : m - i = (m - (i + 1)) + 1 := by omega
  rw [h3, List.replicate_succ, List.set_append_right _ _ (by omega), hl, Nat.sub_self, List.set_cons_zero]
  have e : (unL s m)[i]? = some (16 * dg (sb s (2 * i)) + dg (sb s (2 * i + 1))) := by simp [unL, hi]
  rw [List.take_add_one, e]
  simp
theorem shl4 : ∀ x : Nat, x < 16 → ∀ y : Nat, y < 16 → bits .or .u8 ((x : Int) * 16) (y : Int) = ((16 * x + y : Nat) : Int) := by decide
set_option maxRecDepth 20000 in
set_option maxHeartbeats 1000000 in
theorem unhex_t (s : ByteArray) (m : Nat) (w : World) (hm : Hid (s.size = 2 * m)) (hb : m ≤ 70368744175616) (hD : Hid (∀ j, j < 2 * m → ∃ x, dig (sb s j) = some x)) :
    Calls Tryd.prog 18 #[.string s] w fun e w' => ∃ g, e = .returned (.tuple #[.slice (some ⟨g, 0, none⟩) m m, .bool true]) ∧ Hid (w.heap.size ≤ g ∧ Blk w' g (unL s m) ∧ Below w.heap.size w w') := by
  have e0 : ((2 * m : Nat) : Int) = 2 * (m : Int) := by omega
  have e1 : Int.tmod (s.size : Int) 2 = 0 := by rw [hm.out, e0]; exact Int.mul_tmod_right 2 (m : Int)
  have e2 : Int.tdiv (s.size : Int) 2 = (m : Int) := by rw [hm.out, e0]; exact Int.mul_tdiv_cancel_left (m : Int) (by omega)
  clear e0
  have mk := make_bytes m (by omega)
  obtain ⟨g, Hg⟩ : ∃ g, Hid (w.heap.size = g) := ⟨_, rfl⟩
  go_enter Tryd.func18, Tryd.ntmps18
  go_wp2
  rw [Hg.out]
  have ST : Hid (Blk (w.alloc (.cells (madeCells #[.int .u8 0] m) 5)) g (unP s m 0) ∧ Below g w (w.alloc (.cells (madeCells #[.int .u8 0] m) 5))) := by
    rw [← Hg.out]
    refine ⟨?_, (Below.refl _ _).alloc (Nat.le_refl _) _⟩
    have h := Blk.made w m
    have e : unP s m 0 = List.replicate m 0 := by simp [unP]
    rw [e]; exact h
  clear mk e1 e2
  go_loopw [20] (fun ti wr => ∃ i : Nat, i ≤ m ∧ ti = .int .i64 (i : Int) ∧ Hid (Blk wr g (unP s m i) ∧ Below g w wr)) (fun ti _ => m - (intOf ti).toNat)
  case atStart => exact ⟨0, by omega, rfl, ST.out⟩
  case round =>
    obtain ⟨i, hi, rfl, HI⟩ := hrel
    clear ST
    by_cases hlt : i < m
    · have i1 : (i : Int) < (m : Int) := by omega
      obtain ⟨c1, Hc1⟩ : ∃ c, Hid (sb s (2 * i) = c) := ⟨_, rfl⟩
      obtain ⟨c2, Hc2⟩ : ∃ c, Hid (sb s (2 * i + 1) = c) := ⟨_, rfl⟩
      have ix1 : ∀ w, (Instr.index 9 (.string s) (.int .i64 (2 * (i : Int)))).run Tryd.prog w = .ok (.int .u8 (c1 : Int)) w := fun w => by rw [← Hc1.out]; exact sb_ix s (2 * i) _ (by omega) (by rw [hm.out]; omega) w
      have ix2 : ∀ w, (Instr.index 9 (.string s) (.int .i64 (2 * (i : Int) + 1))).run Tryd.prog w = .ok (.int .u8 (c2 : Int)) w := fun w => by rw [← Hc2.out]; exact sb_ix s (2 * i + 1) _ (by omega) (by rw [hm.out]; omega) w
      have l1 : c1 < 256 := by rw [← Hc1.out]; exact sb_lt _ _
      have l2 : c2 < 256 := by rw [← Hc2.out]; exact sb_lt _ _
      obtain ⟨x, hx⟩ : ∃ x, dig c1 = some x := by rw [← Hc1.out]; exact hD.out _ (by omega)
      obtain ⟨y, hy⟩ : ∃ y, dig c2 = some y := by rw [← Hc2.out]; exact hD.out _ (by omega)
      have HX : Hid (dig c1 = some x) := hx
      have HY : Hid (dig c2 = some y) := hy
      have x16 := dig_lt hx
      have y16 := dig_lt hy
      have q1 := shl4 x x16 y y16
      have cS := HI.out.1.cell (i := i) (by rw [unP_length s hi]; exact hlt)
      have fS := HI.out.1.frozen i
      have FIN : Hid (Blk (wr.setCell ⟨g, i, none⟩ (.int .u8 ((16 * x + y : Nat) : Int))) g (unP s m (i + 1)) ∧ Below g w (wr.setCell ⟨g, i, none⟩ (.int .u8 ((16 * x + y : Nat) : Int)))) := by
        refine ⟨?_, ((Oth.refl g wr).setCell i _).below HI.out.2 (Nat.le_refl _)⟩
        rw [← unP_set s hlt, Hc1.out, Hc2.out]
        have d1 : dg c1 = x := by simp [dg, hx]
        have d2 : dg c2 = y := by simp [dg, hy]
        rw [d1, d2]
        exact HI.out.1.set i _
      rw [← q1] at FIN
      clear HI hx hy q1
      go_upto_region 8 with (go_at_call 28; refine (digitOf_t c1 x l1 HX.out _).mono ?_; rintro e w0 ⟨rfl, h0⟩; rw [h0]; clear h0)
      go_upto_region 11 with (go_at_call 28; refine (digitOf_t c2 y l2 HY.out _).mono ?_; rintro e w0 ⟨rfl, h0⟩; rw [h0]; clear h0)
      go_wp2
      go_roundw
      case rel => exact ⟨i + 1, by omega, by go_num, FIN.out⟩
      case measure => simp [intOf]; omega
    · have e : i = m := by omega
      subst e
      have FIN : Hid (w.heap.size ≤ g ∧ Blk wr g (unL s i) ∧ Below w.heap.size w wr) := by
        have h := HI.out.1
        have e2 : unP s i i = unL s i := by
          unfold unP
          rw [List.take_of_length_le (by simp [unL_length])]; simp
        rw [e2] at h
        exact ⟨by rw [Hg.out]; exact Nat.le_refl _, h, by rw [Hg.out]; exact HI.out.2⟩
      clear HI
      go_wp2
      go_ret2
      exact ⟨g, rfl, FIN.out⟩
theorem unhex_odd (s : ByteArray) (m : Nat) (w : World) (hm : Hid (s.size = 2 * m + 1)) (hb : m ≤ 70368744175616) :
    Calls Tryd.prog 18 #[.string s] w fun e w' => e = .returned (.tuple #[.slice none 0 0, .bool false]) ∧ w' = w := by
  have e1 : Int.tmod (s.size : Int) 2 = 1 := by
    rw [hm.out, Int.tmod_eq_emod_of_nonneg (by omega)]
    omega
  go_enter Tryd.func18, Tryd.ntmps18
  go_wp2
  go_ret2
  exact ⟨rfl, rfl⟩
set_option maxRecDepth 20000 in
set_option maxHeartbeats 1000000 in
theorem unhex_bad (s : ByteArray) (m : Nat) (w : World) (hm : Hid (s.size = 2 * m)) (hb : m ≤ 70368744175616) (hD : Hid (∃ j, j < 2 * m ∧ dig (sb s j) = none)) :
    Calls Tryd.prog 18 #[.string s] w fun e w' => e = .returned (.tuple #[.slice none 0 0, .bool false]) ∧ Hid (Below w.heap.size w w') := by
  have e0 : ((2 * m : Nat) : Int) = 2 * (m : Int) := by omega
  have e1 : Int.tmod (s.size : Int) 2 = 0 := by rw [hm.out, e0]; exact Int.mul_tmod_right 2 (m : Int)
  have e2 : Int.tdiv (s.size : Int) 2 = (m : Int) := by rw [hm.out, e0]; exact Int.mul_tdiv_cancel_left (m : Int) (by omega)
  clear e0
  have mk := make_bytes m (by omega)
  obtain ⟨g, Hg⟩ : ∃ g, Hid (w.heap.size = g) := ⟨_, rfl⟩
  go_enter Tryd.func18, Tryd.ntmps18
  go_wp2
  rw [Hg.out]
  have ST : Hid (Blk (w.alloc (.cells (madeCells #[.int .u8 0] m) 5)) g (unP s m 0) ∧ Below g w (w.alloc (.cells (madeCells #[.int .u8 0] m) 5))) := by
    rw [← Hg.out]
    refine ⟨?_, (Below.refl _ _).alloc (Nat.le_refl _) _⟩
    have h := Blk.made w m
    have e : unP s m 0 = List.replicate m 0 := by simp [unP]
    rw [e]; exact h
  clear mk e1 e2
  go_loopw [20] (fun ti wr => ∃ i : Nat, i ≤ m ∧ ti = .int .i64 (i : Int) ∧ Hid ((∀ j, j < 2 * i → dig (sb s j) ≠ none) ∧ Blk wr g (unP s m i) ∧ Below g w wr)) (fun ti _ => m - (intOf ti).toNat)
  case atStart => exact ⟨0, by omega, rfl, fun j hj => by omega, ST.out⟩
  case round =>
    obtain ⟨i, hi, rfl, HI⟩ := hrel
    clear ST
    by_cases hlt : i < m
    · have i1 : (i : Int) < (m : Int) := by omega
      obtain ⟨c1, Hc1⟩ : ∃ c, Hid (sb s (2 * i) = c) := ⟨_, rfl⟩
      obtain ⟨c2, Hc2⟩ : ∃ c, Hid (sb s (2 * i + 1) = c) := ⟨_, rfl⟩
      have ix1 : ∀ w, (Instr.index 9 (.string s) (.int .i64 (2 * (i : Int)))).run Tryd.prog w = .ok (.int .u8 (c1 : Int)) w := fun w => by rw [← Hc1.out]; exact sb_ix s (2 * i) _ (by omega) (by rw [hm.out]; omega) w
      have ix2 : ∀ w, (Instr.index 9 (.string s) (.int .i64 (2 * (i : Int) + 1))).run Tryd.prog w = .ok (.int .u8 (c2 : Int)) w := fun w => by rw [← Hc2.out]; exact sb_ix s (2 * i + 1) _ (by omega) (by rw [hm.out]; omega) w
      have l1 : c1 < 256 := by rw [← Hc1.out]; exact sb_lt _ _
      have l2 : c2 < 256 := by rw [← Hc2.out]; exact sb_lt _ _
      have BW : Hid (Below w.heap.size w wr) := by rw [Hg.out]; exact HI.out.2.2
      cases hx : dig c1 with
      | none =>
        have HX : Hid (dig c1 = none) := hx
        cases hy : dig c2 with
        | none =>
          have HY : Hid (dig c2 = none) := hy
          clear HI hx hy
          go_upto_region 8 with (go_at_call 28; refine (digitOf_f c1 l1 HX.out _).mono ?_; rintro e w0 ⟨rfl, h0⟩; rw [h0]; clear h0)
          go_upto_region 9 with (go_at_call 28; refine (digitOf_f c2 l2 HY.out _).mono ?_; rintro e w0 ⟨rfl, h0⟩; rw [h0]; clear h0)
          go_wp2
          go_ret2
          exact ⟨rfl, BW.out⟩
        | some y =>
          have HY : Hid (dig c2 = some y) := hy
          clear HI hx hy
          go_upto_region 8 with (go_at_call 28; refine (digitOf_f c1 l1 HX.out _).mono ?_; rintro e w0 ⟨rfl, h0⟩; rw [h0]; clear h0)
          go_upto_region 9 with (go_at_call 28; refine (digitOf_t c2 y l2 HY.out _).mono ?_; rintro e w0 ⟨rfl, h0⟩; rw [h0]; clear h0)
          go_wp2
          go_ret2
          exact ⟨rfl, BW.out⟩
      | some x =>
        have HX : Hid (dig c1 = some x) := hx
        cases hy : dig c2 with
        | none =>
          have HY : Hid (dig c2 = none) := hy
          clear HI hx hy
          go_upto_region 8 with (go_at_call 28; refine (digitOf_t c1 x l1 HX.out _).mono ?_; rintro e w0 ⟨rfl, h0⟩; rw [h0]; clear h0)
          go_upto_region 9 with (go_at_call 28; refine (digitOf_f c2 l2 HY.out _).mono ?_; rintro e w0 ⟨rfl, h0⟩; rw [h0]; clear h0)
          go_wp2
          go_ret2
          exact ⟨rfl, BW.out⟩
        | some y =>
          have HY : Hid (dig c2 = some y) := hy
          have x16 := dig_lt hx
          have y16 := dig_lt hy
          have q1 := shl4 x x16 y y16
          have cS := HI.out.2.1.cell (i := i) (by rw [unP_length s hi]; exact hlt)
          have fS := HI.out.2.1.frozen i
          have FIN : Hid ((∀ j, j < 2 * (i + 1) → dig (sb s j) ≠ none) ∧ Blk (wr.setCell ⟨g, i, none⟩ (.int .u8 ((16 * x + y : Nat) : Int))) g (unP s m (i + 1)) ∧ Below g w (wr.setCell ⟨g, i, none⟩ (.int .u8 ((16 * x + y : Nat) : Int)))) := by
            refine ⟨fun j hj => ?_, ?_, ((Oth.refl g wr).setCell i _).below HI.out.2.2 (Nat.le_refl _)⟩
            · by_cases h1 : j < 2 * i
              · exact HI.out.1 j h1
              · by_cases h2 : j = 2 * i
                · rw [h2, Hc1.out, hx]; simp
                · have h3 : j = 2 * i + 1 := by omega
                  rw [h3, Hc2.out, hy]; simp
            · rw [← unP_set s hlt, Hc1.out, Hc2.out]
              have d1 : dg c1 = x := by simp [dg, hx]
              have d2 : dg c2 = y := by simp [dg, hy]
              rw [d1, d2]
              exact HI.out.2.1.set i _
          rw [← q1] at FIN
          clear HI hx hy q1
          go_upto_region 8 with (go_at_call 28; refine (digitOf_t c1 x l1 HX.out _).mono ?_; rintro e w0 ⟨rfl, h0⟩; rw [h0]; clear h0)
          go_upto_region 11 with (go_at_call 28; refine (digitOf_t c2 y l2 HY.out _).mono ?_; rintro e w0 ⟨rfl, h0⟩; rw [h0]; clear h0)
          go_wp2
          go_roundw
          case rel => exact ⟨i + 1, by omega, by go_num, FIN.out⟩
          case measure => simp [intOf]; omega
    · have e : i = m := by omega
      subst e
      obtain ⟨j, hj, hj2⟩ := hD.out
      exact absurd hj2 (HI.out.1 j hj)
end Go.Proofs.YtljlibhhefceaaaDoor
