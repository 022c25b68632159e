/- What the document's Unhex does, for all strings. -/
import Derived.Test.YtljlibhhefceaaaDoorUb
import Derived.Test.YtljlibhhefceaaaDoorSk
import Derived.Test.YtljlibhhefceaaaDoorRc
namespace Go.Proofs.YtljlibhhefceaaaDoor
open Go.ChangeShapes Go.WideShapes Go.ChangeAt Go.RowKit
set_option linter.unusedVariables false
set_option linter.unusedSimpArgs false
set_option linter.unnecessarySimpa false
theorem digZ_some {c x : Nat} (h : dig c = some x) : digZ c = (x : Int) := by simp [digZ, h]
theorem digZ_none {c : Nat} (h : dig c = none) : digZ c = -1 := by simp [digZ, h]
structure Ux (w wr : World) (g cap j : Nat) (s : ByteArray) : Prop where
  own : wr.ownsRow w.heap.size 5 1 (.slice (some ⟨g, 0, none⟩) j cap) j ((unL s j).map bv)
  bel : Below w.heap.size w wr
  ok : ∀ t, t < 2 * j → dig (sb s t) ≠ none
theorem app_byte {w wr : World} {g cap j x y : Nat} {s : ByteArray} (h : Ux w wr g cap j s) (hj : j ≤ 70368744175616) (hx : dig (sb s (2 * j)) = some x) (hy : dig (sb s (2 * j + 1)) = some y) :
    ∃ g' cap' w', (Builtin.append_ #[22, 22] 22 #[.slice (some ⟨g, 0, none⟩) j cap, .slice (some ⟨wr.heap.size, 0, none⟩) 1 1]).run Tryd.prog (wr.alloc (.cells #[.int .u8 ((16 * x + y : Nat) : Int)] 5)) = .ok (.slice (some ⟨g', 0, none⟩) (j + 1) cap') w' ∧ Ux w w' g' cap' (j + 1) s := by
  have own := h.own
  have ll : (unL s j).length = j := unL_length s j
  have x16 := dig_lt hx
  have y16 := dig_lt hy
  obtain ⟨v', w', hrun, g', cap', hv, hown, hbel⟩ := app_sing (w := w) (wr := wr) (g := g) (cap := cap) (L := unL s j) (by rw [ll]; exact own) h.bel (16 * x + y) (by omega) (by rw [ll]; omega)
  have e1 : unL s j ++ [16 * x + y] = unL s (j + 1) := by
    unfold unL
    rw [List.range_succ, List.map_append]
    simp [dg, hx, hy]
  rw [e1, unL_length] at hv
  rw [e1, unL_length] at hown
  rw [ll] at hrun
  subst hv
  refine ⟨g', cap', w', hrun, hown, hbel, fun t ht => ?_⟩
  by_cases h1 : t < 2 * j
  · exact h.ok t h1
  · by_cases h2 : t = 2 * j
    · rw [h2, hx]; simp
    · have h3 : t = 2 * j + 1 := by omega
      rw [h3, hy]; simp
set_option maxRecDepth 20000 in
set_option maxHeartbeats 1000000 in
theorem refunhex_t (s : ByteArray) (w : World) (m : Nat) (hm : Hid (s.size = 2 * m)) (hD : Hid (∀ j, j < 2 * m → ∃ x, dig (sb s j) = some x)) (hb : s.size ≤ 140737488351232) :
    Calls Tryd.prog 20 #[.string s] w fun e w' => ∃ g cap, e = .returned (.tuple #[.slice (some ⟨g, 0, none⟩) m cap, .bool true]) ∧ Hid (Sln w' (some ⟨g, 0, none⟩) m (unL s m) ∧ Below w.heap.size w w') := by
  obtain ⟨n, Hn⟩ : ∃ n, Hid (s.size = n) := ⟨_, rfl⟩
  have nb : n ≤ 140737488351232 := by rw [← Hn.out]; exact hb
  have nb2 : (s.size : Int) ≤ 140737488351232 := by omega
  have H0 : Hid (Ux w (w.alloc (.cells #[] 5)) w.heap.size 0 0 s) := ⟨World.ownsRow_made w _ 0 (Nat.le_refl _) (by unfold maxLen; omega) rfl, (Below.refl _ _).alloc (Nat.le_refl _) _, fun t ht => by omega⟩
  go_enter Tryd.func20, Tryd.ntmps20
  go_wp2
  go_loopw [5, 4] (fun ti tv wr => ∃ i j g cap : Nat, i ≤ n ∧ ti = .int .i64 (i : Int) ∧ tv = .slice (some ⟨g, 0, none⟩) j cap ∧ Hid (i = 2 * j ∧ Ux w wr g cap j s)) (fun ti _ _ => n - (intOf ti).toNat)
  case atStart => exact ⟨0, 0, w.heap.size, 0, by omega, rfl, rfl, rfl, H0.out⟩
  case round =>
    obtain ⟨i, j, g, cap, hi, rfl, rfl, HU⟩ := hrel
    clear H0
    by_cases hlt : i < n
    · have i1 : (i : Int) < (s.size : Int) := by have := Hn.out; omega
      obtain ⟨c1, Hc1⟩ : ∃ c, Hid (sb s i = c) := ⟨_, rfl⟩
      have l1 : c1 < 256 := by rw [← Hc1.out]; exact sb_lt _ _
      have ix1 : ∀ w, (Instr.index 9 (.string s) (.int .i64 (i : Int))).run Tryd.prog w = .ok (.int .u8 (c1 : Int)) w := fun w => by rw [← Hc1.out]; exact sb_ix s i _ rfl (by rw [Hn.out]; omega) w
      by_cases hod : i + 1 = n
      · exact absurd hod (by have := Hn.out; have := hm.out; have := HU.out.1; omega)
      · have o1 : ((i : Int) + 1 == (s.size : Int)) = false := by
          have := Hn.out
          simp
          omega
        have o2 : ¬ ((i : Int) + 1 = (s.size : Int)) := by have := Hn.out; omega
        have o3 : (i : Int) + 1 < (s.size : Int) := by have := Hn.out; omega
        obtain ⟨c2, Hc2⟩ : ∃ c, Hid (sb s (i + 1) = c) := ⟨_, rfl⟩
        have l2 : c2 < 256 := by rw [← Hc2.out]; exact sb_lt _ _
        have ix2 : ∀ w, (Instr.index 9 (.string s) (.int .i64 ((i : Int) + 1))).run Tryd.prog w = .ok (.int .u8 (c2 : Int)) w := fun w => by rw [← Hc2.out]; exact sb_ix s (i + 1) _ (by omega) (by rw [Hn.out]; omega) w
        obtain ⟨x, hx⟩ : ∃ x, dig c1 = some x := by rw [← Hc1.out]; exact hD.out _ (by have := hm.out; have := Hn.out; omega)
        obtain ⟨y, hy⟩ : ∃ y, dig c2 = some y := by rw [← Hc2.out]; exact hD.out _ (by have := hm.out; have := Hn.out; omega)
        have z1 := digZ_some hx
        have z2 := digZ_some hy
        have x16 := dig_lt hx
        have y16 := dig_lt hy
        have AW := app_byte (wr := wr.drew) (w := w) (g := g) (cap := cap) (j := j) (s := s) (x := x) (y := y) ⟨HU.out.2.own.drew, HU.out.2.bel.drew, HU.out.2.ok⟩ (by have := HU.out.1; omega) (by rw [← HU.out.1, Hc1.out]; exact hx) (by rw [← HU.out.1, Hc2.out]; exact hy)
        obtain ⟨g2, cap2, w2, AP0, HX2⟩ := AW
        have H2 : Hid (i + 2 = 2 * (j + 1) ∧ Ux w w2 g2 cap2 (j + 1) s) := ⟨by have := HU.out.1; omega, HX2⟩
        have q1 : IntKind.u8.wrap (16 * (x : Int) + (y : Int)) = ((16 * x + y : Nat) : Int) := by rw [IntKind.wrap_u8]; omega
        obtain ⟨t5, ht5⟩ : ∃ t5 : Int, 16 * (x : Int) = t5 := ⟨_, rfl⟩
        obtain ⟨t6, ht6⟩ : ∃ t6 : Int, t5 + (y : Int) = t6 := ⟨_, rfl⟩
        have q5 : IntKind.i64.wrap t5 = t5 := by rw [IntKind.wrap_i64]; omega
        have q8 : IntKind.i64.wrap ((i : Int) + 1) = (i : Int) + 1 := by rw [IntKind.wrap_i64]; omega
        have q6 : IntKind.i64.wrap t6 = t6 := by rw [IntKind.wrap_i64]; omega
        obtain ⟨v, Hv⟩ : ∃ v, Hid (16 * x + y = v) := ⟨_, rfl⟩
        rw [Hv.out] at AP0 q1
        rw [ht5, ht6] at q1
        have q7 : t6 % 256 = (v : Int) := by have := Hv.out; omega
        clear HX2 HU
        go_upto_region 7 with (go_at_call 29; refine (digit_n _ (by assumption) _).mono ?_; rintro e w0 ⟨rfl, h0⟩; rw [h0]; clear h0)
        refine wp_region_any (by kernel_rfl) ?_
        generalize hw4 : ({ heap := wr.heap, tape := wr.tape, drawn := wr.drawn + 1, os := wr.os, output := wr.output } : World) = w4
        have hw5 : wr.drew = w4 := hw4
        rw [hw5] at AP0
        have AP : Hid ((Builtin.append_ #[22, 22] 22 #[.slice (some ⟨g, 0, none⟩) j cap, .slice (some ⟨w4.heap.size, 0, none⟩) 1 1]).run Tryd.prog (w4.alloc (.cells #[.int .u8 (v : Int)] 5)) = .ok (.slice (some ⟨g2, 0, none⟩) (j + 1) cap2) w2) := AP0
        clear AP0 hw4 hw5
        refine wpAny_take (i := 0) (v := .slice (some ⟨g, 0, none⟩) j cap) rfl (by kernel_rfl) (by kernel_rfl) (by kernel_rfl) (fun _ _ _ h => h) (Or.inl ⟨by rfl, fun w => by go_simp⟩) ?_
        simp only [List.getElem_toArray, List.getElem_cons_zero, List.getElem_cons_succ, Act.put, List.setIfInBounds_toArray, List.set_cons_zero, List.set_cons_succ]
        refine wpAny_take (i := 1) (v := .string s) rfl (by kernel_rfl) (by kernel_rfl) (by kernel_rfl) (fun _ _ _ h => h) (Or.inl ⟨by rfl, fun w => by go_simp⟩) ?_
        simp only [List.getElem_toArray, List.getElem_cons_zero, List.getElem_cons_succ, Act.put, List.setIfInBounds_toArray, List.set_cons_zero, List.set_cons_succ]
        refine wpAny_take (i := 2) (v := .int .i64 (i : Int)) rfl (by kernel_rfl) (by kernel_rfl) (by kernel_rfl) (fun _ _ _ h => h) (Or.inl ⟨by rfl, fun w => by go_simp⟩) ?_
        simp only [List.getElem_toArray, List.getElem_cons_zero, List.getElem_cons_succ, Act.put, List.setIfInBounds_toArray, List.set_cons_zero, List.set_cons_succ]
        refine wpAny_take (i := 3) (v := .int .u8 (c1 : Int)) rfl (by kernel_rfl) (by kernel_rfl) (by kernel_rfl) (fun _ _ _ h => h) (Or.inl ⟨by rfl, fun w => by go_simp⟩) ?_
        simp only [List.getElem_toArray, List.getElem_cons_zero, List.getElem_cons_succ, Act.put, List.setIfInBounds_toArray, List.set_cons_zero, List.set_cons_succ]
        refine wpAny_take (i := 6) (v := .string s) rfl (by kernel_rfl) (by kernel_rfl) (by kernel_rfl) (fun _ _ _ h => h) (Or.inl ⟨by rfl, fun w => by go_simp⟩) ?_
        simp only [List.getElem_toArray, List.getElem_cons_zero, List.getElem_cons_succ, Act.put, List.setIfInBounds_toArray, List.set_cons_zero, List.set_cons_succ]
        refine wpAny_take (i := 7) (v := .int .i64 (i : Int)) rfl (by kernel_rfl) (by kernel_rfl) (by kernel_rfl) (fun _ _ _ h => h) (Or.inl ⟨by rfl, fun w => by go_simp⟩) ?_
        simp only [List.getElem_toArray, List.getElem_cons_zero, List.getElem_cons_succ, Act.put, List.setIfInBounds_toArray, List.set_cons_zero, List.set_cons_succ]
        refine wpAny_take (i := 8) (v := .int .i64 ((i : Int) + 1)) rfl (by kernel_rfl) (by kernel_rfl) (by kernel_rfl) (fun _ _ _ h => h) (Or.inl ⟨by rfl, fun w => by go_simp⟩) ?_
        simp only [List.getElem_toArray, List.getElem_cons_zero, List.getElem_cons_succ, Act.put, List.setIfInBounds_toArray, List.set_cons_zero, List.set_cons_succ]
        refine wpAny_take (i := 9) (v := .int .u8 (c2 : Int)) rfl (by kernel_rfl) (by kernel_rfl) (by kernel_rfl) (fun _ _ _ h => h) (Or.inl ⟨by rfl, fun w => by go_simp⟩) ?_
        simp only [List.getElem_toArray, List.getElem_cons_zero, List.getElem_cons_succ, Act.put, List.setIfInBounds_toArray, List.set_cons_zero, List.set_cons_succ]
        refine wpAny_ready (rs := [4]) (by kernel_rfl) (by simp) (AllReady.cons rfl (fun K hK => ?_) AllReady.nil)
        simp only [List.getElem_toArray, List.getElem_cons_zero, List.getElem_cons_succ]
        rw [if_pos (by rfl)]
        go_simp
        go_wp2_with (go_at_call 29; refine (digit_n _ (by assumption) _).mono ?_; rintro e w0 ⟨rfl, h0⟩; rw [h0]; clear h0)
        refine wpAny_take (i := 5) (v := .int .i64 t5) rfl (by kernel_rfl) (by kernel_rfl) (by kernel_rfl) (fun _ _ _ h => h) (Or.inl ⟨by rfl, fun w => by go_simp⟩) ?_
        simp only [List.getElem_toArray, List.getElem_cons_zero, List.getElem_cons_succ, Act.put, List.setIfInBounds_toArray, List.set_cons_zero, List.set_cons_succ]
        refine wpAny_ready (rs := [10]) (by kernel_rfl) (by simp) (AllReady.cons rfl (fun K hK => ?_) AllReady.nil)
        simp only [List.getElem_toArray, List.getElem_cons_zero, List.getElem_cons_succ]
        rw [if_pos (by rfl)]
        go_simp
        go_wp2_with (go_at_call 29; refine (digit_n _ (by assumption) _).mono ?_; rintro e w0 ⟨rfl, h0⟩; rw [h0]; clear h0)
        refine wpAny_take (i := 11) (v := .int .i64 t6) rfl (by kernel_rfl) (by kernel_rfl) (by kernel_rfl) (fun _ _ _ h => h) (Or.inl ⟨by rfl, fun w => by go_simp⟩) ?_
        simp only [List.getElem_toArray, List.getElem_cons_zero, List.getElem_cons_succ, Act.put, List.setIfInBounds_toArray, List.set_cons_zero, List.set_cons_succ]
        refine wpAny_take (i := 12) (v := .int .u8 (v : Int)) rfl (by kernel_rfl) (by kernel_rfl) (by kernel_rfl) (fun _ _ _ h => h) (Or.inl ⟨by rfl, fun w => by go_simp⟩) ?_
        simp only [List.getElem_toArray, List.getElem_cons_zero, List.getElem_cons_succ, Act.put, List.setIfInBounds_toArray, List.set_cons_zero, List.set_cons_succ]
        refine wpAny_seq' (k := 13) (by kernel_rfl) (by kernel_rfl) ?_
        simp only [List.drop_succ_cons, List.drop_zero]
        go_wp2_with (at_builtin; refine wpList_app (by rfl) (.tmp 33) (.tmp 46) (by rfl) (by rfl) (by rfl) (by rfl) AP ?_)
        go_roundw
        case rel => exact ⟨i + 2, j + 1, g2, cap2, by omega, by go_num, rfl, H2.out⟩
        case measure => simp [intOf]; omega
    · have e : i = n := by omega
      have i1 : ¬ ((i : Int) < (s.size : Int)) := by have := Hn.out; omega
      have ej : j = m := by have := HU.out.1; have := Hn.out; have := hm.out; omega
      subst ej
      have FIN : Hid (Sln wr (some ⟨g, 0, none⟩) j (unL s j) ∧ Below w.heap.size w wr) := ⟨own_sln HU.out.2.own (unL_lt s j) (by rw [unL_length]; have := HU.out.1; omega), HU.out.2.bel⟩
      clear HU e
      go_wp2
      go_ret2
      exact ⟨g, ⟨cap, rfl⟩, FIN.out⟩
set_option maxRecDepth 20000 in
set_option maxHeartbeats 1000000 in
theorem refunhex_f (s : ByteArray) (w : World) (hF : Hid (¬ (s.size % 2 = 0 ∧ ∀ t, t < s.size → dig (sb s t) ≠ none))) (hb : s.size ≤ 140737488351232) :
    Calls Tryd.prog 20 #[.string s] w fun e w' => e = .returned (.tuple #[.slice none 0 0, .bool false]) ∧ Hid (Below w.heap.size w w') := by
  obtain ⟨n, Hn⟩ : ∃ n, Hid (s.size = n) := ⟨_, rfl⟩
  have nb : n ≤ 140737488351232 := by rw [← Hn.out]; exact hb
  have nb2 : (s.size : Int) ≤ 140737488351232 := by omega
  have H0 : Hid (Ux w (w.alloc (.cells #[] 5)) w.heap.size 0 0 s) := ⟨World.ownsRow_made w _ 0 (Nat.le_refl _) (by unfold maxLen; omega) rfl, (Below.refl _ _).alloc (Nat.le_refl _) _, fun t ht => by omega⟩
  go_enter Tryd.func20, Tryd.ntmps20
  go_wp2
  go_loopw [5, 4] (fun ti tv wr => ∃ i j g cap : Nat, i ≤ n ∧ ti = .int .i64 (i : Int) ∧ tv = .slice (some ⟨g, 0, none⟩) j cap ∧ Hid (i = 2 * j ∧ Ux w wr g cap j s)) (fun ti _ _ => n - (intOf ti).toNat)
  case atStart => exact ⟨0, 0, w.heap.size, 0, by omega, rfl, rfl, rfl, H0.out⟩
  case round =>
    obtain ⟨i, j, g, cap, hi, rfl, rfl, HU⟩ := hrel
    clear H0
    by_cases hlt : i < n
    · have i1 : (i : Int) < (s.size : Int) := by have := Hn.out; omega
      obtain ⟨c1, Hc1⟩ : ∃ c, Hid (sb s i = c) := ⟨_, rfl⟩
      have l1 : c1 < 256 := by rw [← Hc1.out]; exact sb_lt _ _
      have ix1 : ∀ w, (Instr.index 9 (.string s) (.int .i64 (i : Int))).run Tryd.prog w = .ok (.int .u8 (c1 : Int)) w := fun w => by rw [← Hc1.out]; exact sb_ix s i _ rfl (by rw [Hn.out]; omega) w
      by_cases hod : i + 1 = n
      · have o1 : ((i : Int) + 1 == (s.size : Int)) = true := by
          have := Hn.out
          simp
          omega
        have o2 : (i : Int) + 1 = (s.size : Int) := by have := Hn.out; omega
        have BW : Hid (Below w.heap.size w wr) := HU.out.2.bel
        clear HU
        go_wp2_with (go_at_call 29; refine (digit_n _ (by assumption) _).mono ?_; rintro e w0 ⟨rfl, h0⟩; rw [h0]; clear h0)
        go_ret2
        exact ⟨rfl, BW.out⟩
      · have o1 : ((i : Int) + 1 == (s.size : Int)) = false := by
          have := Hn.out
          simp
          omega
        have o2 : ¬ ((i : Int) + 1 = (s.size : Int)) := by have := Hn.out; omega
        have o3 : (i : Int) + 1 < (s.size : Int) := by have := Hn.out; omega
        obtain ⟨c2, Hc2⟩ : ∃ c, Hid (sb s (i + 1) = c) := ⟨_, rfl⟩
        have l2 : c2 < 256 := by rw [← Hc2.out]; exact sb_lt _ _
        have ix2 : ∀ w, (Instr.index 9 (.string s) (.int .i64 ((i : Int) + 1))).run Tryd.prog w = .ok (.int .u8 (c2 : Int)) w := fun w => by rw [← Hc2.out]; exact sb_ix s (i + 1) _ (by omega) (by rw [Hn.out]; omega) w
        cases hx : dig c1 with
        | none =>
          have z1 := digZ_none hx
          have BW : Hid (Below w.heap.size w wr) := HU.out.2.bel
          clear HU
          go_wp2_with (go_at_call 29; refine (digit_n _ (by assumption) _).mono ?_; rintro e w0 ⟨rfl, h0⟩; rw [h0]; clear h0)
          go_ret2
          exact ⟨rfl, BW.out⟩
        | some x =>
          cases hy : dig c2 with
          | none =>
            have z1 := digZ_some hx
            have z2 := digZ_none hy
            have BW : Hid (Below w.heap.size w wr) := HU.out.2.bel
            clear HU
            go_wp2_with (go_at_call 29; refine (digit_n _ (by assumption) _).mono ?_; rintro e w0 ⟨rfl, h0⟩; rw [h0]; clear h0)
            go_ret2
            exact ⟨rfl, BW.out⟩
          | some y =>
            have z1 := digZ_some hx
            have z2 := digZ_some hy
            have x16 := dig_lt hx
            have y16 := dig_lt hy
            have AW := app_byte (wr := wr.drew) (w := w) (g := g) (cap := cap) (j := j) (s := s) (x := x) (y := y) ⟨HU.out.2.own.drew, HU.out.2.bel.drew, HU.out.2.ok⟩ (by have := HU.out.1; omega) (by rw [← HU.out.1, Hc1.out]; exact hx) (by rw [← HU.out.1, Hc2.out]; exact hy)
            obtain ⟨g2, cap2, w2, AP0, HX2⟩ := AW
            have H2 : Hid (i + 2 = 2 * (j + 1) ∧ Ux w w2 g2 cap2 (j + 1) s) := ⟨by have := HU.out.1; omega, HX2⟩
            have q1 : IntKind.u8.wrap (16 * (x : Int) + (y : Int)) = ((16 * x + y : Nat) : Int) := by rw [IntKind.wrap_u8]; omega
            obtain ⟨t5, ht5⟩ : ∃ t5 : Int, 16 * (x : Int) = t5 := ⟨_, rfl⟩
            obtain ⟨t6, ht6⟩ : ∃ t6 : Int, t5 + (y : Int) = t6 := ⟨_, rfl⟩
            have q5 : IntKind.i64.wrap t5 = t5 := by rw [IntKind.wrap_i64]; omega
            have q8 : IntKind.i64.wrap ((i : Int) + 1) = (i : Int) + 1 := by rw [IntKind.wrap_i64]; omega
            have q6 : IntKind.i64.wrap t6 = t6 := by rw [IntKind.wrap_i64]; omega
            obtain ⟨v, Hv⟩ : ∃ v, Hid (16 * x + y = v) := ⟨_, rfl⟩
            rw [Hv.out] at AP0 q1
            rw [ht5, ht6] at q1
            have q7 : t6 % 256 = (v : Int) := by have := Hv.out; omega
            clear HX2 HU
            go_upto_region 7 with (go_at_call 29; refine (digit_n _ (by assumption) _).mono ?_; rintro e w0 ⟨rfl, h0⟩; rw [h0]; clear h0)
            refine wp_region_any (by kernel_rfl) ?_
            generalize hw4 : ({ heap := wr.heap, tape := wr.tape, drawn := wr.drawn + 1, os := wr.os, output := wr.output } : World) = w4
            have hw5 : wr.drew = w4 := hw4
            rw [hw5] at AP0
            have AP : Hid ((Builtin.append_ #[22, 22] 22 #[.slice (some ⟨g, 0, none⟩) j cap, .slice (some ⟨w4.heap.size, 0, none⟩) 1 1]).run Tryd.prog (w4.alloc (.cells #[.int .u8 (v : Int)] 5)) = .ok (.slice (some ⟨g2, 0, none⟩) (j + 1) cap2) w2) := AP0
            clear AP0 hw4 hw5
            refine wpAny_take (i := 0) (v := .slice (some ⟨g, 0, none⟩) j cap) rfl (by kernel_rfl) (by kernel_rfl) (by kernel_rfl) (fun _ _ _ h => h) (Or.inl ⟨by rfl, fun w => by go_simp⟩) ?_
            simp only [List.getElem_toArray, List.getElem_cons_zero, List.getElem_cons_succ, Act.put, List.setIfInBounds_toArray, List.set_cons_zero, List.set_cons_succ]
            refine wpAny_take (i := 1) (v := .string s) rfl (by kernel_rfl) (by kernel_rfl) (by kernel_rfl) (fun _ _ _ h => h) (Or.inl ⟨by rfl, fun w => by go_simp⟩) ?_
            simp only [List.getElem_toArray, List.getElem_cons_zero, List.getElem_cons_succ, Act.put, List.setIfInBounds_toArray, List.set_cons_zero, List.set_cons_succ]
            refine wpAny_take (i := 2) (v := .int .i64 (i : Int)) rfl (by kernel_rfl) (by kernel_rfl) (by kernel_rfl) (fun _ _ _ h => h) (Or.inl ⟨by rfl, fun w => by go_simp⟩) ?_
            simp only [List.getElem_toArray, List.getElem_cons_zero, List.getElem_cons_succ, Act.put, List.setIfInBounds_toArray, List.set_cons_zero, List.set_cons_succ]
            refine wpAny_take (i := 3) (v := .int .u8 (c1 : Int)) rfl (by kernel_rfl) (by kernel_rfl) (by kernel_rfl) (fun _ _ _ h => h) (Or.inl ⟨by rfl, fun w => by go_simp⟩) ?_
            simp only [List.getElem_toArray, List.getElem_cons_zero, List.getElem_cons_succ, Act.put, List.setIfInBounds_toArray, List.set_cons_zero, List.set_cons_succ]
            refine wpAny_take (i := 6) (v := .string s) rfl (by kernel_rfl) (by kernel_rfl) (by kernel_rfl) (fun _ _ _ h => h) (Or.inl ⟨by rfl, fun w => by go_simp⟩) ?_
            simp only [List.getElem_toArray, List.getElem_cons_zero, List.getElem_cons_succ, Act.put, List.setIfInBounds_toArray, List.set_cons_zero, List.set_cons_succ]
            refine wpAny_take (i := 7) (v := .int .i64 (i : Int)) rfl (by kernel_rfl) (by kernel_rfl) (by kernel_rfl) (fun _ _ _ h => h) (Or.inl ⟨by rfl, fun w => by go_simp⟩) ?_
            simp only [List.getElem_toArray, List.getElem_cons_zero, List.getElem_cons_succ, Act.put, List.setIfInBounds_toArray, List.set_cons_zero, List.set_cons_succ]
            refine wpAny_take (i := 8) (v := .int .i64 ((i : Int) + 1)) rfl (by kernel_rfl) (by kernel_rfl) (by kernel_rfl) (fun _ _ _ h => h) (Or.inl ⟨by rfl, fun w => by go_simp⟩) ?_
            simp only [List.getElem_toArray, List.getElem_cons_zero, List.getElem_cons_succ, Act.put, List.setIfInBounds_toArray, List.set_cons_zero, List.set_cons_succ]
            refine wpAny_take (i := 9) (v := .int .u8 (c2 : Int)) rfl (by kernel_rfl) (by kernel_rfl) (by kernel_rfl) (fun _ _ _ h => h) (Or.inl ⟨by rfl, fun w => by go_simp⟩) ?_
            simp only [List.getElem_toArray, List.getElem_cons_zero, List.getElem_cons_succ, Act.put, List.setIfInBounds_toArray, List.set_cons_zero, List.set_cons_succ]
            refine wpAny_ready (rs := [4]) (by kernel_rfl) (by simp) (AllReady.cons rfl (fun K hK => ?_) AllReady.nil)
            simp only [List.getElem_toArray, List.getElem_cons_zero, List.getElem_cons_succ]
            rw [if_pos (by rfl)]
            go_simp
            go_wp2_with (go_at_call 29; refine (digit_n _ (by assumption) _).mono ?_; rintro e w0 ⟨rfl, h0⟩; rw [h0]; clear h0)
            refine wpAny_take (i := 5) (v := .int .i64 t5) rfl (by kernel_rfl) (by kernel_rfl) (by kernel_rfl) (fun _ _ _ h => h) (Or.inl ⟨by rfl, fun w => by go_simp⟩) ?_
            simp only [List.getElem_toArray, List.getElem_cons_zero, List.getElem_cons_succ, Act.put, List.setIfInBounds_toArray, List.set_cons_zero, List.set_cons_succ]
            refine wpAny_ready (rs := [10]) (by kernel_rfl) (by simp) (AllReady.cons rfl (fun K hK => ?_) AllReady.nil)
            simp only [List.getElem_toArray, List.getElem_cons_zero, List.getElem_cons_succ]
            rw [if_pos (by rfl)]
            go_simp
            go_wp2_with (go_at_call 29; refine (digit_n _ (by assumption) _).mono ?_; rintro e w0 ⟨rfl, h0⟩; rw [h0]; clear h0)
            refine wpAny_take (i := 11) (v := .int .i64 t6) rfl (by kernel_rfl) (by kernel_rfl) (by kernel_rfl) (fun _ _ _ h => h) (Or.inl ⟨by rfl, fun w => by go_simp⟩) ?_
            simp only [List.getElem_toArray, List.getElem_cons_zero, List.getElem_cons_succ, Act.put, List.setIfInBounds_toArray, List.set_cons_zero, List.set_cons_succ]
            refine wpAny_take (i := 12) (v := .int .u8 (v : Int)) rfl (by kernel_rfl) (by kernel_rfl) (by kernel_rfl) (fun _ _ _ h => h) (Or.inl ⟨by rfl, fun w => by go_simp⟩) ?_
            simp only [List.getElem_toArray, List.getElem_cons_zero, List.getElem_cons_succ, Act.put, List.setIfInBounds_toArray, List.set_cons_zero, List.set_cons_succ]
            refine wpAny_seq' (k := 13) (by kernel_rfl) (by kernel_rfl) ?_
            simp only [List.drop_succ_cons, List.drop_zero]
            go_wp2_with (at_builtin; refine wpList_app (by rfl) (.tmp 33) (.tmp 46) (by rfl) (by rfl) (by rfl) (by rfl) AP ?_)
            go_roundw
            case rel => exact ⟨i + 2, j + 1, g2, cap2, by omega, by go_num, rfl, H2.out⟩
            case measure => simp [intOf]; omega
    · have e : i = n := by omega
      exact absurd (show s.size % 2 = 0 ∧ ∀ t, t < s.size → dig (sb s t) ≠ none from ⟨by have := HU.out.1; have := Hn.out; omega, fun t ht => HU.out.2.ok t (by have := HU.out.1; have := Hn.out; omega)⟩) hF.out
end Go.Proofs.YtljlibhhefceaaaDoor
