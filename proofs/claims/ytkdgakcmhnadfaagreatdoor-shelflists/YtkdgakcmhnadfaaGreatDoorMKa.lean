import Derived.Test.YtkdgakcmhnadfaaGreatDoorMDc
import Derived.Test.YtkdgakcmhnadfaaGreatDoorMOr
/- Ka -/
/- Small functions of package shelf: isNode, isTime, isGood, New, Drive; ids compared. -/
namespace Go.Proofs.YtkdgakcmhnadfaaGreatDoor
open Go.ChangeShapes Go.WideShapes Go.ChangeAt Go.RowKit
set_option maxRecDepth 20000
set_option linter.unusedVariables false
set_option linter.unusedSimpArgs false
theorem isnan_n (x : Int) (w : World) : Calls Tryz.prog 82 #[.int .i64 x] w fun e w' => e = .returned (.bool false) ∧ w' = w := by
  go_enter Tryz.func82, Tryz.ntmps82
  go_wp2
  go_ret
  exact ⟨by simp, rfl⟩
def cmpI (x y : Int) : Int := if x < y then -1 else if y < x then 1 else 0
set_option maxHeartbeats 1000000 in
theorem compare_n (x y : Int) (w : World) : Calls Tryz.prog 47 #[.int .i64 x, .int .i64 y] w fun e w' => e = .returned (.int .i64 (cmpI x y)) ∧ w' = w := by
  go_enter Tryz.func47, Tryz.ntmps47
  by_cases h1 : x < y
  · have e1 : cmpI x y = -1 := by unfold cmpI; rw [if_pos h1]
    go_wp2_with (first
      | (go_at_call 82; refine (isnan_n x _).mono ?_; rintro e w0 ⟨rfl, h00⟩; rw [h00]; clear h00)
      | (go_at_call 82; refine (isnan_n y _).mono ?_; rintro e w0 ⟨rfl, h00⟩; rw [h00]; clear h00))
    go_ret
    exact ⟨by first | rfl | (rw [e1]; rfl), rfl⟩
  · by_cases h2 : y < x
    · have e1 : cmpI x y = 1 := by unfold cmpI; rw [if_neg h1, if_pos h2]
      go_wp2_with (first
        | (go_at_call 82; refine (isnan_n x _).mono ?_; rintro e w0 ⟨rfl, h00⟩; rw [h00]; clear h00)
        | (go_at_call 82; refine (isnan_n y _).mono ?_; rintro e w0 ⟨rfl, h00⟩; rw [h00]; clear h00))
      go_ret
      exact ⟨by first | rfl | (rw [e1]; rfl), rfl⟩
    · have e1 : cmpI x y = 0 := by unfold cmpI; rw [if_neg h1, if_neg h2]
      go_wp2_with (first
        | (go_at_call 82; refine (isnan_n x _).mono ?_; rintro e w0 ⟨rfl, h00⟩; rw [h00]; clear h00)
        | (go_at_call 82; refine (isnan_n y _).mono ?_; rintro e w0 ⟨rfl, h00⟩; rw [h00]; clear h00))
      go_ret
      exact ⟨by first | rfl | (rw [e1]; rfl), rfl⟩
def nodeOk (x : Int) : Bool := decide (0 ≤ x ∧ x < 16)
def timeOk (x : Int) : Bool := decide (0 ≤ x ∧ x ≤ 1099511627776)
theorem isnode_n (x : Int) (w : World) : Calls Tryz.prog 27 #[.int .i64 x] w fun e w' => e = .returned (.bool (nodeOk x)) ∧ w' = w := by
  go_enter Tryz.func27, Tryz.ntmps27
  by_cases h1 : 0 ≤ x
  · by_cases h2 : x < 16
    · have e1 : nodeOk x = true := decide_eq_true ⟨h1, h2⟩
      go_wp2
      go_ret
      exact ⟨by first | rfl | (rw [e1]; rfl), rfl⟩
    · have e1 : nodeOk x = false := decide_eq_false (fun h => h2 h.2)
      go_wp2
      go_ret
      exact ⟨by first | rfl | (rw [e1]; rfl), rfl⟩
  · have e1 : nodeOk x = false := decide_eq_false (fun h => h1 h.1)
    go_wp2
    go_ret
    exact ⟨by first | rfl | (rw [e1]; rfl), rfl⟩
theorem istime_n (x : Int) (w : World) : Calls Tryz.prog 97 #[.int .i64 x] w fun e w' => e = .returned (.bool (timeOk x)) ∧ w' = w := by
  go_enter Tryz.func97, Tryz.ntmps97
  by_cases h1 : 0 ≤ x
  · by_cases h2 : x ≤ 1099511627776
    · have e1 : timeOk x = true := decide_eq_true ⟨h1, h2⟩
      go_wp2
      go_ret
      exact ⟨by first | rfl | (rw [e1]; rfl), rfl⟩
    · have e1 : timeOk x = false := decide_eq_false (fun h => h2 h.2)
      go_wp2
      go_ret
      exact ⟨by first | rfl | (rw [e1]; rfl), rfl⟩
  · have e1 : timeOk x = false := decide_eq_false (fun h => h1 h.1)
    go_wp2
    go_ret
    exact ⟨by first | rfl | (rw [e1]; rfl), rfl⟩
/- a shelf: its node's number and its drive -/
structure Shl (w : World) (g : Nat) (node : Int) (d : Nat) : Prop where
  c0 : w.cell? ⟨g, 0, none⟩ = some (.int .i64 node)
  c1 : w.cell? ⟨g, 1, none⟩ = some (.pointer (some ⟨d, 0, none⟩))
theorem shnew_n (x : Int) (w : World) (hx : Hid (nodeOk x = true)) : Calls Tryz.prog 9 #[.int .i64 x] w fun e w' => ∃ g d m, e = .returned (.tuple #[.pointer (some ⟨g, 0, none⟩), .nilIface]) ∧ Hid (Shl w' g x d ∧ Dv w' d m (fun _ => none) 0 ∧ w.heap.size ≤ g ∧ w.heap.size ≤ d ∧ w.heap.size ≤ m ∧ Below w.heap.size w w' ∧ g ≠ d ∧ g ≠ m) := by
  go_enter Tryz.func9, Tryz.ntmps9
  go_wp2_with (first
    | (go_at_call 27; refine (isnode_n x _).mono ?_; rintro e w0 ⟨rfl, h00⟩; rw [h00, hx.out]; clear h00)
    | (go_at_call 28; refine (new_v _).mono ?_; rintro e w1 ⟨d, m, rfl, H1⟩))
  go_ret2
  have h1 := H1.out.2.2.2.size
  have h2 := H1.out.1.lt
  refine ⟨w1.heap.size, d, m, rfl, ⟨by simp, by simp⟩, H1.out.1.below (alloc1 w1 _), h1, H1.out.2.1, H1.out.2.2.1, H1.out.2.2.2.trans ((alloc1 w1 _).mono h1), by omega, by omega⟩
theorem drive_n {w : World} {g d : Nat} {node : Int} (h : Hid (Shl w g node d)) : Calls Tryz.prog 17 #[.pointer (some ⟨g, 0, none⟩)] w fun e w' => e = .returned (.pointer (some ⟨d, 0, none⟩)) ∧ w' = w := by
  have c1 := h.out.c1
  go_enter Tryz.func17, Tryz.ntmps17
  go_wp2
  go_ret
  exact ⟨rfl, rfl⟩
/- what Compare reads -/
structure Cq (W : World) (ga gb : Nat) (a0 a1 a2 b0 b1 b2 : Int) : Prop where
  x0 : W.cell? ⟨ga, 0, none⟩ = some (.int .i64 a0)
  x1 : W.cell? ⟨ga, 1, none⟩ = some (.int .i64 a1)
  x2 : W.cell? ⟨ga, 2, none⟩ = some (.int .i64 a2)
  y0 : W.cell? ⟨gb, 0, none⟩ = some (.int .i64 b0)
  y1 : W.cell? ⟨gb, 1, none⟩ = some (.int .i64 b1)
  y2 : W.cell? ⟨gb, 2, none⟩ = some (.int .i64 b2)
theorem Cq.below {W W' : World} {ga gb : Nat} {a0 a1 a2 b0 b1 b2 : Int} (h : Cq W ga gb a0 a1 a2 b0 b1 b2) (hb : Below W.heap.size W W') : Cq W' ga gb a0 a1 a2 b0 b1 b2 :=
  ⟨(hb.cell (p := ⟨ga, 0, none⟩) (cell_lt h.x0)).trans h.x0, (hb.cell (p := ⟨ga, 1, none⟩) (cell_lt h.x1)).trans h.x1, (hb.cell (p := ⟨ga, 2, none⟩) (cell_lt h.x2)).trans h.x2, (hb.cell (p := ⟨gb, 0, none⟩) (cell_lt h.y0)).trans h.y0, (hb.cell (p := ⟨gb, 1, none⟩) (cell_lt h.y1)).trans h.y1, (hb.cell (p := ⟨gb, 2, none⟩) (cell_lt h.y2)).trans h.y2⟩
def orI (x y z : Int) : Int := if x ≠ 0 then x else if y ≠ 0 then y else z
set_option maxHeartbeats 1000000 in
theorem or_n {w : World} {g : Nat} (x y z : Int) (c0 : Hid (w.cell? ⟨g, 0, none⟩ = some (.int .i64 x))) (c1 : Hid (w.cell? ⟨g, 1, none⟩ = some (.int .i64 y))) (c2 : Hid (w.cell? ⟨g, 2, none⟩ = some (.int .i64 z))) : Calls Tryz.prog 46 #[.slice (some ⟨g, 0, none⟩) 3 3] w fun e w' => e = .returned (.int .i64 (orI x y z)) ∧ w' = w := by
  have q0 := c0.out
  have q1 := c1.out
  have q2 := c2.out
  go_enter Tryz.func46, Tryz.ntmps46
  go_wp2
  refine wp_loop_rounds 4 ?_
  by_cases hx : x = 0
  · by_cases hy : y = 0
    · by_cases hz : z = 0
      · have e1 : orI x y z = 0 := by simp [orI, hx, hy, hz]
        subst hx hy hz
        rw [rounds_succ]
        go_wp2
        rw [rounds_succ]
        go_wp2
        rw [rounds_succ]
        go_wp2
        rw [rounds_succ]
        go_wp2
        go_ret
        exact ⟨by first | rfl | (rw [e1]; rfl), rfl⟩
      · have e1 : orI x y z = z := by simp [orI, hx, hy]
        subst hx hy
        have n1 : (z != 0) = true := by simp [hz]
        clear hz
        rw [rounds_succ]
        go_wp2
        rw [rounds_succ]
        go_wp2
        rw [rounds_succ]
        go_wp2
        go_ret
        exact ⟨by first | rfl | (rw [e1]; rfl), rfl⟩
    · have e1 : orI x y z = y := by simp [orI, hx, hy]
      subst hx
      have n1 : (y != 0) = true := by simp [hy]
      clear hy
      rw [rounds_succ]
      go_wp2
      rw [rounds_succ]
      go_wp2
      go_ret
      exact ⟨by first | rfl | (rw [e1]; rfl), rfl⟩
  · have e1 : orI x y z = x := by simp [orI, hx]
    have n1 : (x != 0) = true := by simp [hx]
    clear hx
    rw [rounds_succ]
    go_wp2
    go_ret
    exact ⟨by first | rfl | (rw [e1]; rfl), rfl⟩
/- an id as a value -/
abbrev idv (a b c : Int) : Value := .agg #[.int .i64 a, .int .i64 b, .int .i64 c]
set_option maxHeartbeats 2000000 in
theorem idcmp_n (a0 a1 a2 b0 b1 b2 : Int) (w : World) : Calls Tryz.prog 13 #[idv a0 a1 a2, idv b0 b1 b2] w fun e w' => e = .returned (.int .i64 (orI (cmpI a0 b0) (cmpI a1 b1) (cmpI a2 b2))) ∧ Hid (Below w.heap.size w w') := by
  go_enter Tryz.func13, Tryz.ntmps13
  go_upto_region 1 with (fail)
  obtain ⟨ga, Ha⟩ : ∃ ga, Hid (w.heap.size = ga) := ⟨_, rfl⟩
  obtain ⟨gb, Hb⟩ : ∃ gb, Hid (ga + 1 = gb) := ⟨_, rfl⟩
  obtain ⟨W1, HW1⟩ : ∃ W1, Hid (((w.alloc (.cells #[.int .i64 a0, .int .i64 a1, .int .i64 a2] 32)).alloc (.cells #[.int .i64 b0, .int .i64 b1, .int .i64 b2] 32)).drew = W1) := ⟨_, rfl⟩
  have K0 : Cq ((w.alloc (.cells #[.int .i64 a0, .int .i64 a1, .int .i64 a2] 32)).alloc (.cells #[.int .i64 b0, .int .i64 b1, .int .i64 b2] 32)).drew ga gb a0 a1 a2 b0 b1 b2 := by
    rw [← Hb.out, ← Ha.out]
    refine ⟨?_, ?_, ?_, ?_, ?_, ?_⟩ <;> simp
  have B0 : Hid (Below w.heap.size w W1) := by rw [← HW1.out]; exact (alloc2 w _ _).drew
  refine wp_region_till (S := fun L W => Cq W ga gb a0 a1 a2 b0 b1 b2) (by kernel_rfl) K0 (fun hS => ?_)
  rw [Ha.out, Hb.out, HW1.out]
  rw [HW1.out] at hS
  clear K0
  refine till_take (i := 0) (v := .pointer (some ⟨ga, 0, none⟩)) rfl (by kernel_rfl) (by kernel_rfl) (by kernel_rfl) (fun _ _ _ h => h) (fun L w => Iff.rfl) (Or.inl ⟨by rfl, fun w => by go_simp⟩) hS (fun hSb => ?_)
  simp only [List.getElem_toArray, List.getElem_cons_zero, List.getElem_cons_succ, Act.put, List.setIfInBounds_toArray, List.set_cons_zero, List.set_cons_succ]
  clear hS
  refine till_read (i := 1) (c := 4) (v := .int .i64 a0) (T := fun W => Cq W ga gb a0 a1 a2 b0 b1 b2) rfl rfl (by kernel_rfl) (by kernel_rfl) (by kernel_rfl) (by kernel_rfl) (by kernel_rfl) (fun _ _ _ h => h) (fun L w => Iff.rfl) (fun L w h1 h2 => h2) (Or.inl ⟨by rfl, fun w h => by have q := h.x0; go_simp⟩) hSb (fun hS => ?_)
  simp only [List.getElem_toArray, List.getElem_cons_zero, List.getElem_cons_succ, Act.put, List.setIfInBounds_toArray, List.set_cons_zero, List.set_cons_succ]
  clear hSb
  refine till_take (i := 2) (v := .pointer (some ⟨gb, 0, none⟩)) rfl (by kernel_rfl) (by kernel_rfl) (by kernel_rfl) (fun _ _ _ h => h) (fun L w => Iff.rfl) (Or.inl ⟨by rfl, fun w => by go_simp⟩) hS (fun hSb => ?_)
  simp only [List.getElem_toArray, List.getElem_cons_zero, List.getElem_cons_succ, Act.put, List.setIfInBounds_toArray, List.set_cons_zero, List.set_cons_succ]
  clear hS
  refine till_read (i := 3) (c := 4) (v := .int .i64 b0) (T := fun W => Cq W ga gb a0 a1 a2 b0 b1 b2) rfl rfl (by kernel_rfl) (by kernel_rfl) (by kernel_rfl) (by kernel_rfl) (by kernel_rfl) (fun _ _ _ h => h) (fun L w => Iff.rfl) (fun L w h1 h2 => h2) (Or.inl ⟨by rfl, fun w h => by have q := h.y0; go_simp⟩) hSb (fun hS => ?_)
  simp only [List.getElem_toArray, List.getElem_cons_zero, List.getElem_cons_succ, Act.put, List.setIfInBounds_toArray, List.set_cons_zero, List.set_cons_succ]
  clear hSb
  refine till_take (i := 5) (v := .pointer (some ⟨ga, 1, none⟩)) rfl (by kernel_rfl) (by kernel_rfl) (by kernel_rfl) (fun _ _ _ h => h) (fun L w => Iff.rfl) (Or.inl ⟨by rfl, fun w => by go_simp⟩) hS (fun hSb => ?_)
  simp only [List.getElem_toArray, List.getElem_cons_zero, List.getElem_cons_succ, Act.put, List.setIfInBounds_toArray, List.set_cons_zero, List.set_cons_succ]
  clear hS
  refine till_read (i := 6) (c := 9) (v := .int .i64 a1) (T := fun W => Cq W ga gb a0 a1 a2 b0 b1 b2) rfl rfl (by kernel_rfl) (by kernel_rfl) (by kernel_rfl) (by kernel_rfl) (by kernel_rfl) (fun _ _ _ h => h) (fun L w => Iff.rfl) (fun L w h1 h2 => h2) (Or.inl ⟨by rfl, fun w h => by have q := h.x1; go_simp⟩) hSb (fun hS => ?_)
  simp only [List.getElem_toArray, List.getElem_cons_zero, List.getElem_cons_succ, Act.put, List.setIfInBounds_toArray, List.set_cons_zero, List.set_cons_succ]
  clear hSb
  refine till_take (i := 7) (v := .pointer (some ⟨gb, 1, none⟩)) rfl (by kernel_rfl) (by kernel_rfl) (by kernel_rfl) (fun _ _ _ h => h) (fun L w => Iff.rfl) (Or.inl ⟨by rfl, fun w => by go_simp⟩) hS (fun hSb => ?_)
  simp only [List.getElem_toArray, List.getElem_cons_zero, List.getElem_cons_succ, Act.put, List.setIfInBounds_toArray, List.set_cons_zero, List.set_cons_succ]
  clear hS
  refine till_read (i := 8) (c := 9) (v := .int .i64 b1) (T := fun W => Cq W ga gb a0 a1 a2 b0 b1 b2) rfl rfl (by kernel_rfl) (by kernel_rfl) (by kernel_rfl) (by kernel_rfl) (by kernel_rfl) (fun _ _ _ h => h) (fun L w => Iff.rfl) (fun L w h1 h2 => h2) (Or.inl ⟨by rfl, fun w h => by have q := h.y1; go_simp⟩) hSb (fun hS => ?_)
  simp only [List.getElem_toArray, List.getElem_cons_zero, List.getElem_cons_succ, Act.put, List.setIfInBounds_toArray, List.set_cons_zero, List.set_cons_succ]
  clear hSb
  refine till_take (i := 10) (v := .pointer (some ⟨ga, 2, none⟩)) rfl (by kernel_rfl) (by kernel_rfl) (by kernel_rfl) (fun _ _ _ h => h) (fun L w => Iff.rfl) (Or.inl ⟨by rfl, fun w => by go_simp⟩) hS (fun hSb => ?_)
  simp only [List.getElem_toArray, List.getElem_cons_zero, List.getElem_cons_succ, Act.put, List.setIfInBounds_toArray, List.set_cons_zero, List.set_cons_succ]
  clear hS
  refine till_read (i := 11) (c := 14) (v := .int .i64 a2) (T := fun W => Cq W ga gb a0 a1 a2 b0 b1 b2) rfl rfl (by kernel_rfl) (by kernel_rfl) (by kernel_rfl) (by kernel_rfl) (by kernel_rfl) (fun _ _ _ h => h) (fun L w => Iff.rfl) (fun L w h1 h2 => h2) (Or.inl ⟨by rfl, fun w h => by have q := h.x2; go_simp⟩) hSb (fun hS => ?_)
  simp only [List.getElem_toArray, List.getElem_cons_zero, List.getElem_cons_succ, Act.put, List.setIfInBounds_toArray, List.set_cons_zero, List.set_cons_succ]
  clear hSb
  refine till_take (i := 12) (v := .pointer (some ⟨gb, 2, none⟩)) rfl (by kernel_rfl) (by kernel_rfl) (by kernel_rfl) (fun _ _ _ h => h) (fun L w => Iff.rfl) (Or.inl ⟨by rfl, fun w => by go_simp⟩) hS (fun hSb => ?_)
  simp only [List.getElem_toArray, List.getElem_cons_zero, List.getElem_cons_succ, Act.put, List.setIfInBounds_toArray, List.set_cons_zero, List.set_cons_succ]
  clear hS
  refine till_read (i := 13) (c := 14) (v := .int .i64 b2) (T := fun W => Cq W ga gb a0 a1 a2 b0 b1 b2) rfl rfl (by kernel_rfl) (by kernel_rfl) (by kernel_rfl) (by kernel_rfl) (by kernel_rfl) (fun _ _ _ h => h) (fun L w => Iff.rfl) (fun L w h1 h2 => h2) (Or.inl ⟨by rfl, fun w h => by have q := h.y2; go_simp⟩) hSb (fun hS => ?_)
  simp only [List.getElem_toArray, List.getElem_cons_zero, List.getElem_cons_succ, Act.put, List.setIfInBounds_toArray, List.set_cons_zero, List.set_cons_succ]
  clear hSb
  refine till_one (i := 4) (by kernel_rfl) rfl (fun K hK => ?_)
  simp only [List.getElem_toArray, List.getElem_cons_zero, List.getElem_cons_succ]
  rw [if_pos (by rfl)]
  go_simp
  go_wp2_with (go_at_call 47; refine (compare_n a0 b0 _).mono ?_; rintro e w0 ⟨rfl, h00⟩; rw [h00]; clear h00)
  refine hK.out _ _ (hS) (fun hSb => ?_)
  clear hK K
  try simp only [List.getElem_toArray, List.getElem_cons_zero, List.getElem_cons_succ, Act.put, List.setIfInBounds_toArray, List.set_cons_zero, List.set_cons_succ]
  clear hS
  refine till_one (i := 9) (by kernel_rfl) rfl (fun K hK => ?_)
  simp only [List.getElem_toArray, List.getElem_cons_zero, List.getElem_cons_succ]
  rw [if_pos (by rfl)]
  go_simp
  go_wp2_with (go_at_call 47; refine (compare_n a1 b1 _).mono ?_; rintro e w0 ⟨rfl, h00⟩; rw [h00]; clear h00)
  refine hK.out _ _ (hSb) (fun hS => ?_)
  clear hK K
  try simp only [List.getElem_toArray, List.getElem_cons_zero, List.getElem_cons_succ, Act.put, List.setIfInBounds_toArray, List.set_cons_zero, List.set_cons_succ]
  clear hSb
  refine till_one (i := 14) (by kernel_rfl) rfl (fun K hK => ?_)
  simp only [List.getElem_toArray, List.getElem_cons_zero, List.getElem_cons_succ]
  rw [if_pos (by rfl)]
  go_simp
  go_wp2_with (go_at_call 47; refine (compare_n a2 b2 _).mono ?_; rintro e w0 ⟨rfl, h00⟩; rw [h00]; clear h00)
  refine hK.out _ _ (hS) (fun hSb => ?_)
  clear hK K
  try simp only [List.getElem_toArray, List.getElem_cons_zero, List.getElem_cons_succ, Act.put, List.setIfInBounds_toArray, List.set_cons_zero, List.set_cons_succ]
  clear hS
  refine till_one (i := 15) (by kernel_rfl) rfl (fun K hK => ?_)
  simp only [List.getElem_toArray, List.getElem_cons_zero, List.getElem_cons_succ]
  rw [if_pos (by rfl)]
  go_simp
  refine hK.out _ _ (hSb.below (alloc1 W1 _)) (fun hT => ?_)
  clear hK K
  try simp only [List.getElem_toArray, List.getElem_cons_zero, List.getElem_cons_succ, Act.put, List.setIfInBounds_toArray, List.set_cons_zero, List.set_cons_succ]
  have q0 : Hid ((W1.alloc (.cells #[.int .i64 (cmpI a0 b0), .int .i64 (cmpI a1 b1), .int .i64 (cmpI a2 b2)] 3)).cell? ⟨W1.heap.size, 0, none⟩ = some (.int .i64 (cmpI a0 b0))) := by show _ = _; simp
  have q1 : Hid ((W1.alloc (.cells #[.int .i64 (cmpI a0 b0), .int .i64 (cmpI a1 b1), .int .i64 (cmpI a2 b2)] 3)).cell? ⟨W1.heap.size, 1, none⟩ = some (.int .i64 (cmpI a1 b1))) := by show _ = _; simp
  have q2 : Hid ((W1.alloc (.cells #[.int .i64 (cmpI a0 b0), .int .i64 (cmpI a1 b1), .int .i64 (cmpI a2 b2)] 3)).cell? ⟨W1.heap.size, 2, none⟩ = some (.int .i64 (cmpI a2 b2))) := by show _ = _; simp
  refine till_one (i := 16) (by kernel_rfl) rfl (fun K hK => ?_)
  simp only [List.getElem_toArray, List.getElem_cons_zero, List.getElem_cons_succ]
  rw [if_pos (by rfl)]
  go_simp
  go_wp2_with (go_at_call 46; refine (or_n _ _ _ q0 q1 q2).mono ?_; rintro e w0 ⟨rfl, h00⟩; rw [h00]; clear h00)
  refine hK.out _ _ hT (fun hU => ?_)
  clear hK K
  try simp only [List.getElem_toArray, List.getElem_cons_zero, List.getElem_cons_succ, Act.put, List.setIfInBounds_toArray, List.set_cons_zero, List.set_cons_succ]
  refine till_one (i := 17) (by kernel_rfl) rfl (fun K hK => ?_)
  simp only [List.getElem_toArray, List.getElem_cons_zero, List.getElem_cons_succ]
  rw [if_pos (by rfl)]
  go_simp
  refine hK.out _ _ hU (fun hV => ?_)
  clear hK K
  try simp only [List.getElem_toArray, List.getElem_cons_zero, List.getElem_cons_succ, Act.put, List.setIfInBounds_toArray, List.set_cons_zero, List.set_cons_succ]
  refine till_done (by kernel_rfl) ?_ _
  go_wp2
  go_ret
  exact ⟨rfl, B0.out.trans ((alloc1 W1 _).mono B0.out.size)⟩
/- the document's order -/
def lessI (a0 a1 a2 b0 b1 b2 : Int) : Bool := if a0 ≠ b0 then decide (a0 < b0) else if a1 ≠ b1 then decide (a1 < b1) else decide (a2 < b2)
set_option maxHeartbeats 1000000 in
theorem less_n (a0 a1 a2 b0 b1 b2 : Int) (w : World) : Calls Tryz.prog 12 #[idv a0 a1 a2, idv b0 b1 b2] w fun e w' => e = .returned (.bool (lessI a0 a1 a2 b0 b1 b2)) ∧ Hid (Below w.heap.size w w') := by
  go_enter Tryz.func12, Tryz.ntmps12
  by_cases h0 : a0 = b0
  · subst h0
    by_cases h1 : a1 = b1
    · subst h1
      go_wp2
      go_ret
      exact ⟨by simp [lessI], alloc2 w _ _⟩
    · have n1 : (a1 != b1) = true := by simp [h1]
      have e1 : lessI a0 a1 a2 a0 b1 b2 = decide (a1 < b1) := by simp [lessI, h1]
      clear h1
      go_wp2
      go_ret
      exact ⟨by rw [e1]; rfl, alloc2 w _ _⟩
  · have n1 : (a0 != b0) = true := by simp [h0]
    have e1 : lessI a0 a1 a2 b0 b1 b2 = decide (a0 < b0) := by simp [lessI, h0]
    clear h0
    go_wp2
    go_ret
    exact ⟨by rw [e1]; rfl, alloc2 w _ _⟩
/- the two orders are one -/
theorem orders (a0 a1 a2 b0 b1 b2 : Int) : orI (cmpI a0 b0) (cmpI a1 b1) (cmpI a2 b2) = (if lessI b0 b1 b2 a0 a1 a2 = true then 1 else if lessI a0 a1 a2 b0 b1 b2 = true then -1 else 0) := by
  unfold orI cmpI lessI
  by_cases e0 : a0 = b0
  · subst e0
    by_cases e1 : a1 = b1
    · subst e1
      simp
      split <;> split <;> (try split) <;> simp_all <;> omega
    · simp [e1, Ne.symm e1]
      split <;> split <;> (try split) <;> simp_all <;> omega
  · simp [e0, Ne.symm e0]
    split <;> split <;> (try split) <;> simp_all <;> omega
end Go.Proofs.YtkdgakcmhnadfaaGreatDoor

/- Kb -/
/- isGood of package shelf; the document's GoodId. -/
namespace Go.Proofs.YtkdgakcmhnadfaaGreatDoor
open Go.ChangeShapes Go.WideShapes Go.ChangeAt Go.RowKit
set_option maxRecDepth 20000
set_option linter.unusedVariables false
set_option linter.unusedSimpArgs false
def idOk (a b c : Int) : Bool := nodeOk a && timeOk b && timeOk c
set_option maxHeartbeats 1000000 in
theorem isgood_n (a b c : Int) (w : World) : Calls Tryz.prog 57 #[idv a b c] w fun e w' => e = .returned (.bool (idOk a b c)) ∧ Hid (Below w.heap.size w w') := by
  go_enter Tryz.func57, Tryz.ntmps57
  cases h1 : nodeOk a with
  | false =>
    have e1 : idOk a b c = false := by simp [idOk, h1]
    have H1 : Hid (nodeOk a = false) := h1
    clear h1
    go_wp2_with (go_at_call 27; refine (isnode_n a _).mono ?_; rintro e w0 ⟨rfl, h00⟩; rw [h00, H1.out]; clear h00)
    go_ret
    exact ⟨by first | rfl | (rw [e1]; rfl), alloc1 w _⟩
  | true =>
    have H1 : Hid (nodeOk a = true) := h1
    cases h2 : timeOk b with
    | false =>
      have e1 : idOk a b c = false := by simp [idOk, h1, h2]
      have H2 : Hid (timeOk b = false) := h2
      clear h1 h2
      go_wp2_with (first
        | (go_at_call 27; refine (isnode_n a _).mono ?_; rintro e w0 ⟨rfl, h00⟩; rw [h00, H1.out]; clear h00)
        | (go_at_call 97; refine (istime_n b _).mono ?_; rintro e w0 ⟨rfl, h00⟩; rw [h00, H2.out]; clear h00))
      go_ret
      exact ⟨by first | rfl | (rw [e1]; rfl), alloc1 w _⟩
    | true =>
      have H2 : Hid (timeOk b = true) := h2
      have e1 : idOk a b c = timeOk c := by simp [idOk, h1, h2]
      obtain ⟨q, Hq⟩ : ∃ q, Hid (timeOk c = q) := ⟨_, rfl⟩
      rw [Hq.out] at e1
      have tok : True := trivial
      clear h1 h2
      go_wp2_with (first
        | (go_at_call 27; refine (isnode_n a _).mono ?_; rintro e w0 ⟨rfl, h00⟩; rw [h00, H1.out]; clear h00)
        | (go_at_call 97; have _t := tok; refine (istime_n b _).mono ?_; rintro e w0 ⟨rfl, h00⟩; rw [h00, H2.out]; clear h00 tok)
        | (go_at_call 97; refine (istime_n c _).mono ?_; rintro e w0 ⟨rfl, h00⟩; rw [h00, Hq.out]; clear h00))
      go_ret
      exact ⟨by first | rfl | (rw [e1]; rfl), alloc1 w _⟩
end Go.Proofs.YtkdgakcmhnadfaaGreatDoor
