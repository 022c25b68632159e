import Derived.Test.YtkdgakcmhnadfaaGreatDoorMNd
import Derived.Test.YtkdgakcmhnadfaaGreatDoorMNf
import Derived.Test.YtkdgakcmhnadfaaGreatDoorMKh
/- Ng -/
/- ShelfCuts' walk. -/
namespace Go.Proofs.YtkdgakcmhnadfaaGreatDoor
open Go.ChangeShapes Go.WideShapes Go.ChangeAt Go.RowKit
set_option maxRecDepth 20000
set_option linter.unusedVariables false
set_option linter.unusedSimpArgs false
/- the argument's variable -/
structure Ov (W : World) (gx : Nat) (a b c : Int) (x1 x2 : Value) (fu : Bool) : Prop where
  o0 : W.cell? ⟨gx, 0, none⟩ = some (.int .i64 a)
  o1 : W.cell? ⟨gx, 1, none⟩ = some (.int .i64 b)
  o2 : W.cell? ⟨gx, 2, none⟩ = some (.int .i64 c)
  o3 : W.cell? ⟨gx, 3, none⟩ = some x1
  o4 : W.cell? ⟨gx, 4, none⟩ = some x2
  o5 : W.cell? ⟨gx, 5, none⟩ = some (.bool fu)
theorem Ov.below {W W' : World} {gx : Nat} {a b c : Int} {x1 x2 : Value} {fu : Bool} (h : Ov W gx a b c x1 x2 fu) (hb : Below W.heap.size W W') : Ov W' gx a b c x1 x2 fu :=
  ⟨(hb.cell (p := ⟨gx, 0, none⟩) (cell_lt h.o0)).trans h.o0, (hb.cell (p := ⟨gx, 1, none⟩) (cell_lt h.o1)).trans h.o1, (hb.cell (p := ⟨gx, 2, none⟩) (cell_lt h.o2)).trans h.o2, (hb.cell (p := ⟨gx, 3, none⟩) (cell_lt h.o3)).trans h.o3, (hb.cell (p := ⟨gx, 4, none⟩) (cell_lt h.o4)).trans h.o4, (hb.cell (p := ⟨gx, 5, none⟩) (cell_lt h.o5)).trans h.o5⟩
set_option maxHeartbeats 4000000 in
theorem cuts_bad {w : World} {M : Nat} {E : Nat → Addr} (hE : Hid (Env w M E)) (a b c : Int) (p1 p2 : Option Addr) (n1 k1 n2 k2 : Nat) (fu : Bool) (hg : Hid (gid a b c = false)) :
    Calls Tryz.prog 5 #[.agg #[.int .i64 (a : Int), .int .i64 (b : Int), .int .i64 (c : Int), .slice p1 n1 k1, .slice p2 n2 k2, .bool fu]] w fun e w' => e = .returned (.bool true) ∧ Hid (Below w.heap.size w w') := by
  obtain ⟨x1, Hx1⟩ : ∃ x1, Hid (Value.slice p1 n1 k1 = x1) := ⟨_, rfl⟩
  obtain ⟨x2, Hx2⟩ : ∃ x2, Hid (Value.slice p2 n2 k2 = x2) := ⟨_, rfl⟩
  obtain ⟨gx, HG⟩ : ∃ gx, Hid (w.heap.size = gx) := ⟨_, rfl⟩
  obtain ⟨W0, HW0⟩ : ∃ W0, Hid ((w.alloc (.cells #[.int .i64 (a : Int), .int .i64 (b : Int), .int .i64 (c : Int), .slice p1 n1 k1, .slice p2 n2 k2, .bool fu] 41)).drew = W0) := ⟨_, rfl⟩
  have b0 : Hid (Below w.heap.size w W0) := by rw [← HW0.out]; exact (alloc1 w _).drew
  have K0 : Ov (w.alloc (.cells #[.int .i64 (a : Int), .int .i64 (b : Int), .int .i64 (c : Int), .slice p1 n1 k1, .slice p2 n2 k2, .bool fu] 41)).drew gx a b c x1 x2 fu := by
    rw [← HG.out, ← Hx1.out, ← Hx2.out]
    refine ⟨?_, ?_, ?_, ?_, ?_, ?_⟩ <;> simp
  have O0 : Hid (Ov W0 gx a b c x1 x2 fu) := by rw [← HW0.out]; exact K0
  obtain ⟨gi, Hgi⟩ : ∃ gi, Hid (W0.heap.size = gi) := ⟨_, rfl⟩
  obtain ⟨V, HV⟩ : ∃ V, Hid (W0.alloc (.cells #[.int .i64 (a : Int), .int .i64 (b : Int), .int .i64 (c : Int)] 32) = V) := ⟨_, rfl⟩
  have bV : Hid (Below w.heap.size w V) := by rw [← HV.out]; exact b0.out.trans ((alloc1 W0 _).mono b0.out.size)
  have EV : Hid (Env V M E) := hE.out.below bV.out
  have v0 : Hid (V.cell? ⟨gi, 0, none⟩ = some (.int .i64 (a : Int))) := by rw [← HV.out, ← Hgi.out]; show _ = _; simp
  have v1 : Hid (V.cell? ⟨gi, 1, none⟩ = some (.int .i64 (b : Int))) := by rw [← HV.out, ← Hgi.out]; show _ = _; simp
  have v2 : Hid (V.cell? ⟨gi, 2, none⟩ = some (.int .i64 (c : Int))) := by rw [← HV.out, ← Hgi.out]; show _ = _; simp
  have nd : Hid (nodeOk 2 = true) := by show _ = _; decide
  go_enter Tryz.func5, Tryz.ntmps5
  go_upto_region 1 with (fail)
  refine wp_region_till (S := fun L W => Ov W gx a b c x1 x2 fu) (by kernel_rfl) K0 (fun hS => ?_)
  rw [HW0.out, HG.out, Hx1.out, Hx2.out]
  rw [HW0.out] at hS
  clear K0
  refine till_take (i := 0) (v := .pointer (some ⟨gx, 0, none⟩)) rfl (by kernel_rfl) (by kernel_rfl) (by kernel_rfl) (fun _ _ _ h => h) (fun L w => Iff.rfl) (Or.inl ⟨by rfl, fun w => by go_simp⟩) hS (fun hSb => ?_)
  simp only [List.getElem_toArray, List.getElem_cons_zero, List.getElem_cons_succ, Act.put, List.setIfInBounds_toArray, List.set_cons_zero, List.set_cons_succ]
  clear hS
  refine till_read (i := 1) (c := 9) (v := .agg #[.int .i64 (a : Int), .int .i64 (b : Int), .int .i64 (c : Int)]) (T := fun W => Ov W gx a b c x1 x2 fu) rfl rfl (by kernel_rfl) (by kernel_rfl) (by kernel_rfl) (by kernel_rfl) (by kernel_rfl) (fun _ _ _ h => h) (fun L w => Iff.rfl) (fun L w h1 h2 => h2) (Or.inl ⟨by rfl, fun w h => by have qo0 := h.o0; have qo1 := h.o1; have qo2 := h.o2; go_simp⟩) hSb (fun hS => ?_)
  simp only [List.getElem_toArray, List.getElem_cons_zero, List.getElem_cons_succ, Act.put, List.setIfInBounds_toArray, List.set_cons_zero, List.set_cons_succ]
  clear hSb
  refine till_take (i := 2) (v := .pointer (some ⟨gx, 3, none⟩)) rfl (by kernel_rfl) (by kernel_rfl) (by kernel_rfl) (fun _ _ _ h => h) (fun L w => Iff.rfl) (Or.inl ⟨by rfl, fun w => by go_simp⟩) hS (fun hSb => ?_)
  simp only [List.getElem_toArray, List.getElem_cons_zero, List.getElem_cons_succ, Act.put, List.setIfInBounds_toArray, List.set_cons_zero, List.set_cons_succ]
  clear hS
  refine till_read (i := 3) (c := 10) (v := x1) (T := fun W => Ov W gx a b c x1 x2 fu) rfl rfl (by kernel_rfl) (by kernel_rfl) (by kernel_rfl) (by kernel_rfl) (by kernel_rfl) (fun _ _ _ h => h) (fun L w => Iff.rfl) (fun L w h1 h2 => h2) (Or.inl ⟨by rfl, fun w h => by have qo3 := h.o3; go_simp⟩) hSb (fun hS => ?_)
  simp only [List.getElem_toArray, List.getElem_cons_zero, List.getElem_cons_succ, Act.put, List.setIfInBounds_toArray, List.set_cons_zero, List.set_cons_succ]
  clear hSb
  refine till_take (i := 4) (v := .pointer (some ⟨gx, 4, none⟩)) rfl (by kernel_rfl) (by kernel_rfl) (by kernel_rfl) (fun _ _ _ h => h) (fun L w => Iff.rfl) (Or.inl ⟨by rfl, fun w => by go_simp⟩) hS (fun hSb => ?_)
  simp only [List.getElem_toArray, List.getElem_cons_zero, List.getElem_cons_succ, Act.put, List.setIfInBounds_toArray, List.set_cons_zero, List.set_cons_succ]
  clear hS
  refine till_read (i := 5) (c := 11) (v := x2) (T := fun W => Ov W gx a b c x1 x2 fu) rfl rfl (by kernel_rfl) (by kernel_rfl) (by kernel_rfl) (by kernel_rfl) (by kernel_rfl) (fun _ _ _ h => h) (fun L w => Iff.rfl) (fun L w h1 h2 => h2) (Or.inl ⟨by rfl, fun w h => by have qo4 := h.o4; go_simp⟩) hSb (fun hS => ?_)
  simp only [List.getElem_toArray, List.getElem_cons_zero, List.getElem_cons_succ, Act.put, List.setIfInBounds_toArray, List.set_cons_zero, List.set_cons_succ]
  clear hSb
  refine till_take (i := 6) (v := .pointer (some ⟨gx, 5, none⟩)) rfl (by kernel_rfl) (by kernel_rfl) (by kernel_rfl) (fun _ _ _ h => h) (fun L w => Iff.rfl) (Or.inl ⟨by rfl, fun w => by go_simp⟩) hS (fun hSb => ?_)
  simp only [List.getElem_toArray, List.getElem_cons_zero, List.getElem_cons_succ, Act.put, List.setIfInBounds_toArray, List.set_cons_zero, List.set_cons_succ]
  clear hS
  refine till_read (i := 7) (c := 12) (v := .bool fu) (T := fun W => Ov W gx a b c x1 x2 fu) rfl rfl (by kernel_rfl) (by kernel_rfl) (by kernel_rfl) (by kernel_rfl) (by kernel_rfl) (fun _ _ _ h => h) (fun L w => Iff.rfl) (fun L w h1 h2 => h2) (Or.inl ⟨by rfl, fun w h => by have qo5 := h.o5; go_simp⟩) hSb (fun hS => ?_)
  simp only [List.getElem_toArray, List.getElem_cons_zero, List.getElem_cons_succ, Act.put, List.setIfInBounds_toArray, List.set_cons_zero, List.set_cons_succ]
  clear hSb
  refine till_one (i := 8) (by kernel_rfl) rfl (fun K hK => ?_)
  simp only [List.getElem_toArray, List.getElem_cons_zero, List.getElem_cons_succ]
  rw [if_pos (by rfl)]
  go_simp
  refine hK.out _ _ (hS.below (alloc1 _ _)) (fun hSb => ?_)
  clear hK K
  try simp only [List.getElem_toArray, List.getElem_cons_zero, List.getElem_cons_succ, Act.put, List.setIfInBounds_toArray, List.set_cons_zero, List.set_cons_succ]
  clear hS
  refine till_one (i := 9) (by kernel_rfl) rfl (fun K hK => ?_)
  simp only [List.getElem_toArray, List.getElem_cons_zero, List.getElem_cons_succ]
  rw [if_pos (by rfl)]
  go_simp
  refine hK.out _ _ (O0.out.below (alloc1 _ _)) (fun hS => ?_)
  clear hK K
  try simp only [List.getElem_toArray, List.getElem_cons_zero, List.getElem_cons_succ, Act.put, List.setIfInBounds_toArray, List.set_cons_zero, List.set_cons_succ]
  clear hSb
  refine till_one (i := 10) (by kernel_rfl) rfl (fun K hK => ?_)
  simp only [List.getElem_toArray, List.getElem_cons_zero, List.getElem_cons_succ]
  rw [if_pos (by rfl)]
  go_simp
  refine hK.out _ _ (hS) (fun hSb => ?_)
  clear hK K
  try simp only [List.getElem_toArray, List.getElem_cons_zero, List.getElem_cons_succ, Act.put, List.setIfInBounds_toArray, List.set_cons_zero, List.set_cons_succ]
  clear hS
  refine till_one (i := 11) (by kernel_rfl) rfl (fun K hK => ?_)
  simp only [List.getElem_toArray, List.getElem_cons_zero, List.getElem_cons_succ]
  rw [if_pos (by rfl)]
  go_simp
  refine hK.out _ _ (hSb) (fun hS => ?_)
  clear hK K
  try simp only [List.getElem_toArray, List.getElem_cons_zero, List.getElem_cons_succ, Act.put, List.setIfInBounds_toArray, List.set_cons_zero, List.set_cons_succ]
  clear hSb
  refine till_one (i := 12) (by kernel_rfl) rfl (fun K hK => ?_)
  simp only [List.getElem_toArray, List.getElem_cons_zero, List.getElem_cons_succ]
  rw [if_pos (by rfl)]
  go_simp
  refine hK.out _ _ (hS) (fun hSb => ?_)
  clear hK K
  try simp only [List.getElem_toArray, List.getElem_cons_zero, List.getElem_cons_succ, Act.put, List.setIfInBounds_toArray, List.set_cons_zero, List.set_cons_succ]
  clear hS
  refine till_done (by kernel_rfl) ?_ _
  clear hSb
  rw [HV.out, Hgi.out, ← Hx1.out, ← Hx2.out]
  go_upto_region 5 with (first
    | (go_at_call 8; refine (alive_n EV).mono ?_; rintro e w1 ⟨rfl, H1⟩
       have V1 : Hid (Env w1 M E) := EV.out.below H1.out)
    | (go_at_call 9; refine (shnew_n 2 _ nd).mono ?_; rintro e w2 ⟨g, d, m, rfl, H2⟩
       have F2 : Hid (Sf w1 w2 M E g d m ((2 : Nat) : Int) false (fun _ => none) 0) := ⟨V1.out, H2.out.2.2.2.2.2.1, H2.out.1, H2.out.2.1.dw, H2.out.2.2.2.2.2.2, H2.out.2.2.1, H2.out.2.2.2.1, H2.out.2.2.2.2.1⟩
       have b2 : Hid (Below V.heap.size V w2) := H1.out.trans (H2.out.2.2.2.2.2.1.mono H1.out.size)
       have i0 : w2.cell? ⟨gi, 0, none⟩ = some (.int .i64 (a : Int)) := (b2.out.cell (p := ⟨gi, 0, none⟩) (cell_lt v0.out)).trans v0.out
       have i1 : w2.cell? ⟨gi, 1, none⟩ = some (.int .i64 (b : Int)) := (b2.out.cell (p := ⟨gi, 1, none⟩) (cell_lt v1.out)).trans v1.out
       have i2 : w2.cell? ⟨gi, 2, none⟩ = some (.int .i64 (c : Int)) := (b2.out.cell (p := ⟨gi, 2, none⟩) (cell_lt v2.out)).trans v2.out
       have B2 : Hid (Below w.heap.size w w2) := bV.out.trans (b2.out.mono bV.out.size)))
  go_wp2_with (go_at_call 14; refine (goodId_n a b c _).mono ?_; rintro e w3 ⟨rfl, H3⟩; rw [hg.out])
  go_ret
  exact ⟨rfl, B2.out.trans (H3.out.mono B2.out.size)⟩
set_option maxHeartbeats 4000000 in
theorem cuts_old {w : World} {M : Nat} {E : Nat → Addr} (hE : Hid (Env w M E)) (a b c : Int) (p1 p2 : Option Addr) (n1 k1 n2 k2 : Nat) (fu : Bool) (hg : Hid (gid a b c = true)) (h1 : 1024 < n1) :
    Calls Tryz.prog 5 #[.agg #[.int .i64 (a : Int), .int .i64 (b : Int), .int .i64 (c : Int), .slice p1 n1 k1, .slice p2 n2 k2, .bool fu]] w fun e w' => e = .returned (.bool true) ∧ Hid (Below w.heap.size w w') := by
  have i1024 : (1024 : Int) < (n1 : Int) := by omega
  obtain ⟨x1, Hx1⟩ : ∃ x1, Hid (Value.slice p1 n1 k1 = x1) := ⟨_, rfl⟩
  obtain ⟨x2, Hx2⟩ : ∃ x2, Hid (Value.slice p2 n2 k2 = x2) := ⟨_, rfl⟩
  obtain ⟨gx, HG⟩ : ∃ gx, Hid (w.heap.size = gx) := ⟨_, rfl⟩
  obtain ⟨W0, HW0⟩ : ∃ W0, Hid ((w.alloc (.cells #[.int .i64 (a : Int), .int .i64 (b : Int), .int .i64 (c : Int), .slice p1 n1 k1, .slice p2 n2 k2, .bool fu] 41)).drew = W0) := ⟨_, rfl⟩
  have b0 : Hid (Below w.heap.size w W0) := by rw [← HW0.out]; exact (alloc1 w _).drew
  have K0 : Ov (w.alloc (.cells #[.int .i64 (a : Int), .int .i64 (b : Int), .int .i64 (c : Int), .slice p1 n1 k1, .slice p2 n2 k2, .bool fu] 41)).drew gx a b c x1 x2 fu := by
    rw [← HG.out, ← Hx1.out, ← Hx2.out]
    refine ⟨?_, ?_, ?_, ?_, ?_, ?_⟩ <;> simp
  have O0 : Hid (Ov W0 gx a b c x1 x2 fu) := by rw [← HW0.out]; exact K0
  obtain ⟨gi, Hgi⟩ : ∃ gi, Hid (W0.heap.size = gi) := ⟨_, rfl⟩
  obtain ⟨V, HV⟩ : ∃ V, Hid (W0.alloc (.cells #[.int .i64 (a : Int), .int .i64 (b : Int), .int .i64 (c : Int)] 32) = V) := ⟨_, rfl⟩
  have bV : Hid (Below w.heap.size w V) := by rw [← HV.out]; exact b0.out.trans ((alloc1 W0 _).mono b0.out.size)
  have EV : Hid (Env V M E) := hE.out.below bV.out
  have v0 : Hid (V.cell? ⟨gi, 0, none⟩ = some (.int .i64 (a : Int))) := by rw [← HV.out, ← Hgi.out]; show _ = _; simp
  have v1 : Hid (V.cell? ⟨gi, 1, none⟩ = some (.int .i64 (b : Int))) := by rw [← HV.out, ← Hgi.out]; show _ = _; simp
  have v2 : Hid (V.cell? ⟨gi, 2, none⟩ = some (.int .i64 (c : Int))) := by rw [← HV.out, ← Hgi.out]; show _ = _; simp
  have nd : Hid (nodeOk 2 = true) := by show _ = _; decide
  go_enter Tryz.func5, Tryz.ntmps5
  go_upto_region 1 with (fail)
  refine wp_region_till (S := fun L W => Ov W gx a b c x1 x2 fu) (by kernel_rfl) K0 (fun hS => ?_)
  rw [HW0.out, HG.out, Hx1.out, Hx2.out]
  rw [HW0.out] at hS
  clear K0
  refine till_take (i := 0) (v := .pointer (some ⟨gx, 0, none⟩)) rfl (by kernel_rfl) (by kernel_rfl) (by kernel_rfl) (fun _ _ _ h => h) (fun L w => Iff.rfl) (Or.inl ⟨by rfl, fun w => by go_simp⟩) hS (fun hSb => ?_)
  simp only [List.getElem_toArray, List.getElem_cons_zero, List.getElem_cons_succ, Act.put, List.setIfInBounds_toArray, List.set_cons_zero, List.set_cons_succ]
  clear hS
  refine till_read (i := 1) (c := 9) (v := .agg #[.int .i64 (a : Int), .int .i64 (b : Int), .int .i64 (c : Int)]) (T := fun W => Ov W gx a b c x1 x2 fu) rfl rfl (by kernel_rfl) (by kernel_rfl) (by kernel_rfl) (by kernel_rfl) (by kernel_rfl) (fun _ _ _ h => h) (fun L w => Iff.rfl) (fun L w h1 h2 => h2) (Or.inl ⟨by rfl, fun w h => by have qo0 := h.o0; have qo1 := h.o1; have qo2 := h.o2; go_simp⟩) hSb (fun hS => ?_)
  simp only [List.getElem_toArray, List.getElem_cons_zero, List.getElem_cons_succ, Act.put, List.setIfInBounds_toArray, List.set_cons_zero, List.set_cons_succ]
  clear hSb
  refine till_take (i := 2) (v := .pointer (some ⟨gx, 3, none⟩)) rfl (by kernel_rfl) (by kernel_rfl) (by kernel_rfl) (fun _ _ _ h => h) (fun L w => Iff.rfl) (Or.inl ⟨by rfl, fun w => by go_simp⟩) hS (fun hSb => ?_)
  simp only [List.getElem_toArray, List.getElem_cons_zero, List.getElem_cons_succ, Act.put, List.setIfInBounds_toArray, List.set_cons_zero, List.set_cons_succ]
  clear hS
  refine till_read (i := 3) (c := 10) (v := x1) (T := fun W => Ov W gx a b c x1 x2 fu) rfl rfl (by kernel_rfl) (by kernel_rfl) (by kernel_rfl) (by kernel_rfl) (by kernel_rfl) (fun _ _ _ h => h) (fun L w => Iff.rfl) (fun L w h1 h2 => h2) (Or.inl ⟨by rfl, fun w h => by have qo3 := h.o3; go_simp⟩) hSb (fun hS => ?_)
  simp only [List.getElem_toArray, List.getElem_cons_zero, List.getElem_cons_succ, Act.put, List.setIfInBounds_toArray, List.set_cons_zero, List.set_cons_succ]
  clear hSb
  refine till_take (i := 4) (v := .pointer (some ⟨gx, 4, none⟩)) rfl (by kernel_rfl) (by kernel_rfl) (by kernel_rfl) (fun _ _ _ h => h) (fun L w => Iff.rfl) (Or.inl ⟨by rfl, fun w => by go_simp⟩) hS (fun hSb => ?_)
  simp only [List.getElem_toArray, List.getElem_cons_zero, List.getElem_cons_succ, Act.put, List.setIfInBounds_toArray, List.set_cons_zero, List.set_cons_succ]
  clear hS
  refine till_read (i := 5) (c := 11) (v := x2) (T := fun W => Ov W gx a b c x1 x2 fu) rfl rfl (by kernel_rfl) (by kernel_rfl) (by kernel_rfl) (by kernel_rfl) (by kernel_rfl) (fun _ _ _ h => h) (fun L w => Iff.rfl) (fun L w h1 h2 => h2) (Or.inl ⟨by rfl, fun w h => by have qo4 := h.o4; go_simp⟩) hSb (fun hS => ?_)
  simp only [List.getElem_toArray, List.getElem_cons_zero, List.getElem_cons_succ, Act.put, List.setIfInBounds_toArray, List.set_cons_zero, List.set_cons_succ]
  clear hSb
  refine till_take (i := 6) (v := .pointer (some ⟨gx, 5, none⟩)) rfl (by kernel_rfl) (by kernel_rfl) (by kernel_rfl) (fun _ _ _ h => h) (fun L w => Iff.rfl) (Or.inl ⟨by rfl, fun w => by go_simp⟩) hS (fun hSb => ?_)
  simp only [List.getElem_toArray, List.getElem_cons_zero, List.getElem_cons_succ, Act.put, List.setIfInBounds_toArray, List.set_cons_zero, List.set_cons_succ]
  clear hS
  refine till_read (i := 7) (c := 12) (v := .bool fu) (T := fun W => Ov W gx a b c x1 x2 fu) rfl rfl (by kernel_rfl) (by kernel_rfl) (by kernel_rfl) (by kernel_rfl) (by kernel_rfl) (fun _ _ _ h => h) (fun L w => Iff.rfl) (fun L w h1 h2 => h2) (Or.inl ⟨by rfl, fun w h => by have qo5 := h.o5; go_simp⟩) hSb (fun hS => ?_)
  simp only [List.getElem_toArray, List.getElem_cons_zero, List.getElem_cons_succ, Act.put, List.setIfInBounds_toArray, List.set_cons_zero, List.set_cons_succ]
  clear hSb
  refine till_one (i := 8) (by kernel_rfl) rfl (fun K hK => ?_)
  simp only [List.getElem_toArray, List.getElem_cons_zero, List.getElem_cons_succ]
  rw [if_pos (by rfl)]
  go_simp
  refine hK.out _ _ (hS.below (alloc1 _ _)) (fun hSb => ?_)
  clear hK K
  try simp only [List.getElem_toArray, List.getElem_cons_zero, List.getElem_cons_succ, Act.put, List.setIfInBounds_toArray, List.set_cons_zero, List.set_cons_succ]
  clear hS
  refine till_one (i := 9) (by kernel_rfl) rfl (fun K hK => ?_)
  simp only [List.getElem_toArray, List.getElem_cons_zero, List.getElem_cons_succ]
  rw [if_pos (by rfl)]
  go_simp
  refine hK.out _ _ (O0.out.below (alloc1 _ _)) (fun hS => ?_)
  clear hK K
  try simp only [List.getElem_toArray, List.getElem_cons_zero, List.getElem_cons_succ, Act.put, List.setIfInBounds_toArray, List.set_cons_zero, List.set_cons_succ]
  clear hSb
  refine till_one (i := 10) (by kernel_rfl) rfl (fun K hK => ?_)
  simp only [List.getElem_toArray, List.getElem_cons_zero, List.getElem_cons_succ]
  rw [if_pos (by rfl)]
  go_simp
  refine hK.out _ _ (hS) (fun hSb => ?_)
  clear hK K
  try simp only [List.getElem_toArray, List.getElem_cons_zero, List.getElem_cons_succ, Act.put, List.setIfInBounds_toArray, List.set_cons_zero, List.set_cons_succ]
  clear hS
  refine till_one (i := 11) (by kernel_rfl) rfl (fun K hK => ?_)
  simp only [List.getElem_toArray, List.getElem_cons_zero, List.getElem_cons_succ]
  rw [if_pos (by rfl)]
  go_simp
  refine hK.out _ _ (hSb) (fun hS => ?_)
  clear hK K
  try simp only [List.getElem_toArray, List.getElem_cons_zero, List.getElem_cons_succ, Act.put, List.setIfInBounds_toArray, List.set_cons_zero, List.set_cons_succ]
  clear hSb
  refine till_one (i := 12) (by kernel_rfl) rfl (fun K hK => ?_)
  simp only [List.getElem_toArray, List.getElem_cons_zero, List.getElem_cons_succ]
  rw [if_pos (by rfl)]
  go_simp
  refine hK.out _ _ (hS) (fun hSb => ?_)
  clear hK K
  try simp only [List.getElem_toArray, List.getElem_cons_zero, List.getElem_cons_succ, Act.put, List.setIfInBounds_toArray, List.set_cons_zero, List.set_cons_succ]
  clear hS
  refine till_done (by kernel_rfl) ?_ _
  clear hSb
  rw [HV.out, Hgi.out, ← Hx1.out, ← Hx2.out]
  go_upto_region 5 with (first
    | (go_at_call 8; refine (alive_n EV).mono ?_; rintro e w1 ⟨rfl, H1⟩
       have V1 : Hid (Env w1 M E) := EV.out.below H1.out)
    | (go_at_call 9; refine (shnew_n 2 _ nd).mono ?_; rintro e w2 ⟨g, d, m, rfl, H2⟩
       have F2 : Hid (Sf w1 w2 M E g d m ((2 : Nat) : Int) false (fun _ => none) 0) := ⟨V1.out, H2.out.2.2.2.2.2.1, H2.out.1, H2.out.2.1.dw, H2.out.2.2.2.2.2.2, H2.out.2.2.1, H2.out.2.2.2.1, H2.out.2.2.2.2.1⟩
       have b2 : Hid (Below V.heap.size V w2) := H1.out.trans (H2.out.2.2.2.2.2.1.mono H1.out.size)
       have i0 : w2.cell? ⟨gi, 0, none⟩ = some (.int .i64 (a : Int)) := (b2.out.cell (p := ⟨gi, 0, none⟩) (cell_lt v0.out)).trans v0.out
       have i1 : w2.cell? ⟨gi, 1, none⟩ = some (.int .i64 (b : Int)) := (b2.out.cell (p := ⟨gi, 1, none⟩) (cell_lt v1.out)).trans v1.out
       have i2 : w2.cell? ⟨gi, 2, none⟩ = some (.int .i64 (c : Int)) := (b2.out.cell (p := ⟨gi, 2, none⟩) (cell_lt v2.out)).trans v2.out
       have B2 : Hid (Below w.heap.size w w2) := bV.out.trans (b2.out.mono bV.out.size)))
  go_wp2_with (go_at_call 14; refine (goodId_n a b c _).mono ?_; rintro e w3 ⟨rfl, H3⟩; rw [hg.out])
  go_ret
  exact ⟨rfl, B2.out.trans (H3.out.mono B2.out.size)⟩
set_option maxHeartbeats 4000000 in
theorem cuts_new {w : World} {M : Nat} {E : Nat → Addr} (hE : Hid (Env w M E)) (a b c : Int) (p1 p2 : Option Addr) (n1 k1 n2 k2 : Nat) (fu : Bool) (hg : Hid (gid a b c = true)) (h1 : n1 ≤ 1024) (h2 : 1024 < n2) :
    Calls Tryz.prog 5 #[.agg #[.int .i64 (a : Int), .int .i64 (b : Int), .int .i64 (c : Int), .slice p1 n1 k1, .slice p2 n2 k2, .bool fu]] w fun e w' => e = .returned (.bool true) ∧ Hid (Below w.heap.size w w') := by
  have i1024 : ¬ ((1024 : Int) < (n1 : Int)) := by omega
  have i1025 : (1024 : Int) < (n2 : Int) := by omega
  obtain ⟨x1, Hx1⟩ : ∃ x1, Hid (Value.slice p1 n1 k1 = x1) := ⟨_, rfl⟩
  obtain ⟨x2, Hx2⟩ : ∃ x2, Hid (Value.slice p2 n2 k2 = x2) := ⟨_, rfl⟩
  obtain ⟨gx, HG⟩ : ∃ gx, Hid (w.heap.size = gx) := ⟨_, rfl⟩
  obtain ⟨W0, HW0⟩ : ∃ W0, Hid ((w.alloc (.cells #[.int .i64 (a : Int), .int .i64 (b : Int), .int .i64 (c : Int), .slice p1 n1 k1, .slice p2 n2 k2, .bool fu] 41)).drew = W0) := ⟨_, rfl⟩
  have b0 : Hid (Below w.heap.size w W0) := by rw [← HW0.out]; exact (alloc1 w _).drew
  have K0 : Ov (w.alloc (.cells #[.int .i64 (a : Int), .int .i64 (b : Int), .int .i64 (c : Int), .slice p1 n1 k1, .slice p2 n2 k2, .bool fu] 41)).drew gx a b c x1 x2 fu := by
    rw [← HG.out, ← Hx1.out, ← Hx2.out]
    refine ⟨?_, ?_, ?_, ?_, ?_, ?_⟩ <;> simp
  have O0 : Hid (Ov W0 gx a b c x1 x2 fu) := by rw [← HW0.out]; exact K0
  obtain ⟨gi, Hgi⟩ : ∃ gi, Hid (W0.heap.size = gi) := ⟨_, rfl⟩
  obtain ⟨V, HV⟩ : ∃ V, Hid (W0.alloc (.cells #[.int .i64 (a : Int), .int .i64 (b : Int), .int .i64 (c : Int)] 32) = V) := ⟨_, rfl⟩
  have bV : Hid (Below w.heap.size w V) := by rw [← HV.out]; exact b0.out.trans ((alloc1 W0 _).mono b0.out.size)
  have EV : Hid (Env V M E) := hE.out.below bV.out
  have v0 : Hid (V.cell? ⟨gi, 0, none⟩ = some (.int .i64 (a : Int))) := by rw [← HV.out, ← Hgi.out]; show _ = _; simp
  have v1 : Hid (V.cell? ⟨gi, 1, none⟩ = some (.int .i64 (b : Int))) := by rw [← HV.out, ← Hgi.out]; show _ = _; simp
  have v2 : Hid (V.cell? ⟨gi, 2, none⟩ = some (.int .i64 (c : Int))) := by rw [← HV.out, ← Hgi.out]; show _ = _; simp
  have nd : Hid (nodeOk 2 = true) := by show _ = _; decide
  go_enter Tryz.func5, Tryz.ntmps5
  go_upto_region 1 with (fail)
  refine wp_region_till (S := fun L W => Ov W gx a b c x1 x2 fu) (by kernel_rfl) K0 (fun hS => ?_)
  rw [HW0.out, HG.out, Hx1.out, Hx2.out]
  rw [HW0.out] at hS
  clear K0
  refine till_take (i := 0) (v := .pointer (some ⟨gx, 0, none⟩)) rfl (by kernel_rfl) (by kernel_rfl) (by kernel_rfl) (fun _ _ _ h => h) (fun L w => Iff.rfl) (Or.inl ⟨by rfl, fun w => by go_simp⟩) hS (fun hSb => ?_)
  simp only [List.getElem_toArray, List.getElem_cons_zero, List.getElem_cons_succ, Act.put, List.setIfInBounds_toArray, List.set_cons_zero, List.set_cons_succ]
  clear hS
  refine till_read (i := 1) (c := 9) (v := .agg #[.int .i64 (a : Int), .int .i64 (b : Int), .int .i64 (c : Int)]) (T := fun W => Ov W gx a b c x1 x2 fu) rfl rfl (by kernel_rfl) (by kernel_rfl) (by kernel_rfl) (by kernel_rfl) (by kernel_rfl) (fun _ _ _ h => h) (fun L w => Iff.rfl) (fun L w h1 h2 => h2) (Or.inl ⟨by rfl, fun w h => by have qo0 := h.o0; have qo1 := h.o1; have qo2 := h.o2; go_simp⟩) hSb (fun hS => ?_)
  simp only [List.getElem_toArray, List.getElem_cons_zero, List.getElem_cons_succ, Act.put, List.setIfInBounds_toArray, List.set_cons_zero, List.set_cons_succ]
  clear hSb
  refine till_take (i := 2) (v := .pointer (some ⟨gx, 3, none⟩)) rfl (by kernel_rfl) (by kernel_rfl) (by kernel_rfl) (fun _ _ _ h => h) (fun L w => Iff.rfl) (Or.inl ⟨by rfl, fun w => by go_simp⟩) hS (fun hSb => ?_)
  simp only [List.getElem_toArray, List.getElem_cons_zero, List.getElem_cons_succ, Act.put, List.setIfInBounds_toArray, List.set_cons_zero, List.set_cons_succ]
  clear hS
  refine till_read (i := 3) (c := 10) (v := x1) (T := fun W => Ov W gx a b c x1 x2 fu) rfl rfl (by kernel_rfl) (by kernel_rfl) (by kernel_rfl) (by kernel_rfl) (by kernel_rfl) (fun _ _ _ h => h) (fun L w => Iff.rfl) (fun L w h1 h2 => h2) (Or.inl ⟨by rfl, fun w h => by have qo3 := h.o3; go_simp⟩) hSb (fun hS => ?_)
  simp only [List.getElem_toArray, List.getElem_cons_zero, List.getElem_cons_succ, Act.put, List.setIfInBounds_toArray, List.set_cons_zero, List.set_cons_succ]
  clear hSb
  refine till_take (i := 4) (v := .pointer (some ⟨gx, 4, none⟩)) rfl (by kernel_rfl) (by kernel_rfl) (by kernel_rfl) (fun _ _ _ h => h) (fun L w => Iff.rfl) (Or.inl ⟨by rfl, fun w => by go_simp⟩) hS (fun hSb => ?_)
  simp only [List.getElem_toArray, List.getElem_cons_zero, List.getElem_cons_succ, Act.put, List.setIfInBounds_toArray, List.set_cons_zero, List.set_cons_succ]
  clear hS
  refine till_read (i := 5) (c := 11) (v := x2) (T := fun W => Ov W gx a b c x1 x2 fu) rfl rfl (by kernel_rfl) (by kernel_rfl) (by kernel_rfl) (by kernel_rfl) (by kernel_rfl) (fun _ _ _ h => h) (fun L w => Iff.rfl) (fun L w h1 h2 => h2) (Or.inl ⟨by rfl, fun w h => by have qo4 := h.o4; go_simp⟩) hSb (fun hS => ?_)
  simp only [List.getElem_toArray, List.getElem_cons_zero, List.getElem_cons_succ, Act.put, List.setIfInBounds_toArray, List.set_cons_zero, List.set_cons_succ]
  clear hSb
  refine till_take (i := 6) (v := .pointer (some ⟨gx, 5, none⟩)) rfl (by kernel_rfl) (by kernel_rfl) (by kernel_rfl) (fun _ _ _ h => h) (fun L w => Iff.rfl) (Or.inl ⟨by rfl, fun w => by go_simp⟩) hS (fun hSb => ?_)
  simp only [List.getElem_toArray, List.getElem_cons_zero, List.getElem_cons_succ, Act.put, List.setIfInBounds_toArray, List.set_cons_zero, List.set_cons_succ]
  clear hS
  refine till_read (i := 7) (c := 12) (v := .bool fu) (T := fun W => Ov W gx a b c x1 x2 fu) rfl rfl (by kernel_rfl) (by kernel_rfl) (by kernel_rfl) (by kernel_rfl) (by kernel_rfl) (fun _ _ _ h => h) (fun L w => Iff.rfl) (fun L w h1 h2 => h2) (Or.inl ⟨by rfl, fun w h => by have qo5 := h.o5; go_simp⟩) hSb (fun hS => ?_)
  simp only [List.getElem_toArray, List.getElem_cons_zero, List.getElem_cons_succ, Act.put, List.setIfInBounds_toArray, List.set_cons_zero, List.set_cons_succ]
  clear hSb
  refine till_one (i := 8) (by kernel_rfl) rfl (fun K hK => ?_)
  simp only [List.getElem_toArray, List.getElem_cons_zero, List.getElem_cons_succ]
  rw [if_pos (by rfl)]
  go_simp
  refine hK.out _ _ (hS.below (alloc1 _ _)) (fun hSb => ?_)
  clear hK K
  try simp only [List.getElem_toArray, List.getElem_cons_zero, List.getElem_cons_succ, Act.put, List.setIfInBounds_toArray, List.set_cons_zero, List.set_cons_succ]
  clear hS
  refine till_one (i := 9) (by kernel_rfl) rfl (fun K hK => ?_)
  simp only [List.getElem_toArray, List.getElem_cons_zero, List.getElem_cons_succ]
  rw [if_pos (by rfl)]
  go_simp
  refine hK.out _ _ (O0.out.below (alloc1 _ _)) (fun hS => ?_)
  clear hK K
  try simp only [List.getElem_toArray, List.getElem_cons_zero, List.getElem_cons_succ, Act.put, List.setIfInBounds_toArray, List.set_cons_zero, List.set_cons_succ]
  clear hSb
  refine till_one (i := 10) (by kernel_rfl) rfl (fun K hK => ?_)
  simp only [List.getElem_toArray, List.getElem_cons_zero, List.getElem_cons_succ]
  rw [if_pos (by rfl)]
  go_simp
  refine hK.out _ _ (hS) (fun hSb => ?_)
  clear hK K
  try simp only [List.getElem_toArray, List.getElem_cons_zero, List.getElem_cons_succ, Act.put, List.setIfInBounds_toArray, List.set_cons_zero, List.set_cons_succ]
  clear hS
  refine till_one (i := 11) (by kernel_rfl) rfl (fun K hK => ?_)
  simp only [List.getElem_toArray, List.getElem_cons_zero, List.getElem_cons_succ]
  rw [if_pos (by rfl)]
  go_simp
  refine hK.out _ _ (hSb) (fun hS => ?_)
  clear hK K
  try simp only [List.getElem_toArray, List.getElem_cons_zero, List.getElem_cons_succ, Act.put, List.setIfInBounds_toArray, List.set_cons_zero, List.set_cons_succ]
  clear hSb
  refine till_one (i := 12) (by kernel_rfl) rfl (fun K hK => ?_)
  simp only [List.getElem_toArray, List.getElem_cons_zero, List.getElem_cons_succ]
  rw [if_pos (by rfl)]
  go_simp
  refine hK.out _ _ (hS) (fun hSb => ?_)
  clear hK K
  try simp only [List.getElem_toArray, List.getElem_cons_zero, List.getElem_cons_succ, Act.put, List.setIfInBounds_toArray, List.set_cons_zero, List.set_cons_succ]
  clear hS
  refine till_done (by kernel_rfl) ?_ _
  clear hSb
  rw [HV.out, Hgi.out, ← Hx1.out, ← Hx2.out]
  go_upto_region 5 with (first
    | (go_at_call 8; refine (alive_n EV).mono ?_; rintro e w1 ⟨rfl, H1⟩
       have V1 : Hid (Env w1 M E) := EV.out.below H1.out)
    | (go_at_call 9; refine (shnew_n 2 _ nd).mono ?_; rintro e w2 ⟨g, d, m, rfl, H2⟩
       have F2 : Hid (Sf w1 w2 M E g d m ((2 : Nat) : Int) false (fun _ => none) 0) := ⟨V1.out, H2.out.2.2.2.2.2.1, H2.out.1, H2.out.2.1.dw, H2.out.2.2.2.2.2.2, H2.out.2.2.1, H2.out.2.2.2.1, H2.out.2.2.2.2.1⟩
       have b2 : Hid (Below V.heap.size V w2) := H1.out.trans (H2.out.2.2.2.2.2.1.mono H1.out.size)
       have i0 : w2.cell? ⟨gi, 0, none⟩ = some (.int .i64 (a : Int)) := (b2.out.cell (p := ⟨gi, 0, none⟩) (cell_lt v0.out)).trans v0.out
       have i1 : w2.cell? ⟨gi, 1, none⟩ = some (.int .i64 (b : Int)) := (b2.out.cell (p := ⟨gi, 1, none⟩) (cell_lt v1.out)).trans v1.out
       have i2 : w2.cell? ⟨gi, 2, none⟩ = some (.int .i64 (c : Int)) := (b2.out.cell (p := ⟨gi, 2, none⟩) (cell_lt v2.out)).trans v2.out
       have B2 : Hid (Below w.heap.size w w2) := bV.out.trans (b2.out.mono bV.out.size)))
  go_wp2_with (go_at_call 14; refine (goodId_n a b c _).mono ?_; rintro e w3 ⟨rfl, H3⟩; rw [hg.out])
  go_ret
  exact ⟨rfl, B2.out.trans (H3.out.mono B2.out.size)⟩
end Go.Proofs.YtkdgakcmhnadfaaGreatDoor

/- Nh -/
/- ShelfCuts' walk, where all is in form. -/
namespace Go.Proofs.YtkdgakcmhnadfaaGreatDoor
open Go.ChangeShapes Go.WideShapes Go.ChangeAt Go.RowKit
set_option maxRecDepth 20000
set_option linter.unusedVariables false
set_option linter.unusedSimpArgs false
theorem ids_one {v : ByteArray → Option Fl} {l : List I3} {p : I3} (h : IdS v l) (hp : gd3 p) (hv : ∀ t, (v t).isSome = true ↔ t = nm3 p) : l = [p] := by
  have h1 : ∀ q, q ∈ l ↔ q = p := fun q => by
    rw [h.mem q, hv]
    constructor
    · rintro ⟨h2, h3⟩
      have e := prs_nm h2
      rw [h3, prs_nm hp] at e
      exact e.symm
    · rintro rfl
      exact ⟨hp, rfl⟩
  match hl : l with
  | [] => have := (h1 p).2 rfl; cases this
  | [a] => rw [(h1 a).1 (by simp)]
  | a :: b :: r =>
    have ea := (h1 a).1 (by simp)
    have eb := (h1 b).1 (by simp)
    have h2 := h.up
    rw [ea, eb] at h2
    have h3 := (List.pairwise_cons.1 h2).1 p (by simp)
    rw [ltI_iff] at h3
    omega
theorem one_put {v : ByteArray → Option Fl} {st fi : ByteArray} {f : Fl} (h0 : ∀ t, t ≠ fi → t ≠ st → v t = none) (hf : f.h = true) (t : ByteArray) : (cr (upd (upd v st none) fi (some f) t)).isSome = true ↔ t = fi := by
  by_cases e : t = fi
  · rw [e, upd_same]
    simp [cr, hf]
  · rw [upd_other _ _ e]
    by_cases e2 : t = st
    · rw [e2, upd_same]
      simp [cr]
      intro h
      exact e (e2.trans h)
    · rw [upd_other _ _ e2, h0 t e e2]
      simp [cr, e]
set_option maxHeartbeats 8000000 in
theorem cuts_ok {w : World} {M : Nat} {E : Nat → Addr} (hE : Hid (Env w M E)) (hM : Hid (Mxl w)) (s1 s2 s3 : Nat) {p1 p2 : Option Addr} {n1 k1 n2 k2 : Nat} {l1 l2 : List Nat} (S1 : Hid (Sln w p1 n1 l1)) (c1 : Hid (p1 = none → k1 = 0)) (q1 : n1 ≤ k1) (S2 : Hid (Sln w p2 n2 l2)) (c2 : Hid (p2 = none → k2 = 0)) (q2 : n2 ≤ k2) (hg : Hid (gid s1 s2 s3 = true)) (h1 : n1 ≤ 1024) (h2 : n2 ≤ 1024) :
    Calls Tryz.prog 5 #[.agg #[.int .i64 (s1 : Int), .int .i64 (s2 : Int), .int .i64 (s3 : Int), .slice p1 n1 k1, .slice p2 n2 k2, .bool false]] w fun e w' => e = .returned (.bool true) ∧ Hid (Below w.heap.size w w') := by
  obtain ⟨fu, Hfu⟩ : ∃ fu, Hid (false = fu) := ⟨_, rfl⟩
  rw [Hfu.out]
  have i1024 : ¬ ((1024 : Int) < (n1 : Int)) := by omega
  have i1025 : ¬ ((1024 : Int) < (n2 : Int)) := by omega
  have OK1 : Hid (okN [1, (s1 : Int), s2, s3, ((2 : Nat) : Int), (n1 : Nat), 0] = true) := ok_t hg.out (by omega) (by omega) (by omega) (by omega)
  have OK2 : Hid (okN [1, (s1 : Int), s2, s3, ((2 : Nat) : Int), (n2 : Nat), 0] = true) := ok_t hg.out (by omega) (by omega) (by omega) (by omega)
  obtain ⟨F1, HF1⟩ : ∃ F1, Hid (frameL [1, s1, s2, s3, 2, n1, n1] l1 = F1) := ⟨_, rfl⟩
  obtain ⟨F2, HF2⟩ : ∃ F2, Hid (frameL [1, s1, s2, s3, 2, n2, n2] l2 = F2) := ⟨_, rfl⟩
  have GS1 : Hid (getS F1 = ([s1, s2, s3, 2, n1], l1, 0)) := by
    rw [← HF1.out]
    have h := (getS_there (a := s1) (b := s2) (c := s3) (d := 2) (e := n1) (l := l1) OK1.out (by have := S1.out.len; omega)).1
    rw [← S1.out.len] at h
    exact h
  have GS2 : Hid (getS F2 = ([s1, s2, s3, 2, n2], l2, 0)) := by
    rw [← HF2.out]
    have h := (getS_there (a := s1) (b := s2) (c := s3) (d := 2) (e := n2) (l := l2) OK2.out (by have := S2.out.len; omega)).1
    rw [← S2.out.len] at h
    exact h
  have G10 : Hid ((getS F1).2.2 = 0) := by rw [GS1.out]; rfl
  have G11 : Hid ((getS F1).1 = [s1, s2, s3, 2, n1]) := by rw [GS1.out]; rfl
  have G20 : Hid ((getS F2).2.2 = 0) := by rw [GS2.out]; rfl
  have G21 : Hid ((getS F2).1 = [s1, s2, s3, 2, n2]) := by rw [GS2.out]; rfl
  have GI : Hid (gdI s1 s2 s3) := by
    have h := of_decide_eq_true hg.out
    exact ⟨decide_eq_true (by omega), decide_eq_true (by omega), decide_eq_true (by omega)⟩
  obtain ⟨x1, Hx1⟩ : ∃ x1, Hid (Value.slice p1 n1 k1 = x1) := ⟨_, rfl⟩
  obtain ⟨x2, Hx2⟩ : ∃ x2, Hid (Value.slice p2 n2 k2 = x2) := ⟨_, rfl⟩
  obtain ⟨gx, HG⟩ : ∃ gx, Hid (w.heap.size = gx) := ⟨_, rfl⟩
  obtain ⟨W0, HW0⟩ : ∃ W0, Hid ((w.alloc (.cells #[.int .i64 (s1 : Int), .int .i64 (s2 : Int), .int .i64 (s3 : Int), .slice p1 n1 k1, .slice p2 n2 k2, .bool fu] 41)).drew = W0) := ⟨_, rfl⟩
  have b0 : Hid (Below w.heap.size w W0) := by rw [← HW0.out]; exact (alloc1 w _).drew
  have K0 : Ov (w.alloc (.cells #[.int .i64 (s1 : Int), .int .i64 (s2 : Int), .int .i64 (s3 : Int), .slice p1 n1 k1, .slice p2 n2 k2, .bool fu] 41)).drew gx s1 s2 s3 x1 x2 fu := by
    rw [← HG.out, ← Hx1.out, ← Hx2.out]
    refine ⟨?_, ?_, ?_, ?_, ?_, ?_⟩ <;> simp
  have O0 : Hid (Ov W0 gx s1 s2 s3 x1 x2 fu) := by rw [← HW0.out]; exact K0
  obtain ⟨gi, Hgi⟩ : ∃ gi, Hid (W0.heap.size = gi) := ⟨_, rfl⟩
  obtain ⟨V, HV⟩ : ∃ V, Hid (W0.alloc (.cells #[.int .i64 (s1 : Int), .int .i64 (s2 : Int), .int .i64 (s3 : Int)] 32) = V) := ⟨_, rfl⟩
  have bV : Hid (Below w.heap.size w V) := by rw [← HV.out]; exact b0.out.trans ((alloc1 W0 _).mono b0.out.size)
  have EV : Hid (Env V M E) := hE.out.below bV.out
  have v0 : Hid (V.cell? ⟨gi, 0, none⟩ = some (.int .i64 (s1 : Int))) := by rw [← HV.out, ← Hgi.out]; show _ = _; simp
  have v1 : Hid (V.cell? ⟨gi, 1, none⟩ = some (.int .i64 (s2 : Int))) := by rw [← HV.out, ← Hgi.out]; show _ = _; simp
  have v2 : Hid (V.cell? ⟨gi, 2, none⟩ = some (.int .i64 (s3 : Int))) := by rw [← HV.out, ← Hgi.out]; show _ = _; simp
  have nd : Hid (nodeOk 2 = true) := by show _ = _; decide
  go_enter Tryz.func5, Tryz.ntmps5
  go_upto_region 1 with (fail)
  refine wp_region_till (S := fun L W => Ov W gx s1 s2 s3 x1 x2 fu) (by kernel_rfl) K0 (fun hS => ?_)
  rw [HW0.out, HG.out, Hx1.out, Hx2.out]
  rw [HW0.out] at hS
  clear K0
  refine till_take (i := 0) (v := .pointer (some ⟨gx, 0, none⟩)) rfl (by kernel_rfl) (by kernel_rfl) (by kernel_rfl) (fun _ _ _ h => h) (fun L w => Iff.rfl) (Or.inl ⟨by rfl, fun w => by go_simp⟩) hS (fun hSb => ?_)
  simp only [List.getElem_toArray, List.getElem_cons_zero, List.getElem_cons_succ, Act.put, List.setIfInBounds_toArray, List.set_cons_zero, List.set_cons_succ]
  clear hS
  refine till_read (i := 1) (c := 9) (v := .agg #[.int .i64 (s1 : Int), .int .i64 (s2 : Int), .int .i64 (s3 : Int)]) (T := fun W => Ov W gx s1 s2 s3 x1 x2 fu) rfl rfl (by kernel_rfl) (by kernel_rfl) (by kernel_rfl) (by kernel_rfl) (by kernel_rfl) (fun _ _ _ h => h) (fun L w => Iff.rfl) (fun L w h1 h2 => h2) (Or.inl ⟨by rfl, fun w h => by have qo0 := h.o0; have qo1 := h.o1; have qo2 := h.o2; go_simp⟩) hSb (fun hS => ?_)
  simp only [List.getElem_toArray, List.getElem_cons_zero, List.getElem_cons_succ, Act.put, List.setIfInBounds_toArray, List.set_cons_zero, List.set_cons_succ]
  clear hSb
  refine till_take (i := 2) (v := .pointer (some ⟨gx, 3, none⟩)) rfl (by kernel_rfl) (by kernel_rfl) (by kernel_rfl) (fun _ _ _ h => h) (fun L w => Iff.rfl) (Or.inl ⟨by rfl, fun w => by go_simp⟩) hS (fun hSb => ?_)
  simp only [List.getElem_toArray, List.getElem_cons_zero, List.getElem_cons_succ, Act.put, List.setIfInBounds_toArray, List.set_cons_zero, List.set_cons_succ]
  clear hS
  refine till_read (i := 3) (c := 10) (v := x1) (T := fun W => Ov W gx s1 s2 s3 x1 x2 fu) rfl rfl (by kernel_rfl) (by kernel_rfl) (by kernel_rfl) (by kernel_rfl) (by kernel_rfl) (fun _ _ _ h => h) (fun L w => Iff.rfl) (fun L w h1 h2 => h2) (Or.inl ⟨by rfl, fun w h => by have qo3 := h.o3; go_simp⟩) hSb (fun hS => ?_)
  simp only [List.getElem_toArray, List.getElem_cons_zero, List.getElem_cons_succ, Act.put, List.setIfInBounds_toArray, List.set_cons_zero, List.set_cons_succ]
  clear hSb
  refine till_take (i := 4) (v := .pointer (some ⟨gx, 4, none⟩)) rfl (by kernel_rfl) (by kernel_rfl) (by kernel_rfl) (fun _ _ _ h => h) (fun L w => Iff.rfl) (Or.inl ⟨by rfl, fun w => by go_simp⟩) hS (fun hSb => ?_)
  simp only [List.getElem_toArray, List.getElem_cons_zero, List.getElem_cons_succ, Act.put, List.setIfInBounds_toArray, List.set_cons_zero, List.set_cons_succ]
  clear hS
  refine till_read (i := 5) (c := 11) (v := x2) (T := fun W => Ov W gx s1 s2 s3 x1 x2 fu) rfl rfl (by kernel_rfl) (by kernel_rfl) (by kernel_rfl) (by kernel_rfl) (by kernel_rfl) (fun _ _ _ h => h) (fun L w => Iff.rfl) (fun L w h1 h2 => h2) (Or.inl ⟨by rfl, fun w h => by have qo4 := h.o4; go_simp⟩) hSb (fun hS => ?_)
  simp only [List.getElem_toArray, List.getElem_cons_zero, List.getElem_cons_succ, Act.put, List.setIfInBounds_toArray, List.set_cons_zero, List.set_cons_succ]
  clear hSb
  refine till_take (i := 6) (v := .pointer (some ⟨gx, 5, none⟩)) rfl (by kernel_rfl) (by kernel_rfl) (by kernel_rfl) (fun _ _ _ h => h) (fun L w => Iff.rfl) (Or.inl ⟨by rfl, fun w => by go_simp⟩) hS (fun hSb => ?_)
  simp only [List.getElem_toArray, List.getElem_cons_zero, List.getElem_cons_succ, Act.put, List.setIfInBounds_toArray, List.set_cons_zero, List.set_cons_succ]
  clear hS
  refine till_read (i := 7) (c := 12) (v := .bool fu) (T := fun W => Ov W gx s1 s2 s3 x1 x2 fu) rfl rfl (by kernel_rfl) (by kernel_rfl) (by kernel_rfl) (by kernel_rfl) (by kernel_rfl) (fun _ _ _ h => h) (fun L w => Iff.rfl) (fun L w h1 h2 => h2) (Or.inl ⟨by rfl, fun w h => by have qo5 := h.o5; go_simp⟩) hSb (fun hS => ?_)
  simp only [List.getElem_toArray, List.getElem_cons_zero, List.getElem_cons_succ, Act.put, List.setIfInBounds_toArray, List.set_cons_zero, List.set_cons_succ]
  clear hSb
  refine till_one (i := 8) (by kernel_rfl) rfl (fun K hK => ?_)
  simp only [List.getElem_toArray, List.getElem_cons_zero, List.getElem_cons_succ]
  rw [if_pos (by rfl)]
  go_simp
  refine hK.out _ _ (hS.below (alloc1 _ _)) (fun hSb => ?_)
  clear hK K
  try simp only [List.getElem_toArray, List.getElem_cons_zero, List.getElem_cons_succ, Act.put, List.setIfInBounds_toArray, List.set_cons_zero, List.set_cons_succ]
  clear hS
  refine till_one (i := 9) (by kernel_rfl) rfl (fun K hK => ?_)
  simp only [List.getElem_toArray, List.getElem_cons_zero, List.getElem_cons_succ]
  rw [if_pos (by rfl)]
  go_simp
  refine hK.out _ _ (O0.out.below (alloc1 _ _)) (fun hS => ?_)
  clear hK K
  try simp only [List.getElem_toArray, List.getElem_cons_zero, List.getElem_cons_succ, Act.put, List.setIfInBounds_toArray, List.set_cons_zero, List.set_cons_succ]
  clear hSb
  refine till_one (i := 10) (by kernel_rfl) rfl (fun K hK => ?_)
  simp only [List.getElem_toArray, List.getElem_cons_zero, List.getElem_cons_succ]
  rw [if_pos (by rfl)]
  go_simp
  refine hK.out _ _ (hS) (fun hSb => ?_)
  clear hK K
  try simp only [List.getElem_toArray, List.getElem_cons_zero, List.getElem_cons_succ, Act.put, List.setIfInBounds_toArray, List.set_cons_zero, List.set_cons_succ]
  clear hS
  refine till_one (i := 11) (by kernel_rfl) rfl (fun K hK => ?_)
  simp only [List.getElem_toArray, List.getElem_cons_zero, List.getElem_cons_succ]
  rw [if_pos (by rfl)]
  go_simp
  refine hK.out _ _ (hSb) (fun hS => ?_)
  clear hK K
  try simp only [List.getElem_toArray, List.getElem_cons_zero, List.getElem_cons_succ, Act.put, List.setIfInBounds_toArray, List.set_cons_zero, List.set_cons_succ]
  clear hSb
  refine till_one (i := 12) (by kernel_rfl) rfl (fun K hK => ?_)
  simp only [List.getElem_toArray, List.getElem_cons_zero, List.getElem_cons_succ]
  rw [if_pos (by rfl)]
  go_simp
  refine hK.out _ _ (hS) (fun hSb => ?_)
  clear hK K
  try simp only [List.getElem_toArray, List.getElem_cons_zero, List.getElem_cons_succ, Act.put, List.setIfInBounds_toArray, List.set_cons_zero, List.set_cons_succ]
  clear hS
  refine till_done (by kernel_rfl) ?_ _
  clear hSb
  rw [HV.out, Hgi.out, ← Hx1.out, ← Hx2.out]
  go_upto_region 5 with (first
    | (go_at_call 8; refine (alive_n EV).mono ?_; rintro e w1 ⟨rfl, H1⟩
       have V1 : Hid (Env w1 M E) := EV.out.below H1.out)
    | (go_at_call 9; refine (shnew_n 2 _ nd).mono ?_; rintro e w2 ⟨g, d, m, rfl, H2⟩
       have FF2 : Hid (Sf w1 w2 M E g d m ((2 : Nat) : Int) false (fun _ => none) 0) := ⟨V1.out, H2.out.2.2.2.2.2.1, H2.out.1, H2.out.2.1.dw, H2.out.2.2.2.2.2.2, H2.out.2.2.1, H2.out.2.2.2.1, H2.out.2.2.2.2.1⟩
       have b2 : Hid (Below V.heap.size V w2) := H1.out.trans (H2.out.2.2.2.2.2.1.mono H1.out.size)
       have i0 : w2.cell? ⟨gi, 0, none⟩ = some (.int .i64 (s1 : Int)) := (b2.out.cell (p := ⟨gi, 0, none⟩) (cell_lt v0.out)).trans v0.out
       have i1 : w2.cell? ⟨gi, 1, none⟩ = some (.int .i64 (s2 : Int)) := (b2.out.cell (p := ⟨gi, 1, none⟩) (cell_lt v1.out)).trans v1.out
       have i2 : w2.cell? ⟨gi, 2, none⟩ = some (.int .i64 (s3 : Int)) := (b2.out.cell (p := ⟨gi, 2, none⟩) (cell_lt v2.out)).trans v2.out
       have B2 : Hid (Below w.heap.size w w2) := bV.out.trans (b2.out.mono bV.out.size)))
  have GL : Hid (gi < w1.heap.size) := by have h1 := cell_lt v0.out; have h2 := H1.out.size; show _ < _; omega
  have y0 : Hid (w1.cell? ⟨gi, 0, none⟩ = some (.int .i64 (s1 : Int))) := (H1.out.cell (p := ⟨gi, 0, none⟩) (cell_lt v0.out)).trans v0.out
  have y1 : Hid (w1.cell? ⟨gi, 1, none⟩ = some (.int .i64 (s2 : Int))) := (H1.out.cell (p := ⟨gi, 1, none⟩) (cell_lt v1.out)).trans v1.out
  have y2 : Hid (w1.cell? ⟨gi, 2, none⟩ = some (.int .i64 (s3 : Int))) := (H1.out.cell (p := ⟨gi, 2, none⟩) (cell_lt v2.out)).trans v2.out
  have M1 : Hid (Mxl w1) := (hM.out.below bV.out).below H1.out
  have DM : Hid ((w1.heap.size ≤ d ∧ d < w2.heap.size) ∧ w1.heap.size ≤ m ∧ m < w2.heap.size) := ⟨⟨FF2.out.ge.2.1, FF2.out.dv.lt.1⟩, FF2.out.ge.2.2, FF2.out.dv.lt.2⟩
  have T1 : Hid (Sln w2 p1 n1 l1) := S1.out.below B2.out
  have T2 : Hid (Sln w2 p2 n2 l2) := S2.out.below B2.out
  have W1 : Hid (w.heap.size ≤ w1.heap.size) := by have h1 := bV.out.size; have h2 := H1.out.size; show _ ≤ _; omega
  have BW : Hid (Below w.heap.size w w1) := bV.out.trans (H1.out.mono bV.out.size)
  go_upto_region 9 with (first
    | (go_at_call 14; refine (goodId_n s1 s2 s3 _).mono ?_; rintro e w3 ⟨rfl, H3⟩; rw [hg.out]
       have FF3 : Hid (Sf w1 w3 M E g d m ((2 : Nat) : Int) false (fun _ => none) 0) := FF2.out.below H3.out
       have U1 : Hid (Sln w3 p1 n1 l1) := T1.out.below H3.out
       have U2 : Hid (Sln w3 p2 n2 l2) := T2.out.below H3.out
       clear i0 i1 i2
       have j0 : w3.cell? ⟨gi, 0, none⟩ = some (.int .i64 (s1 : Int)) := (FF3.out.bel.cell (p := ⟨gi, 0, none⟩) GL.out).trans y0.out
       have j1 : w3.cell? ⟨gi, 1, none⟩ = some (.int .i64 (s2 : Int)) := (FF3.out.bel.cell (p := ⟨gi, 1, none⟩) GL.out).trans y1.out
       have j2 : w3.cell? ⟨gi, 2, none⟩ = some (.int .i64 (s3 : Int)) := (FF3.out.bel.cell (p := ⟨gi, 2, none⟩) GL.out).trans y2.out
       clear T1 T2)
    | (go_at_call 15; refine (refPut_n s1 s2 s3 2 n1 n1 k1 p1 l1 U1 c1 q1 OK1 h1).mono ?_; rintro e w4 ⟨af1, N1, cf1, rfl, H4⟩
       rw [HF1.out] at H4
       have FF4 : Hid (Sf w1 w4 M E g d m ((2 : Nat) : Int) false (fun _ => none) 0) := FF3.out.below H4.out.2.2
       have A4 : Hid (Sln w4 af1 N1 F1) := H4.out.1.sln (by have := H4.out.2.1; omega)
       have U4 : Hid (Sln w4 p2 n2 l2) := U2.out.below H4.out.2.2
       clear j0 j1 j2 U1
       have j0 : w4.cell? ⟨gi, 0, none⟩ = some (.int .i64 (s1 : Int)) := (FF4.out.bel.cell (p := ⟨gi, 0, none⟩) GL.out).trans y0.out
       have j1 : w4.cell? ⟨gi, 1, none⟩ = some (.int .i64 (s2 : Int)) := (FF4.out.bel.cell (p := ⟨gi, 1, none⟩) GL.out).trans y1.out
       have j2 : w4.cell? ⟨gi, 2, none⟩ = some (.int .i64 (s3 : Int)) := (FF4.out.bel.cell (p := ⟨gi, 2, none⟩) GL.out).trans y2.out
       clear U2)
    | (go_at_call 15; refine (refPut_n s1 s2 s3 2 n2 n2 k2 p2 l2 U4 c2 q2 OK2 h2).mono ?_; rintro e w5 ⟨af2, N2, cf2, rfl, H5⟩
       rw [HF2.out] at H5))
  have FF5 : Hid (Sf w1 w5 M E g d m ((2 : Nat) : Int) false (fun _ => none) 0) := FF4.out.below H5.out.2.2
  have A5 : Hid (Sln w5 af1 N1 F1) := A4.out.below H5.out.2.2
  have C5 : Hid (Sln w5 af2 N2 F2) := H5.out.1.sln (by have := H5.out.2.1; omega)
  have Z1 : Hid (af1 = none → cf1 = 0) := H4.out.1.cap0
  have Z2 : Hid (af2 = none → cf2 = 0) := H5.out.1.cap0
  have e1 : N1 ≤ cf1 := H4.out.1.cap
  have e2 : N2 ≤ cf2 := H5.out.1.cap
  have N1b : Hid (N1 ≤ 4000) := H4.out.2.1
  have N2b : Hid (N2 ≤ 4000) := H5.out.2.1
  have P1 : Hid (∀ q, blkOf af1 = some q → q ≠ d ∧ q ≠ m) := fun q hq => by
    have z1 := H4.out.1.ge q hq
    have z2 := DM.out
    have z3 := H3.out.size
    omega
  have P2 : Hid (∀ q, blkOf af2 = some q → q ≠ d ∧ q ≠ m) := fun q hq => by
    have z1 := H5.out.1.ge q hq
    have z2 := DM.out
    have z3 := H3.out.size
    have z4 := H4.out.2.2.size
    omega
  have K0 : Hid (0 < 512) := by show 0 < 512; omega
  have K1 : Hid (1 < 512) := by show 1 < 512; omega
  obtain ⟨st, HT⟩ : ∃ st, Hid (nmS 116 s1 s2 s3 = st) := ⟨_, rfl⟩
  obtain ⟨fi, HI⟩ : ∃ fi, Hid (nmS 98 s1 s2 s3 = fi) := ⟨_, rfl⟩
  obtain ⟨f1, Hf1⟩ : ∃ f1 : Fl, Hid ((⟨spell F1, spell F1, true⟩ : Fl) = f1) := ⟨_, rfl⟩
  obtain ⟨f2, Hf2⟩ : ∃ f2 : Fl, Hid ((⟨spell F2, spell F2, true⟩ : Fl) = f2) := ⟨_, rfl⟩
  have fb1 : Hid (bytesOf f1.b = F1 ∧ f1.b.size ≤ 140737488352256 ∧ f1.h = true ∧ cr (some f1) = some f1) := by
    rw [← Hf1.out]
    have h3 : bytesOf (spell F1) = F1 := bytesOf_spell A4.out.lt
    have h4 := bytesOf_length (spell F1)
    rw [h3, ← A4.out.len] at h4
    exact ⟨h3, by show (spell F1).size ≤ _; have := N1b.out; omega, rfl, rfl⟩
  have fb2 : Hid (bytesOf f2.b = F2 ∧ f2.b.size ≤ 140737488352256 ∧ f2.h = true ∧ cr (some f2) = some f2) := by
    rw [← Hf2.out]
    have h3 : bytesOf (spell F2) = F2 := bytesOf_spell C5.out.lt
    have h4 := bytesOf_length (spell F2)
    rw [h3, ← C5.out.len] at h4
    exact ⟨h3, by show (spell F2).size ≤ _; have := N2b.out; omega, rfl, rfl⟩
  clear j0 j1 j2 H3 H2 H4 H5 HF1 HF2
  go_upto_region 12 with (first
    | (go_at_call 16; refine (put_v FF5 K0 A5 Z1 e1 P1 G10 G11).mono ?_; rintro e w6 ⟨rfl, H6⟩
       rw [HT.out, HI.out, Hf1.out] at H6
       have FF6 : Hid (Sf w1 w6 M E g d m ((2 : Nat) : Int) false (upd (upd (fun _ => none) st none) fi (some f1)) 1) := H6.out.1
       have L6 : Hid (Shl w6 g ((2 : Nat) : Int) d) := FF6.out.shl
       have D6 : Hid (Dw w6 d m (upd (upd (fun _ => none) st none) fi (some f1)) 1 false) := FF6.out.dv
       have A6 : Hid (Sln w6 af1 N1 F1) := A5.out.ch H6.out.2 P1.out
       have C6 : Hid (Sln w6 af2 N2 F2) := C5.out.ch H6.out.2 P2.out
       clear H6)
    | (go_at_call 17; refine (drive_n L6).mono ?_; rintro e w0 ⟨rfl, h00⟩; rw [h00]; clear h00)
    | (go_at_call 18; refine (fill_w D6 fu).mono ?_; rintro e w7 ⟨rfl, H7⟩
       have FF7 : Hid (Sf w1 w7 M E g d m ((2 : Nat) : Int) fu (upd (upd (fun _ => none) st none) fi (some f1)) 1) := FF6.out.ch H7.out.2 H7.out.1
       have A7 : Hid (Sln w7 af1 N1 F1) := A6.out.ch H7.out.2 P1.out
       have C7 : Hid (Sln w7 af2 N2 F2) := C6.out.ch H7.out.2 P2.out
       clear H7))
  clear A5 C5 A6 C6 L6 D6 FF5 FF6
  have hfu := Hfu.out
  subst hfu
  go_upto_region 13 with (first
    | (go_at_call 16; refine (put_v FF7 K1 C7 Z2 e2 P2 G20 G21).mono ?_; rintro e w8 ⟨rfl, H8⟩
       rw [HT.out, HI.out, Hf2.out] at H8
       have FF8 : Hid (Sf w1 w8 M E g d m ((2 : Nat) : Int) false (upd (upd (upd (upd (fun _ => none) st none) fi (some f1)) st none) fi (some f2)) 2) := H8.out.1
       have A8 : Hid (Sln w8 af2 N2 F2) := C7.out.ch H8.out.2 P2.out
       have L8 : Hid (Shl w8 g ((2 : Nat) : Int) d) := FF8.out.shl
       have D8 : Hid (Dw w8 d m (upd (upd (upd (upd (fun _ => none) st none) fi (some f1)) st none) fi (some f2)) 2 false) := FF8.out.dv
       clear H8))
  have ONE : Hid (∀ t, (cr ((upd (upd (upd (upd (fun _ => none) st none) fi (some f1)) st none) fi (some f2)) t)).isSome = true ↔ t = fi) := fun t => one_put (fun t h3 h4 => by rw [upd_other _ _ h3, upd_other _ _ h4]) fb2.out.2.2.1 t
  have ALL : Hid (AllB (fun t => cr ((upd (upd (upd (upd (fun _ => none) st none) fi (some f1)) st none) fi (some f2)) t))) := fun t ht => ⟨((s1 : Int), (s2 : Int), (s3 : Int)), GI.out, by rw [(ONE.out t).1 ht]; exact HI.out.symm⟩
  have HV9 : Hid ((fun t => cr ((upd (upd (upd (upd (fun _ => none) st none) fi (some f1)) st none) fi (some f2)) t)) (nmS 98 s1 s2 s3) = some f2) := by
    show cr _ = _
    rw [HI.out, upd_same]
    exact fb2.out.2.2.2
  have GB0 : Hid ((getS (bytesOf f2.b)).2.2 = 0) := by rw [fb2.out.1]; exact G20
  have GB1 : Hid ((getS (bytesOf f2.b)).1 = [s1, s2, s3, 2, n2]) := by rw [fb2.out.1]; exact G21
  have BS : f2.b.size ≤ 140737488352256 := fb2.out.2.1
  go_upto_region 20 with (first
    | (go_at_call 17; refine (drive_n L8).mono ?_; rintro e w0 ⟨rfl, h00⟩; rw [h00]; clear h00)
    | (go_at_call 19; refine (crash_w D8).mono ?_; rintro e w9 ⟨rfl, H9⟩
       have FF9 : Hid (Sf w1 w9 M E g d m ((2 : Nat) : Int) false (fun t => cr ((upd (upd (upd (upd (fun _ => none) st none) fi (some f1)) st none) fi (some f2)) t)) 512) := FF8.out.ch H9.out.2 H9.out.1
       have A9 : Hid (Sln w9 af2 N2 F2) := A8.out.ch H9.out.2 P2.out
       have j0 : w9.cell? ⟨gi, 0, none⟩ = some (.int .i64 (s1 : Int)) := (FF9.out.bel.cell (p := ⟨gi, 0, none⟩) GL.out).trans y0.out
       have j1 : w9.cell? ⟨gi, 1, none⟩ = some (.int .i64 (s2 : Int)) := (FF9.out.bel.cell (p := ⟨gi, 1, none⟩) GL.out).trans y1.out
       have j2 : w9.cell? ⟨gi, 2, none⟩ = some (.int .i64 (s3 : Int)) := (FF9.out.bel.cell (p := ⟨gi, 2, none⟩) GL.out).trans y2.out
       clear H9)
    | (go_at_call 20; refine (get_v FF9 GI HV9 BS GB0 GB1).mono ?_; rintro e wa ⟨q, nq, cq, rfl, Ha⟩
       have Sa : Hid (Sln wa (some ⟨q, 0, none⟩) nq F2) := by have h := Ha.out.1; rw [fb2.out.1] at h; exact h
       have Aa : Hid (Sln wa af2 N2 F2) := A9.out.below Ha.out.2.2.2
       have FFa : Hid (Sf w1 wa M E g d m ((2 : Nat) : Int) false (fun t => cr ((upd (upd (upd (upd (fun _ => none) st none) fi (some f1)) st none) fi (some f2)) t)) 512) := FF9.out.below Ha.out.2.2.2
       have Ma : Hid (Mxl wa) := M1.out.below FFa.out.bel
       clear Ha j0 j1 j2)
    | (go_at_call 21; refine (sweep_v FFa Ma ALL).mono ?_; rintro e wb ⟨rfl, Hb⟩
       have Sb : Hid (Sln wb (some ⟨q, 0, none⟩) nq F2) := Sa.out.below Hb.out
       have Ab : Hid (Sln wb af2 N2 F2) := Aa.out.below Hb.out
       have FFb : Hid (Sf w1 wb M E g d m ((2 : Nat) : Int) false (fun t => cr ((upd (upd (upd (upd (fun _ => none) st none) fi (some f1)) st none) fi (some f2)) t)) 512) := FFa.out.below Hb.out
       have Mb : Hid (Mxl wb) := Ma.out.below Hb.out
       clear Hb)
    | (go_at_call 22; refine (list_v FFb Mb ALL).mono ?_; rintro e wc ⟨al, nl, cl, l, rfl, Hc⟩))
  have Sc : Hid (Sln wc (some ⟨q, 0, none⟩) nq F2) := Sb.out.below Hc.out.2.2.2
  have Ac : Hid (Sln wc af2 N2 F2) := Ab.out.below Hc.out.2.2.2
  have FFc : Hid (Sf w1 wc M E g d m ((2 : Nat) : Int) false (fun t => cr ((upd (upd (upd (upd (fun _ => none) st none) fi (some f1)) st none) fi (some f2)) t)) 512) := FFb.out.below Hc.out.2.2.2
  have EL : l = [((s1 : Int), (s2 : Int), (s3 : Int))] := ids_one Hc.out.2.1 GI.out (fun t => by rw [ONE.out t]; show t = fi ↔ t = nmS 98 s1 s2 s3; rw [HI.out])
  obtain rfl : nl = 1 := by rw [Hc.out.1.len, EL]; rfl
  obtain ⟨gl, rfl, g0, g1, g2⟩ := Hc.out.1.at_ (i := 0) (by omega)
  rw [EL] at g0 g1 g2
  have L0 : ∀ j, (wc.drewN j).cell? ⟨gl, 0, none⟩ = some (.int .i64 (s1 : Int)) := fun j => by rw [cell_drewN]; exact g0
  have L1 : ∀ j, (wc.drewN j).cell? ⟨gl, 1, none⟩ = some (.int .i64 (s2 : Int)) := fun j => by rw [cell_drewN]; exact g1
  have L2 : ∀ j, (wc.drewN j).cell? ⟨gl, 2, none⟩ = some (.int .i64 (s3 : Int)) := fun j => by rw [cell_drewN]; exact g2
  have I0 : ∀ j, (wc.drewN j).cell? ⟨gi, 0, none⟩ = some (.int .i64 (s1 : Int)) := fun j => by rw [cell_drewN]; exact (FFc.out.bel.cell (p := ⟨gi, 0, none⟩) GL.out).trans y0.out
  have I1 : ∀ j, (wc.drewN j).cell? ⟨gi, 1, none⟩ = some (.int .i64 (s2 : Int)) := fun j => by rw [cell_drewN]; exact (FFc.out.bel.cell (p := ⟨gi, 1, none⟩) GL.out).trans y1.out
  have I2 : ∀ j, (wc.drewN j).cell? ⟨gi, 2, none⟩ = some (.int .i64 (s3 : Int)) := fun j => by rw [cell_drewN]; exact (FFc.out.bel.cell (p := ⟨gi, 2, none⟩) GL.out).trans y2.out
  have CVg : ∀ j, (convert 33 9 (.slice (some ⟨q, 0, none⟩) nq cq)).run Tryz.prog (wc.drewN j) = .ok (.string (spell F2)) (wc.drewN j) := fun j => conv_n (Sc.out.drewN j)
  have CVf : ∀ j, (convert 33 9 (.slice af2 N2 cf2)).run Tryz.prog (wc.drewN j) = .ok (.string (spell F2)) (wc.drewN j) := fun j => conv_n (Ac.out.drewN j)
  have EQ := eq_id (s1 : Int) (s2 : Int) (s3 : Int)
  have ES := fun W => eql_same W (E 1)
  have GE : ∀ j, (wc.drewN j).cell? ⟨1, 0, none⟩ = some (.iface 273 (.pointer (some (E 1)))) := fun j => by rw [cell_drewN]; exact FFc.out.here.sent.c 1 ⟨by have := FFc.out.env.big; omega, fun _ => by omega⟩
  have FB : Hid (Below w.heap.size w wc) := BW.out.trans (FFc.out.bel.mono W1.out)
  clear g0 g1 g2
  go_quiet (fail)
  clear L0 L1 L2 I0 I1 I2 CVg CVf EQ ES GE
  go_wp2
  go_ret
  exact ⟨by first | rfl | simp, below_drewN FB.out _⟩
set_option maxHeartbeats 8000000 in
theorem cuts_full {w : World} {M : Nat} {E : Nat → Addr} (hE : Hid (Env w M E)) (hM : Hid (Mxl w)) (s1 s2 s3 : Nat) {p1 p2 : Option Addr} {n1 k1 n2 k2 : Nat} {l1 l2 : List Nat} (S1 : Hid (Sln w p1 n1 l1)) (c1 : Hid (p1 = none → k1 = 0)) (q1 : n1 ≤ k1) (S2 : Hid (Sln w p2 n2 l2)) (c2 : Hid (p2 = none → k2 = 0)) (q2 : n2 ≤ k2) (hg : Hid (gid s1 s2 s3 = true)) (h1 : n1 ≤ 1024) (h2 : n2 ≤ 1024) :
    Calls Tryz.prog 5 #[.agg #[.int .i64 (s1 : Int), .int .i64 (s2 : Int), .int .i64 (s3 : Int), .slice p1 n1 k1, .slice p2 n2 k2, .bool true]] w fun e w' => e = .returned (.bool true) ∧ Hid (Below w.heap.size w w') := by
  obtain ⟨fu, Hfu⟩ : ∃ fu, Hid (true = fu) := ⟨_, rfl⟩
  rw [Hfu.out]
  have i1024 : ¬ ((1024 : Int) < (n1 : Int)) := by omega
  have i1025 : ¬ ((1024 : Int) < (n2 : Int)) := by omega
  have OK1 : Hid (okN [1, (s1 : Int), s2, s3, ((2 : Nat) : Int), (n1 : Nat), 0] = true) := ok_t hg.out (by omega) (by omega) (by omega) (by omega)
  have OK2 : Hid (okN [1, (s1 : Int), s2, s3, ((2 : Nat) : Int), (n2 : Nat), 0] = true) := ok_t hg.out (by omega) (by omega) (by omega) (by omega)
  obtain ⟨F1, HF1⟩ : ∃ F1, Hid (frameL [1, s1, s2, s3, 2, n1, n1] l1 = F1) := ⟨_, rfl⟩
  obtain ⟨F2, HF2⟩ : ∃ F2, Hid (frameL [1, s1, s2, s3, 2, n2, n2] l2 = F2) := ⟨_, rfl⟩
  have GS1 : Hid (getS F1 = ([s1, s2, s3, 2, n1], l1, 0)) := by
    rw [← HF1.out]
    have h := (getS_there (a := s1) (b := s2) (c := s3) (d := 2) (e := n1) (l := l1) OK1.out (by have := S1.out.len; omega)).1
    rw [← S1.out.len] at h
    exact h
  have GS2 : Hid (getS F2 = ([s1, s2, s3, 2, n2], l2, 0)) := by
    rw [← HF2.out]
    have h := (getS_there (a := s1) (b := s2) (c := s3) (d := 2) (e := n2) (l := l2) OK2.out (by have := S2.out.len; omega)).1
    rw [← S2.out.len] at h
    exact h
  have G10 : Hid ((getS F1).2.2 = 0) := by rw [GS1.out]; rfl
  have G11 : Hid ((getS F1).1 = [s1, s2, s3, 2, n1]) := by rw [GS1.out]; rfl
  have G20 : Hid ((getS F2).2.2 = 0) := by rw [GS2.out]; rfl
  have G21 : Hid ((getS F2).1 = [s1, s2, s3, 2, n2]) := by rw [GS2.out]; rfl
  have GI : Hid (gdI s1 s2 s3) := by
    have h := of_decide_eq_true hg.out
    exact ⟨decide_eq_true (by omega), decide_eq_true (by omega), decide_eq_true (by omega)⟩
  obtain ⟨x1, Hx1⟩ : ∃ x1, Hid (Value.slice p1 n1 k1 = x1) := ⟨_, rfl⟩
  obtain ⟨x2, Hx2⟩ : ∃ x2, Hid (Value.slice p2 n2 k2 = x2) := ⟨_, rfl⟩
  obtain ⟨gx, HG⟩ : ∃ gx, Hid (w.heap.size = gx) := ⟨_, rfl⟩
  obtain ⟨W0, HW0⟩ : ∃ W0, Hid ((w.alloc (.cells #[.int .i64 (s1 : Int), .int .i64 (s2 : Int), .int .i64 (s3 : Int), .slice p1 n1 k1, .slice p2 n2 k2, .bool fu] 41)).drew = W0) := ⟨_, rfl⟩
  have b0 : Hid (Below w.heap.size w W0) := by rw [← HW0.out]; exact (alloc1 w _).drew
  have K0 : Ov (w.alloc (.cells #[.int .i64 (s1 : Int), .int .i64 (s2 : Int), .int .i64 (s3 : Int), .slice p1 n1 k1, .slice p2 n2 k2, .bool fu] 41)).drew gx s1 s2 s3 x1 x2 fu := by
    rw [← HG.out, ← Hx1.out, ← Hx2.out]
    refine ⟨?_, ?_, ?_, ?_, ?_, ?_⟩ <;> simp
  have O0 : Hid (Ov W0 gx s1 s2 s3 x1 x2 fu) := by rw [← HW0.out]; exact K0
  obtain ⟨gi, Hgi⟩ : ∃ gi, Hid (W0.heap.size = gi) := ⟨_, rfl⟩
  obtain ⟨V, HV⟩ : ∃ V, Hid (W0.alloc (.cells #[.int .i64 (s1 : Int), .int .i64 (s2 : Int), .int .i64 (s3 : Int)] 32) = V) := ⟨_, rfl⟩
  have bV : Hid (Below w.heap.size w V) := by rw [← HV.out]; exact b0.out.trans ((alloc1 W0 _).mono b0.out.size)
  have EV : Hid (Env V M E) := hE.out.below bV.out
  have v0 : Hid (V.cell? ⟨gi, 0, none⟩ = some (.int .i64 (s1 : Int))) := by rw [← HV.out, ← Hgi.out]; show _ = _; simp
  have v1 : Hid (V.cell? ⟨gi, 1, none⟩ = some (.int .i64 (s2 : Int))) := by rw [← HV.out, ← Hgi.out]; show _ = _; simp
  have v2 : Hid (V.cell? ⟨gi, 2, none⟩ = some (.int .i64 (s3 : Int))) := by rw [← HV.out, ← Hgi.out]; show _ = _; simp
  have nd : Hid (nodeOk 2 = true) := by show _ = _; decide
  go_enter Tryz.func5, Tryz.ntmps5
  go_upto_region 1 with (fail)
  refine wp_region_till (S := fun L W => Ov W gx s1 s2 s3 x1 x2 fu) (by kernel_rfl) K0 (fun hS => ?_)
  rw [HW0.out, HG.out, Hx1.out, Hx2.out]
  rw [HW0.out] at hS
  clear K0
  refine till_take (i := 0) (v := .pointer (some ⟨gx, 0, none⟩)) rfl (by kernel_rfl) (by kernel_rfl) (by kernel_rfl) (fun _ _ _ h => h) (fun L w => Iff.rfl) (Or.inl ⟨by rfl, fun w => by go_simp⟩) hS (fun hSb => ?_)
  simp only [List.getElem_toArray, List.getElem_cons_zero, List.getElem_cons_succ, Act.put, List.setIfInBounds_toArray, List.set_cons_zero, List.set_cons_succ]
  clear hS
  refine till_read (i := 1) (c := 9) (v := .agg #[.int .i64 (s1 : Int), .int .i64 (s2 : Int), .int .i64 (s3 : Int)]) (T := fun W => Ov W gx s1 s2 s3 x1 x2 fu) rfl rfl (by kernel_rfl) (by kernel_rfl) (by kernel_rfl) (by kernel_rfl) (by kernel_rfl) (fun _ _ _ h => h) (fun L w => Iff.rfl) (fun L w h1 h2 => h2) (Or.inl ⟨by rfl, fun w h => by have qo0 := h.o0; have qo1 := h.o1; have qo2 := h.o2; go_simp⟩) hSb (fun hS => ?_)
  simp only [List.getElem_toArray, List.getElem_cons_zero, List.getElem_cons_succ, Act.put, List.setIfInBounds_toArray, List.set_cons_zero, List.set_cons_succ]
  clear hSb
  refine till_take (i := 2) (v := .pointer (some ⟨gx, 3, none⟩)) rfl (by kernel_rfl) (by kernel_rfl) (by kernel_rfl) (fun _ _ _ h => h) (fun L w => Iff.rfl) (Or.inl ⟨by rfl, fun w => by go_simp⟩) hS (fun hSb => ?_)
  simp only [List.getElem_toArray, List.getElem_cons_zero, List.getElem_cons_succ, Act.put, List.setIfInBounds_toArray, List.set_cons_zero, List.set_cons_succ]
  clear hS
  refine till_read (i := 3) (c := 10) (v := x1) (T := fun W => Ov W gx s1 s2 s3 x1 x2 fu) rfl rfl (by kernel_rfl) (by kernel_rfl) (by kernel_rfl) (by kernel_rfl) (by kernel_rfl) (fun _ _ _ h => h) (fun L w => Iff.rfl) (fun L w h1 h2 => h2) (Or.inl ⟨by rfl, fun w h => by have qo3 := h.o3; go_simp⟩) hSb (fun hS => ?_)
  simp only [List.getElem_toArray, List.getElem_cons_zero, List.getElem_cons_succ, Act.put, List.setIfInBounds_toArray, List.set_cons_zero, List.set_cons_succ]
  clear hSb
  refine till_take (i := 4) (v := .pointer (some ⟨gx, 4, none⟩)) rfl (by kernel_rfl) (by kernel_rfl) (by kernel_rfl) (fun _ _ _ h => h) (fun L w => Iff.rfl) (Or.inl ⟨by rfl, fun w => by go_simp⟩) hS (fun hSb => ?_)
  simp only [List.getElem_toArray, List.getElem_cons_zero, List.getElem_cons_succ, Act.put, List.setIfInBounds_toArray, List.set_cons_zero, List.set_cons_succ]
  clear hS
  refine till_read (i := 5) (c := 11) (v := x2) (T := fun W => Ov W gx s1 s2 s3 x1 x2 fu) rfl rfl (by kernel_rfl) (by kernel_rfl) (by kernel_rfl) (by kernel_rfl) (by kernel_rfl) (fun _ _ _ h => h) (fun L w => Iff.rfl) (fun L w h1 h2 => h2) (Or.inl ⟨by rfl, fun w h => by have qo4 := h.o4; go_simp⟩) hSb (fun hS => ?_)
  simp only [List.getElem_toArray, List.getElem_cons_zero, List.getElem_cons_succ, Act.put, List.setIfInBounds_toArray, List.set_cons_zero, List.set_cons_succ]
  clear hSb
  refine till_take (i := 6) (v := .pointer (some ⟨gx, 5, none⟩)) rfl (by kernel_rfl) (by kernel_rfl) (by kernel_rfl) (fun _ _ _ h => h) (fun L w => Iff.rfl) (Or.inl ⟨by rfl, fun w => by go_simp⟩) hS (fun hSb => ?_)
  simp only [List.getElem_toArray, List.getElem_cons_zero, List.getElem_cons_succ, Act.put, List.setIfInBounds_toArray, List.set_cons_zero, List.set_cons_succ]
  clear hS
  refine till_read (i := 7) (c := 12) (v := .bool fu) (T := fun W => Ov W gx s1 s2 s3 x1 x2 fu) rfl rfl (by kernel_rfl) (by kernel_rfl) (by kernel_rfl) (by kernel_rfl) (by kernel_rfl) (fun _ _ _ h => h) (fun L w => Iff.rfl) (fun L w h1 h2 => h2) (Or.inl ⟨by rfl, fun w h => by have qo5 := h.o5; go_simp⟩) hSb (fun hS => ?_)
  simp only [List.getElem_toArray, List.getElem_cons_zero, List.getElem_cons_succ, Act.put, List.setIfInBounds_toArray, List.set_cons_zero, List.set_cons_succ]
  clear hSb
  refine till_one (i := 8) (by kernel_rfl) rfl (fun K hK => ?_)
  simp only [List.getElem_toArray, List.getElem_cons_zero, List.getElem_cons_succ]
  rw [if_pos (by rfl)]
  go_simp
  refine hK.out _ _ (hS.below (alloc1 _ _)) (fun hSb => ?_)
  clear hK K
  try simp only [List.getElem_toArray, List.getElem_cons_zero, List.getElem_cons_succ, Act.put, List.setIfInBounds_toArray, List.set_cons_zero, List.set_cons_succ]
  clear hS
  refine till_one (i := 9) (by kernel_rfl) rfl (fun K hK => ?_)
  simp only [List.getElem_toArray, List.getElem_cons_zero, List.getElem_cons_succ]
  rw [if_pos (by rfl)]
  go_simp
  refine hK.out _ _ (O0.out.below (alloc1 _ _)) (fun hS => ?_)
  clear hK K
  try simp only [List.getElem_toArray, List.getElem_cons_zero, List.getElem_cons_succ, Act.put, List.setIfInBounds_toArray, List.set_cons_zero, List.set_cons_succ]
  clear hSb
  refine till_one (i := 10) (by kernel_rfl) rfl (fun K hK => ?_)
  simp only [List.getElem_toArray, List.getElem_cons_zero, List.getElem_cons_succ]
  rw [if_pos (by rfl)]
  go_simp
  refine hK.out _ _ (hS) (fun hSb => ?_)
  clear hK K
  try simp only [List.getElem_toArray, List.getElem_cons_zero, List.getElem_cons_succ, Act.put, List.setIfInBounds_toArray, List.set_cons_zero, List.set_cons_succ]
  clear hS
  refine till_one (i := 11) (by kernel_rfl) rfl (fun K hK => ?_)
  simp only [List.getElem_toArray, List.getElem_cons_zero, List.getElem_cons_succ]
  rw [if_pos (by rfl)]
  go_simp
  refine hK.out _ _ (hSb) (fun hS => ?_)
  clear hK K
  try simp only [List.getElem_toArray, List.getElem_cons_zero, List.getElem_cons_succ, Act.put, List.setIfInBounds_toArray, List.set_cons_zero, List.set_cons_succ]
  clear hSb
  refine till_one (i := 12) (by kernel_rfl) rfl (fun K hK => ?_)
  simp only [List.getElem_toArray, List.getElem_cons_zero, List.getElem_cons_succ]
  rw [if_pos (by rfl)]
  go_simp
  refine hK.out _ _ (hS) (fun hSb => ?_)
  clear hK K
  try simp only [List.getElem_toArray, List.getElem_cons_zero, List.getElem_cons_succ, Act.put, List.setIfInBounds_toArray, List.set_cons_zero, List.set_cons_succ]
  clear hS
  refine till_done (by kernel_rfl) ?_ _
  clear hSb
  rw [HV.out, Hgi.out, ← Hx1.out, ← Hx2.out]
  go_upto_region 5 with (first
    | (go_at_call 8; refine (alive_n EV).mono ?_; rintro e w1 ⟨rfl, H1⟩
       have V1 : Hid (Env w1 M E) := EV.out.below H1.out)
    | (go_at_call 9; refine (shnew_n 2 _ nd).mono ?_; rintro e w2 ⟨g, d, m, rfl, H2⟩
       have FF2 : Hid (Sf w1 w2 M E g d m ((2 : Nat) : Int) false (fun _ => none) 0) := ⟨V1.out, H2.out.2.2.2.2.2.1, H2.out.1, H2.out.2.1.dw, H2.out.2.2.2.2.2.2, H2.out.2.2.1, H2.out.2.2.2.1, H2.out.2.2.2.2.1⟩
       have b2 : Hid (Below V.heap.size V w2) := H1.out.trans (H2.out.2.2.2.2.2.1.mono H1.out.size)
       have i0 : w2.cell? ⟨gi, 0, none⟩ = some (.int .i64 (s1 : Int)) := (b2.out.cell (p := ⟨gi, 0, none⟩) (cell_lt v0.out)).trans v0.out
       have i1 : w2.cell? ⟨gi, 1, none⟩ = some (.int .i64 (s2 : Int)) := (b2.out.cell (p := ⟨gi, 1, none⟩) (cell_lt v1.out)).trans v1.out
       have i2 : w2.cell? ⟨gi, 2, none⟩ = some (.int .i64 (s3 : Int)) := (b2.out.cell (p := ⟨gi, 2, none⟩) (cell_lt v2.out)).trans v2.out
       have B2 : Hid (Below w.heap.size w w2) := bV.out.trans (b2.out.mono bV.out.size)))
  have GL : Hid (gi < w1.heap.size) := by have h1 := cell_lt v0.out; have h2 := H1.out.size; show _ < _; omega
  have y0 : Hid (w1.cell? ⟨gi, 0, none⟩ = some (.int .i64 (s1 : Int))) := (H1.out.cell (p := ⟨gi, 0, none⟩) (cell_lt v0.out)).trans v0.out
  have y1 : Hid (w1.cell? ⟨gi, 1, none⟩ = some (.int .i64 (s2 : Int))) := (H1.out.cell (p := ⟨gi, 1, none⟩) (cell_lt v1.out)).trans v1.out
  have y2 : Hid (w1.cell? ⟨gi, 2, none⟩ = some (.int .i64 (s3 : Int))) := (H1.out.cell (p := ⟨gi, 2, none⟩) (cell_lt v2.out)).trans v2.out
  have M1 : Hid (Mxl w1) := (hM.out.below bV.out).below H1.out
  have DM : Hid ((w1.heap.size ≤ d ∧ d < w2.heap.size) ∧ w1.heap.size ≤ m ∧ m < w2.heap.size) := ⟨⟨FF2.out.ge.2.1, FF2.out.dv.lt.1⟩, FF2.out.ge.2.2, FF2.out.dv.lt.2⟩
  have T1 : Hid (Sln w2 p1 n1 l1) := S1.out.below B2.out
  have T2 : Hid (Sln w2 p2 n2 l2) := S2.out.below B2.out
  have W1 : Hid (w.heap.size ≤ w1.heap.size) := by have h1 := bV.out.size; have h2 := H1.out.size; show _ ≤ _; omega
  have BW : Hid (Below w.heap.size w w1) := bV.out.trans (H1.out.mono bV.out.size)
  go_upto_region 9 with (first
    | (go_at_call 14; refine (goodId_n s1 s2 s3 _).mono ?_; rintro e w3 ⟨rfl, H3⟩; rw [hg.out]
       have FF3 : Hid (Sf w1 w3 M E g d m ((2 : Nat) : Int) false (fun _ => none) 0) := FF2.out.below H3.out
       have U1 : Hid (Sln w3 p1 n1 l1) := T1.out.below H3.out
       have U2 : Hid (Sln w3 p2 n2 l2) := T2.out.below H3.out
       clear i0 i1 i2
       have j0 : w3.cell? ⟨gi, 0, none⟩ = some (.int .i64 (s1 : Int)) := (FF3.out.bel.cell (p := ⟨gi, 0, none⟩) GL.out).trans y0.out
       have j1 : w3.cell? ⟨gi, 1, none⟩ = some (.int .i64 (s2 : Int)) := (FF3.out.bel.cell (p := ⟨gi, 1, none⟩) GL.out).trans y1.out
       have j2 : w3.cell? ⟨gi, 2, none⟩ = some (.int .i64 (s3 : Int)) := (FF3.out.bel.cell (p := ⟨gi, 2, none⟩) GL.out).trans y2.out
       clear T1 T2)
    | (go_at_call 15; refine (refPut_n s1 s2 s3 2 n1 n1 k1 p1 l1 U1 c1 q1 OK1 h1).mono ?_; rintro e w4 ⟨af1, N1, cf1, rfl, H4⟩
       rw [HF1.out] at H4
       have FF4 : Hid (Sf w1 w4 M E g d m ((2 : Nat) : Int) false (fun _ => none) 0) := FF3.out.below H4.out.2.2
       have A4 : Hid (Sln w4 af1 N1 F1) := H4.out.1.sln (by have := H4.out.2.1; omega)
       have U4 : Hid (Sln w4 p2 n2 l2) := U2.out.below H4.out.2.2
       clear j0 j1 j2 U1
       have j0 : w4.cell? ⟨gi, 0, none⟩ = some (.int .i64 (s1 : Int)) := (FF4.out.bel.cell (p := ⟨gi, 0, none⟩) GL.out).trans y0.out
       have j1 : w4.cell? ⟨gi, 1, none⟩ = some (.int .i64 (s2 : Int)) := (FF4.out.bel.cell (p := ⟨gi, 1, none⟩) GL.out).trans y1.out
       have j2 : w4.cell? ⟨gi, 2, none⟩ = some (.int .i64 (s3 : Int)) := (FF4.out.bel.cell (p := ⟨gi, 2, none⟩) GL.out).trans y2.out
       clear U2)
    | (go_at_call 15; refine (refPut_n s1 s2 s3 2 n2 n2 k2 p2 l2 U4 c2 q2 OK2 h2).mono ?_; rintro e w5 ⟨af2, N2, cf2, rfl, H5⟩
       rw [HF2.out] at H5))
  have FF5 : Hid (Sf w1 w5 M E g d m ((2 : Nat) : Int) false (fun _ => none) 0) := FF4.out.below H5.out.2.2
  have A5 : Hid (Sln w5 af1 N1 F1) := A4.out.below H5.out.2.2
  have C5 : Hid (Sln w5 af2 N2 F2) := H5.out.1.sln (by have := H5.out.2.1; omega)
  have Z1 : Hid (af1 = none → cf1 = 0) := H4.out.1.cap0
  have Z2 : Hid (af2 = none → cf2 = 0) := H5.out.1.cap0
  have e1 : N1 ≤ cf1 := H4.out.1.cap
  have e2 : N2 ≤ cf2 := H5.out.1.cap
  have N1b : Hid (N1 ≤ 4000) := H4.out.2.1
  have N2b : Hid (N2 ≤ 4000) := H5.out.2.1
  have P1 : Hid (∀ q, blkOf af1 = some q → q ≠ d ∧ q ≠ m) := fun q hq => by
    have z1 := H4.out.1.ge q hq
    have z2 := DM.out
    have z3 := H3.out.size
    omega
  have P2 : Hid (∀ q, blkOf af2 = some q → q ≠ d ∧ q ≠ m) := fun q hq => by
    have z1 := H5.out.1.ge q hq
    have z2 := DM.out
    have z3 := H3.out.size
    have z4 := H4.out.2.2.size
    omega
  have K0 : Hid (0 < 512) := by show 0 < 512; omega
  have K1 : Hid (1 < 512) := by show 1 < 512; omega
  obtain ⟨st, HT⟩ : ∃ st, Hid (nmS 116 s1 s2 s3 = st) := ⟨_, rfl⟩
  obtain ⟨fi, HI⟩ : ∃ fi, Hid (nmS 98 s1 s2 s3 = fi) := ⟨_, rfl⟩
  obtain ⟨f1, Hf1⟩ : ∃ f1 : Fl, Hid ((⟨spell F1, spell F1, true⟩ : Fl) = f1) := ⟨_, rfl⟩
  obtain ⟨f2, Hf2⟩ : ∃ f2 : Fl, Hid ((⟨spell F2, spell F2, true⟩ : Fl) = f2) := ⟨_, rfl⟩
  have fb1 : Hid (bytesOf f1.b = F1 ∧ f1.b.size ≤ 140737488352256 ∧ f1.h = true ∧ cr (some f1) = some f1) := by
    rw [← Hf1.out]
    have h3 : bytesOf (spell F1) = F1 := bytesOf_spell A4.out.lt
    have h4 := bytesOf_length (spell F1)
    rw [h3, ← A4.out.len] at h4
    exact ⟨h3, by show (spell F1).size ≤ _; have := N1b.out; omega, rfl, rfl⟩
  have fb2 : Hid (bytesOf f2.b = F2 ∧ f2.b.size ≤ 140737488352256 ∧ f2.h = true ∧ cr (some f2) = some f2) := by
    rw [← Hf2.out]
    have h3 : bytesOf (spell F2) = F2 := bytesOf_spell C5.out.lt
    have h4 := bytesOf_length (spell F2)
    rw [h3, ← C5.out.len] at h4
    exact ⟨h3, by show (spell F2).size ≤ _; have := N2b.out; omega, rfl, rfl⟩
  clear j0 j1 j2 H3 H2 H4 H5 HF1 HF2
  go_upto_region 12 with (first
    | (go_at_call 16; refine (put_v FF5 K0 A5 Z1 e1 P1 G10 G11).mono ?_; rintro e w6 ⟨rfl, H6⟩
       rw [HT.out, HI.out, Hf1.out] at H6
       have FF6 : Hid (Sf w1 w6 M E g d m ((2 : Nat) : Int) false (upd (upd (fun _ => none) st none) fi (some f1)) 1) := H6.out.1
       have L6 : Hid (Shl w6 g ((2 : Nat) : Int) d) := FF6.out.shl
       have D6 : Hid (Dw w6 d m (upd (upd (fun _ => none) st none) fi (some f1)) 1 false) := FF6.out.dv
       have A6 : Hid (Sln w6 af1 N1 F1) := A5.out.ch H6.out.2 P1.out
       have C6 : Hid (Sln w6 af2 N2 F2) := C5.out.ch H6.out.2 P2.out
       clear H6)
    | (go_at_call 17; refine (drive_n L6).mono ?_; rintro e w0 ⟨rfl, h00⟩; rw [h00]; clear h00)
    | (go_at_call 18; refine (fill_w D6 fu).mono ?_; rintro e w7 ⟨rfl, H7⟩
       have FF7 : Hid (Sf w1 w7 M E g d m ((2 : Nat) : Int) fu (upd (upd (fun _ => none) st none) fi (some f1)) 1) := FF6.out.ch H7.out.2 H7.out.1
       have A7 : Hid (Sln w7 af1 N1 F1) := A6.out.ch H7.out.2 P1.out
       have C7 : Hid (Sln w7 af2 N2 F2) := C6.out.ch H7.out.2 P2.out
       clear H7))
  clear A5 C5 A6 C6 L6 D6 FF5 FF6
  have hfu := Hfu.out
  subst hfu
  go_upto_region 13 with (first
    | (go_at_call 16; refine (put_full FF7 C7 Z2 e2 G20 G21).mono ?_; rintro e w8 ⟨rfl, H8⟩
       have FF8 : Hid (Sf w1 w8 M E g d m ((2 : Nat) : Int) true (upd (upd (fun _ => none) st none) fi (some f1)) 1) := FF7.out.below H8.out
       have A8 : Hid (Sln w8 af1 N1 F1) := A7.out.below H8.out
       have L8 : Hid (Shl w8 g ((2 : Nat) : Int) d) := FF8.out.shl
       have D8 : Hid (Dw w8 d m (upd (upd (fun _ => none) st none) fi (some f1)) 1 true) := FF8.out.dv
       clear H8))
  have ONE : Hid (∀ t, (cr ((upd (upd (fun _ => none) st none) fi (some f1)) t)).isSome = true ↔ t = fi) := fun t => one_put (fun t h3 h4 => rfl) fb1.out.2.2.1 t
  have ALL : Hid (AllB (fun t => cr ((upd (upd (fun _ => none) st none) fi (some f1)) t))) := fun t ht => ⟨((s1 : Int), (s2 : Int), (s3 : Int)), GI.out, by rw [(ONE.out t).1 ht]; exact HI.out.symm⟩
  have HV9 : Hid ((fun t => cr ((upd (upd (fun _ => none) st none) fi (some f1)) t)) (nmS 98 s1 s2 s3) = some f1) := by
    show cr _ = _
    rw [HI.out, upd_same]
    exact fb1.out.2.2.2
  have GB0 : Hid ((getS (bytesOf f1.b)).2.2 = 0) := by rw [fb1.out.1]; exact G10
  have GB1 : Hid ((getS (bytesOf f1.b)).1 = [s1, s2, s3, 2, n1]) := by rw [fb1.out.1]; exact G11
  have BS : f1.b.size ≤ 140737488352256 := fb1.out.2.1
  go_upto_region 20 with (first
    | (go_at_call 17; refine (drive_n L8).mono ?_; rintro e w0 ⟨rfl, h00⟩; rw [h00]; clear h00)
    | (go_at_call 19; refine (crash_w D8).mono ?_; rintro e w9 ⟨rfl, H9⟩
       have FF9 : Hid (Sf w1 w9 M E g d m ((2 : Nat) : Int) true (fun t => cr ((upd (upd (fun _ => none) st none) fi (some f1)) t)) 512) := FF8.out.ch H9.out.2 H9.out.1
       have A9 : Hid (Sln w9 af1 N1 F1) := A8.out.ch H9.out.2 P1.out
       have j0 : w9.cell? ⟨gi, 0, none⟩ = some (.int .i64 (s1 : Int)) := (FF9.out.bel.cell (p := ⟨gi, 0, none⟩) GL.out).trans y0.out
       have j1 : w9.cell? ⟨gi, 1, none⟩ = some (.int .i64 (s2 : Int)) := (FF9.out.bel.cell (p := ⟨gi, 1, none⟩) GL.out).trans y1.out
       have j2 : w9.cell? ⟨gi, 2, none⟩ = some (.int .i64 (s3 : Int)) := (FF9.out.bel.cell (p := ⟨gi, 2, none⟩) GL.out).trans y2.out
       clear H9)
    | (go_at_call 20; refine (get_v FF9 GI HV9 BS GB0 GB1).mono ?_; rintro e wa ⟨q, nq, cq, rfl, Ha⟩
       have Sa : Hid (Sln wa (some ⟨q, 0, none⟩) nq F1) := by have h := Ha.out.1; rw [fb1.out.1] at h; exact h
       have Aa : Hid (Sln wa af1 N1 F1) := A9.out.below Ha.out.2.2.2
       have FFa : Hid (Sf w1 wa M E g d m ((2 : Nat) : Int) true (fun t => cr ((upd (upd (fun _ => none) st none) fi (some f1)) t)) 512) := FF9.out.below Ha.out.2.2.2
       have Ma : Hid (Mxl wa) := M1.out.below FFa.out.bel
       clear Ha j0 j1 j2)
    | (go_at_call 21; refine (sweep_v FFa Ma ALL).mono ?_; rintro e wb ⟨rfl, Hb⟩
       have Sb : Hid (Sln wb (some ⟨q, 0, none⟩) nq F1) := Sa.out.below Hb.out
       have Ab : Hid (Sln wb af1 N1 F1) := Aa.out.below Hb.out
       have FFb : Hid (Sf w1 wb M E g d m ((2 : Nat) : Int) true (fun t => cr ((upd (upd (fun _ => none) st none) fi (some f1)) t)) 512) := FFa.out.below Hb.out
       have Mb : Hid (Mxl wb) := Ma.out.below Hb.out
       clear Hb)
    | (go_at_call 22; refine (list_v FFb Mb ALL).mono ?_; rintro e wc ⟨al, nl, cl, l, rfl, Hc⟩))
  have Sc : Hid (Sln wc (some ⟨q, 0, none⟩) nq F1) := Sb.out.below Hc.out.2.2.2
  have Ac : Hid (Sln wc af1 N1 F1) := Ab.out.below Hc.out.2.2.2
  have FFc : Hid (Sf w1 wc M E g d m ((2 : Nat) : Int) true (fun t => cr ((upd (upd (fun _ => none) st none) fi (some f1)) t)) 512) := FFb.out.below Hc.out.2.2.2
  have EL : l = [((s1 : Int), (s2 : Int), (s3 : Int))] := ids_one Hc.out.2.1 GI.out (fun t => by rw [ONE.out t]; show t = fi ↔ t = nmS 98 s1 s2 s3; rw [HI.out])
  obtain rfl : nl = 1 := by rw [Hc.out.1.len, EL]; rfl
  obtain ⟨gl, rfl, g0, g1, g2⟩ := Hc.out.1.at_ (i := 0) (by omega)
  rw [EL] at g0 g1 g2
  have L0 : ∀ j, (wc.drewN j).cell? ⟨gl, 0, none⟩ = some (.int .i64 (s1 : Int)) := fun j => by rw [cell_drewN]; exact g0
  have L1 : ∀ j, (wc.drewN j).cell? ⟨gl, 1, none⟩ = some (.int .i64 (s2 : Int)) := fun j => by rw [cell_drewN]; exact g1
  have L2 : ∀ j, (wc.drewN j).cell? ⟨gl, 2, none⟩ = some (.int .i64 (s3 : Int)) := fun j => by rw [cell_drewN]; exact g2
  have I0 : ∀ j, (wc.drewN j).cell? ⟨gi, 0, none⟩ = some (.int .i64 (s1 : Int)) := fun j => by rw [cell_drewN]; exact (FFc.out.bel.cell (p := ⟨gi, 0, none⟩) GL.out).trans y0.out
  have I1 : ∀ j, (wc.drewN j).cell? ⟨gi, 1, none⟩ = some (.int .i64 (s2 : Int)) := fun j => by rw [cell_drewN]; exact (FFc.out.bel.cell (p := ⟨gi, 1, none⟩) GL.out).trans y1.out
  have I2 : ∀ j, (wc.drewN j).cell? ⟨gi, 2, none⟩ = some (.int .i64 (s3 : Int)) := fun j => by rw [cell_drewN]; exact (FFc.out.bel.cell (p := ⟨gi, 2, none⟩) GL.out).trans y2.out
  have CVg : ∀ j, (convert 33 9 (.slice (some ⟨q, 0, none⟩) nq cq)).run Tryz.prog (wc.drewN j) = .ok (.string (spell F1)) (wc.drewN j) := fun j => conv_n (Sc.out.drewN j)
  have CVf : ∀ j, (convert 33 9 (.slice af1 N1 cf1)).run Tryz.prog (wc.drewN j) = .ok (.string (spell F1)) (wc.drewN j) := fun j => conv_n (Ac.out.drewN j)
  have EQ := eq_id (s1 : Int) (s2 : Int) (s3 : Int)
  have ES := fun W => eql_same W (E 1)
  have GE : ∀ j, (wc.drewN j).cell? ⟨1, 0, none⟩ = some (.iface 273 (.pointer (some (E 1)))) := fun j => by rw [cell_drewN]; exact FFc.out.here.sent.c 1 ⟨by have := FFc.out.env.big; omega, fun _ => by omega⟩
  have FB : Hid (Below w.heap.size w wc) := BW.out.trans (FFc.out.bel.mono W1.out)
  clear g0 g1 g2
  go_quiet (fail)
  clear L0 L1 L2 I0 I1 I2 CVg CVf EQ ES GE
  go_wp2
  go_ret
  exact ⟨by first | rfl | simp, below_drewN FB.out _⟩
theorem cuts_n {w : World} {M : Nat} {E : Nat → Addr} (hE : Hid (Env w M E)) (hM : Hid (Mxl w)) (a b c : Int) {p1 p2 : Option Addr} {n1 k1 n2 k2 : Nat} {l1 l2 : List Nat} (fu : Bool) (S1 : Hid (Sln w p1 n1 l1)) (c1 : Hid (p1 = none → k1 = 0)) (q1 : n1 ≤ k1) (S2 : Hid (Sln w p2 n2 l2)) (c2 : Hid (p2 = none → k2 = 0)) (q2 : n2 ≤ k2) :
    Calls Tryz.prog 5 #[.agg #[.int .i64 (a : Int), .int .i64 (b : Int), .int .i64 (c : Int), .slice p1 n1 k1, .slice p2 n2 k2, .bool fu]] w fun e w' => e = .returned (.bool true) ∧ Hid (Below w.heap.size w w') := by
  cases hg : gid a b c with
  | false => exact cuts_bad hE a b c p1 p2 n1 k1 n2 k2 fu hg
  | true =>
    by_cases h1 : n1 ≤ 1024
    · by_cases h2 : n2 ≤ 1024
      · have h := of_decide_eq_true hg
        obtain ⟨s1, rfl⟩ := Int.eq_ofNat_of_zero_le h.1.1
        obtain ⟨s2, rfl⟩ := Int.eq_ofNat_of_zero_le h.2.1.1
        obtain ⟨s3, rfl⟩ := Int.eq_ofNat_of_zero_le h.2.2.1
        cases fu with
        | false => exact cuts_ok hE hM s1 s2 s3 S1 c1 q1 S2 c2 q2 hg h1 h2
        | true => exact cuts_full hE hM s1 s2 s3 S1 c1 q1 S2 c2 q2 hg h1 h2
      · exact cuts_new hE a b c p1 p2 n1 k1 n2 k2 fu hg h1 (by omega)
    · exact cuts_old hE a b c p1 p2 n1 k1 n2 k2 fu hg (by omega)
end Go.Proofs.YtkdgakcmhnadfaaGreatDoor
