/- BallotNumbers' walk. -/
import Derived.Test.YtdfnjcjpblkmcaaDoorAm
namespace Go.Proofs.YtdfnjcjpblkmcaaDoor
open Go.ChangeShapes Go.WideShapes Go.ChangeAt Go.RowKit
set_option maxRecDepth 20000
set_option linter.unusedVariables false
set_option linter.unusedSimpArgs false
structure Nq (W : World) (g : Nat) (aR aN bR bN cR cN n : Int) : Prop where
  c0 : W.cell? ⟨g, 0, none⟩ = some (.int .i64 aR)
  c1 : W.cell? ⟨g, 1, none⟩ = some (.int .i64 aN)
  c2 : W.cell? ⟨g, 2, none⟩ = some (.int .i64 bR)
  c3 : W.cell? ⟨g, 3, none⟩ = some (.int .i64 bN)
  c4 : W.cell? ⟨g, 4, none⟩ = some (.int .i64 cR)
  c5 : W.cell? ⟨g, 5, none⟩ = some (.int .i64 cN)
  c6 : W.cell? ⟨g, 6, none⟩ = some (.int .i64 n)
theorem Nq.blk {W W' : World} {g : Nat} {aR aN bR bN cR cN n : Int} (h : Nq W g aR aN bR bN cR cN n) (hb : W'.heap[g]? = W.heap[g]?) : Nq W' g aR aN bR bN cR cN n :=
  ⟨(World.cell?_of_block (a := ⟨g, 0, none⟩) hb).trans h.c0, (World.cell?_of_block (a := ⟨g, 1, none⟩) hb).trans h.c1, (World.cell?_of_block (a := ⟨g, 2, none⟩) hb).trans h.c2, (World.cell?_of_block (a := ⟨g, 3, none⟩) hb).trans h.c3, (World.cell?_of_block (a := ⟨g, 4, none⟩) hb).trans h.c4, (World.cell?_of_block (a := ⟨g, 5, none⟩) hb).trans h.c5, (World.cell?_of_block (a := ⟨g, 6, none⟩) hb).trans h.c6⟩
theorem Nq.below {W W' : World} {g : Nat} {aR aN bR bN cR cN n : Int} (h : Nq W g aR aN bR bN cR cN n) (hb : Below W.heap.size W W') : Nq W' g aR aN bR bN cR cN n := h.blk (hb.block g (cell_lt h.c0))
structure Tq (W : World) (p q r : Nat) (aR aN bR bN cR cN : Int) : Prop where
  kp : W.heap[p]? = some (.cells #[.int .i64 aR, .int .i64 aN] 34 (0, 0))
  kq : W.heap[q]? = some (.cells #[.int .i64 bR, .int .i64 bN] 34 (0, 0))
  kr : W.heap[r]? = some (.cells #[.int .i64 cR, .int .i64 cN] 34 (0, 0))
section
variable {W W' : World} {p q r : Nat} {aR aN bR bN cR cN : Int}
theorem Tq.p0 (h : Tq W p q r aR aN bR bN cR cN) : W.cell? ⟨p, 0, none⟩ = some (.int .i64 aR) := by simp [World.cell?, h.kp]
theorem Tq.p1 (h : Tq W p q r aR aN bR bN cR cN) : W.cell? ⟨p, 1, none⟩ = some (.int .i64 aN) := by simp [World.cell?, h.kp]
theorem Tq.q0 (h : Tq W p q r aR aN bR bN cR cN) : W.cell? ⟨q, 0, none⟩ = some (.int .i64 bR) := by simp [World.cell?, h.kq]
theorem Tq.q1 (h : Tq W p q r aR aN bR bN cR cN) : W.cell? ⟨q, 1, none⟩ = some (.int .i64 bN) := by simp [World.cell?, h.kq]
theorem Tq.r0 (h : Tq W p q r aR aN bR bN cR cN) : W.cell? ⟨r, 0, none⟩ = some (.int .i64 cR) := by simp [World.cell?, h.kr]
theorem Tq.r1 (h : Tq W p q r aR aN bR bN cR cN) : W.cell? ⟨r, 1, none⟩ = some (.int .i64 cN) := by simp [World.cell?, h.kr]
theorem Tq.below (h : Tq W p q r aR aN bR bN cR cN) (hb : Below W.heap.size W W') : Tq W' p q r aR aN bR bN cR cN :=
  ⟨(hb.block p (Array.getElem?_eq_some_iff.1 h.kp).1).trans h.kp, (hb.block q (Array.getElem?_eq_some_iff.1 h.kq).1).trans h.kq, (hb.block r (Array.getElem?_eq_some_iff.1 h.kr).1).trans h.kr⟩
end
abbrev nums (aR aN bR bN cR cN n : Int) : Value := .agg #[.int .i64 aR, .int .i64 aN, .int .i64 bR, .int .i64 bN, .int .i64 cR, .int .i64 cN, .int .i64 n]
set_option maxHeartbeats 4000000 in
theorem numbers_eq {M : Nat} {E : Nat → Addr} {w : World} {aR aN bR bN cR cN nn : Int} (hE : Hid (Sent w M E)) (hM : 2 ≤ M) (hn : nn ≤ 9223372036854775807) (h1 : aR = bR) (h2 : aN = bN) :
    Calls Tryd.prog 4 #[nums aR aN bR bN cR cN nn] w fun e w' => e = .returned (.bool true) ∧ Hid (Below w.heap.size w w') := by
  subst h1 h2
  have EQ : ∀ w, (Op.equalIn 10000 34 (bal aR aN) (bal aR aN)).run Tryd.prog w = .ok true w := fun w => by rw [eqBal, decide_eq_true ⟨rfl, rfl⟩]
  have AB : Hid (abv aR aN aR aN = false) := by show _ = _; exact decide_eq_false (by omega)
  have AA : Hid (abv aR aN aR aN = false) := by show _ = _; exact decide_eq_false (by omega)
  have HALF : (nn < 1 ∧ Hid (∀ w, Calls Tryd.prog 13 #[.int .i64 nn] w fun e w' => e = .returned (.int .i64 0) ∧ w' = w)) ∨ (∃ hh : Int, ¬ (nn < 1) ∧ nn - hh < hh ∧ hh - 1 ≤ nn - (hh - 1) ∧ 1 ≤ hh ∧ hh ≤ 4611686018427387904 ∧ Hid (∀ w, Calls Tryd.prog 13 #[.int .i64 nn] w fun e w' => e = .returned (.int .i64 hh) ∧ w' = w)) := by
    by_cases h : nn < 1
    · exact .inl ⟨h, fun w => half_no h w⟩
    · exact .inr ⟨nn / 2 + 1, h, by omega, by omega, by omega, by omega, fun w => half_n (by omega) hn w⟩
  obtain ⟨gx, Hgx⟩ : ∃ gx, Hid (w.heap.size = gx) := ⟨_, rfl⟩
  obtain ⟨w1, Hw1⟩ : ∃ w1, Hid ((w.alloc (.cells #[.int .i64 aR, .int .i64 aN, .int .i64 aR, .int .i64 aN, .int .i64 cR, .int .i64 cN, .int .i64 nn] 43)).drew = w1) := ⟨_, rfl⟩
  have LW : Hid (Below w.heap.size w w1) := by rw [← Hw1.out]; exact (alloc1 w _).drew
  have N1 : Nq w1 gx aR aN aR aN cR cN nn := by rw [← Hw1.out, ← Hgx.out]; exact ⟨by simp, by simp, by simp, by simp, by simp, by simp, by simp⟩
  go_enter Tryd.func4, Tryd.ntmps4
  go_upto_region 1 with (fail)
  refine wp_region_till (S := fun L W => Nq W gx aR aN aR aN cR cN nn) (by kernel_rfl) (by rw [Hw1.out]; exact N1) (fun hS => ?_)
  rw [Hw1.out] at hS ⊢
  rw [Hgx.out]
  clear N1
  refine till_take (i := 0) (v := .pointer (some ⟨gx, 0, none⟩)) rfl (by kernel_rfl) (by kernel_rfl) (by kernel_rfl) (fun _ _ _ h => h) (fun L w => Iff.rfl) (Or.inl ⟨by rfl, fun w => by go_simp⟩) hS (fun hSb => ?_)
  simp only [List.getElem_toArray, List.getElem_cons_zero, List.getElem_cons_succ, Act.put, List.setIfInBounds_toArray, List.set_cons_zero, List.set_cons_succ]
  clear hS
  refine till_read (i := 1) (c := 11) (v := bal aR aN) (T := fun W => Nq W gx aR aN aR aN cR cN nn) rfl rfl (by kernel_rfl) (by kernel_rfl) (by kernel_rfl) (by kernel_rfl) (by kernel_rfl) (fun _ _ _ h => h) (fun L w => Iff.rfl) (fun L w h1 h2 => h2) (Or.inl ⟨by rfl, fun w h => by have q0 := h.c0; have q1 := h.c1; go_simp⟩) hSb (fun hS => ?_)
  simp only [List.getElem_toArray, List.getElem_cons_zero, List.getElem_cons_succ, Act.put, List.setIfInBounds_toArray, List.set_cons_zero, List.set_cons_succ]
  clear hSb
  refine till_take (i := 2) (v := .pointer (some ⟨gx, 2, none⟩)) rfl (by kernel_rfl) (by kernel_rfl) (by kernel_rfl) (fun _ _ _ h => h) (fun L w => Iff.rfl) (Or.inl ⟨by rfl, fun w => by go_simp⟩) hS (fun hSb => ?_)
  simp only [List.getElem_toArray, List.getElem_cons_zero, List.getElem_cons_succ, Act.put, List.setIfInBounds_toArray, List.set_cons_zero, List.set_cons_succ]
  clear hS
  refine till_read (i := 3) (c := 12) (v := bal aR aN) (T := fun W => Nq W gx aR aN aR aN cR cN nn) rfl rfl (by kernel_rfl) (by kernel_rfl) (by kernel_rfl) (by kernel_rfl) (by kernel_rfl) (fun _ _ _ h => h) (fun L w => Iff.rfl) (fun L w h1 h2 => h2) (Or.inl ⟨by rfl, fun w h => by have q0 := h.c2; have q1 := h.c3; go_simp⟩) hSb (fun hS => ?_)
  simp only [List.getElem_toArray, List.getElem_cons_zero, List.getElem_cons_succ, Act.put, List.setIfInBounds_toArray, List.set_cons_zero, List.set_cons_succ]
  clear hSb
  refine till_take (i := 4) (v := .pointer (some ⟨gx, 4, none⟩)) rfl (by kernel_rfl) (by kernel_rfl) (by kernel_rfl) (fun _ _ _ h => h) (fun L w => Iff.rfl) (Or.inl ⟨by rfl, fun w => by go_simp⟩) hS (fun hSb => ?_)
  simp only [List.getElem_toArray, List.getElem_cons_zero, List.getElem_cons_succ, Act.put, List.setIfInBounds_toArray, List.set_cons_zero, List.set_cons_succ]
  clear hS
  refine till_read (i := 5) (c := 13) (v := bal cR cN) (T := fun W => Nq W gx aR aN aR aN cR cN nn) rfl rfl (by kernel_rfl) (by kernel_rfl) (by kernel_rfl) (by kernel_rfl) (by kernel_rfl) (fun _ _ _ h => h) (fun L w => Iff.rfl) (fun L w h1 h2 => h2) (Or.inl ⟨by rfl, fun w h => by have q0 := h.c4; have q1 := h.c5; go_simp⟩) hSb (fun hS => ?_)
  simp only [List.getElem_toArray, List.getElem_cons_zero, List.getElem_cons_succ, Act.put, List.setIfInBounds_toArray, List.set_cons_zero, List.set_cons_succ]
  clear hSb
  refine till_take (i := 6) (v := .pointer (some ⟨gx, 6, none⟩)) rfl (by kernel_rfl) (by kernel_rfl) (by kernel_rfl) (fun _ _ _ h => h) (fun L w => Iff.rfl) (Or.inl ⟨by rfl, fun w => by go_simp⟩) hS (fun hSb => ?_)
  simp only [List.getElem_toArray, List.getElem_cons_zero, List.getElem_cons_succ, Act.put, List.setIfInBounds_toArray, List.set_cons_zero, List.set_cons_succ]
  clear hS
  refine till_read (i := 7) (c := 14) (v := .int .i64 nn) (T := fun W => Nq W gx aR aN aR aN cR cN nn) rfl rfl (by kernel_rfl) (by kernel_rfl) (by kernel_rfl) (by kernel_rfl) (by kernel_rfl) (fun _ _ _ h => h) (fun L w => Iff.rfl) (fun L w h1 h2 => h2) (Or.inl ⟨by rfl, fun w h => by have q0 := h.c6; go_simp⟩) hSb (fun hS => ?_)
  simp only [List.getElem_toArray, List.getElem_cons_zero, List.getElem_cons_succ, Act.put, List.setIfInBounds_toArray, List.set_cons_zero, List.set_cons_succ]
  clear hSb
  refine till_alloc3 (i := 8) (j := 9) (k := 10) (d := 3) (e := 4) (g := 5) rfl rfl rfl rfl rfl rfl rfl rfl rfl rfl rfl rfl (by decide) (by decide) (by decide) (by decide) (by decide) (by decide) (by kernel_rfl) (by kernel_rfl) (by kernel_rfl) (by kernel_rfl) (by kernel_rfl) (by kernel_rfl) (by kernel_rfl) (fun L' => ⟨hS.below (alloc1 _ _), hS.below (alloc2 _ _ _), hS.below (three_zb _).1⟩) (fun p q r hp hq hr hpq hpr hqr => ?_)
  simp only [List.getElem_toArray, List.getElem_cons_zero, List.getElem_cons_succ, Act.put, List.setIfInBounds_toArray, List.set_cons_zero, List.set_cons_succ]
  obtain ⟨W3, HW3⟩ : ∃ W3, Hid ((((w1.alloc zb).alloc zb).alloc zb) = W3) := ⟨_, rfl⟩
  have z3 : ∀ x, w1.heap.size ≤ x → x < w1.heap.size + 3 → W3.heap[x]? = some zb := by rw [← HW3.out]; exact (three_zb w1).2.2
  have B3 : Hid (Below w1.heap.size w1 W3) := by rw [← HW3.out]; exact (three_zb w1).1
  have N3 : Nq W3 gx aR aN aR aN cR cN nn := hS.below B3.out
  have gl : gx < w1.heap.size := cell_lt hS.c0
  have kp := z3 p hp.1 hp.2
  have kq := z3 q hq.1 hq.2
  have kr := z3 r hr.1 hr.2
  obtain ⟨W4, HW4⟩ : ∃ W4, Hid ((W3.setCell ⟨p, 0, none⟩ (.int .i64 aR)).setCell ⟨p, 1, none⟩ (.int .i64 aN) = W4) := ⟨_, rfl⟩
  have C4 : Ch W3 W4 (fun k => k = p) := by rw [← HW4.out]; exact (Ch.set _ p 0 _).trans (Ch.set _ p 1 _)
  have kp4 : W4.heap[p]? = some (.cells #[.int .i64 aR, .int .i64 aN] 34 (0, 0)) := by rw [← HW4.out, set_blk (set_blk kp 0 _) 1 _]; rfl
  have s3 : w1.heap.size + 3 ≤ W3.heap.size := by rw [← HW3.out, (three_zb w1).2.1]; omega
  have kq4 : W4.heap[q]? = some zb := (C4.block q (by omega) (by omega)).trans kq
  have kr4 : W4.heap[r]? = some zb := (C4.block r (by omega) (by omega)).trans kr
  have N4 : Nq W4 gx aR aN aR aN cR cN nn := N3.blk (C4.block gx (by omega) (by omega))
  obtain ⟨W5, HW5⟩ : ∃ W5, Hid ((W4.setCell ⟨q, 0, none⟩ (.int .i64 aR)).setCell ⟨q, 1, none⟩ (.int .i64 aN) = W5) := ⟨_, rfl⟩
  have C5 : Ch W4 W5 (fun k => k = q) := by rw [← HW5.out]; exact (Ch.set _ q 0 _).trans (Ch.set _ q 1 _)
  have kq5 : W5.heap[q]? = some (.cells #[.int .i64 aR, .int .i64 aN] 34 (0, 0)) := by rw [← HW5.out, set_blk (set_blk kq4 0 _) 1 _]; rfl
  have s4 := C4.size
  have kp5 := (C5.block p (by omega) (by omega)).trans kp4
  have kr5 : W5.heap[r]? = some zb := (C5.block r (by omega) (by omega)).trans kr4
  have N5 : Nq W5 gx aR aN aR aN cR cN nn := N4.blk (C5.block gx (by omega) (by omega))
  obtain ⟨W6, HW6⟩ : ∃ W6, Hid ((W5.setCell ⟨r, 0, none⟩ (.int .i64 cR)).setCell ⟨r, 1, none⟩ (.int .i64 cN) = W6) := ⟨_, rfl⟩
  have C6 : Ch W5 W6 (fun k => k = r) := by rw [← HW6.out]; exact (Ch.set _ r 0 _).trans (Ch.set _ r 1 _)
  have kr6 : W6.heap[r]? = some (.cells #[.int .i64 cR, .int .i64 cN] 34 (0, 0)) := by rw [← HW6.out, set_blk (set_blk kr5 0 _) 1 _]; rfl
  have s5 := C5.size
  have kp6 := (C6.block p (by omega) (by omega)).trans kp5
  have kq6 := (C6.block q (by omega) (by omega)).trans kq5
  have N6 : Nq W6 gx aR aN aR aN cR cN nn := N5.blk (C6.block gx (by omega) (by omega))
  have T6 : Hid (Tq W6 p q r aR aN aR aN cR cN) := ⟨kp6, kq6, kr6⟩
  have L6 : Hid (Below w.heap.size w W6) := by
    have b3 := LW.out.trans (B3.out.mono LW.out.size)
    have lw := LW.out.size
    have b4 := b3.trans (C4.toBelow (B := w.heap.size) b3.size (fun k hk e => by omega))
    have b5 := b4.trans (C5.toBelow (B := w.heap.size) b4.size (fun k hk e => by omega))
    exact b5.trans (C6.toBelow (B := w.heap.size) b5.size (fun k hk e => by omega))
  have p0 : W3.cell? ⟨p, 0, none⟩ = some (.int .i64 0) := by simp [World.cell?, kp]
  have p1 : W3.cell? ⟨p, 1, none⟩ = some (.int .i64 0) := by simp [World.cell?, kp]
  have pf : ∀ i, W3.frozen? ⟨p, i, none⟩ = false := fun i => by simp [World.frozen?, kp]
  have q0 : W4.cell? ⟨q, 0, none⟩ = some (.int .i64 0) := by simp [World.cell?, kq4]
  have q1 : W4.cell? ⟨q, 1, none⟩ = some (.int .i64 0) := by simp [World.cell?, kq4]
  have qf : ∀ i, W4.frozen? ⟨q, i, none⟩ = false := fun i => by simp [World.frozen?, kq4]
  have r0 : W5.cell? ⟨r, 0, none⟩ = some (.int .i64 0) := by simp [World.cell?, kr5]
  have r1 : W5.cell? ⟨r, 1, none⟩ = some (.int .i64 0) := by simp [World.cell?, kr5]
  have rf : ∀ i, W5.frozen? ⟨r, i, none⟩ = false := fun i => by simp [World.frozen?, kr5]
  rw [HW3.out]
  clear z3 kp kq kr kp4 kq4 kr4 kp5 kq5 kr5 kp6 kq6 kr6 C4 C5 C6 s3 s4 s5 gl hp hq hr hpq hpr hqr B3
  refine till_one (i := 11) (by kernel_rfl) rfl (fun K hK => ?_)
  simp only [List.getElem_toArray, List.getElem_cons_zero, List.getElem_cons_succ]
  rw [if_pos (by rfl)]
  go_simp
  rw [HW4.out]
  refine hK.out _ _ (N4) (fun hSb => ?_)
  clear hK K
  try simp only [List.getElem_toArray, List.getElem_cons_zero, List.getElem_cons_succ, Act.put, List.setIfInBounds_toArray, List.set_cons_zero, List.set_cons_succ]
  clear hS
  refine till_one (i := 12) (by kernel_rfl) rfl (fun K hK => ?_)
  simp only [List.getElem_toArray, List.getElem_cons_zero, List.getElem_cons_succ]
  rw [if_pos (by rfl)]
  go_simp
  rw [HW5.out]
  refine hK.out _ _ (N5) (fun hS => ?_)
  clear hK K
  try simp only [List.getElem_toArray, List.getElem_cons_zero, List.getElem_cons_succ, Act.put, List.setIfInBounds_toArray, List.set_cons_zero, List.set_cons_succ]
  clear hSb
  refine till_one (i := 13) (by kernel_rfl) rfl (fun K hK => ?_)
  simp only [List.getElem_toArray, List.getElem_cons_zero, List.getElem_cons_succ]
  rw [if_pos (by rfl)]
  go_simp
  rw [HW6.out]
  refine hK.out _ _ (N6) (fun hSb => ?_)
  clear hK K
  try simp only [List.getElem_toArray, List.getElem_cons_zero, List.getElem_cons_succ, Act.put, List.setIfInBounds_toArray, List.set_cons_zero, List.set_cons_succ]
  clear hS
  refine till_one (i := 14) (by kernel_rfl) rfl (fun K hK => ?_)
  simp only [List.getElem_toArray, List.getElem_cons_zero, List.getElem_cons_succ]
  rw [if_pos (by rfl)]
  go_simp
  refine hK.out _ _ (hSb) (fun hS => ?_)
  clear hK K
  try simp only [List.getElem_toArray, List.getElem_cons_zero, List.getElem_cons_succ, Act.put, List.setIfInBounds_toArray, List.set_cons_zero, List.set_cons_succ]
  clear hSb
  refine till_done (by kernel_rfl) ?_ _
  clear hS
  have E6 : Hid (Sent W6 M E) := hE.out.below L6.out
  clear p0 p1 pf q0 q1 qf r0 r1 rf
  go_upto_region 4 with (go_at_call 8; refine (alive_n E6 hM).mono ?_; rintro e w7 ⟨rfl, H7⟩)
  obtain ⟨v0, Hv0⟩ : ∃ v0, Hid (w7.drew = v0) := ⟨_, rfl⟩
  have B7 : Hid (Below W6.heap.size W6 v0) := by rw [← Hv0.out]; exact H7.out.drew
  have T7 : Tq v0 p q r aR aN aR aN cR cN := T6.out.below B7.out
  have L7 : Hid (Below w.heap.size w v0) := L6.out.trans (B7.out.mono L6.out.size)
  refine wp_region_till (S := fun L W => Tq W p q r aR aN aR aN cR cN) (by kernel_rfl) (by rw [Hv0.out]; exact T7) (fun hS => ?_)
  rw [Hv0.out] at hS ⊢
  refine till_read (i := 0) (c := 2) (v := bal aR aN) (T := fun W => Tq W p q r aR aN aR aN cR cN) rfl rfl (by kernel_rfl) (by kernel_rfl) (by kernel_rfl) (by kernel_rfl) (by kernel_rfl) (fun _ _ _ h => h) (fun L w => Iff.rfl) (fun L w h1 h2 => h2) (Or.inl ⟨by rfl, fun w h => by have q0 := h.p0; have q1 := h.p1; go_simp⟩) hS (fun hSb => ?_)
  simp only [List.getElem_toArray, List.getElem_cons_zero, List.getElem_cons_succ, Act.put, List.setIfInBounds_toArray, List.set_cons_zero, List.set_cons_succ]
  clear hS
  refine till_read (i := 1) (c := 2) (v := bal aR aN) (T := fun W => Tq W p q r aR aN aR aN cR cN) rfl rfl (by kernel_rfl) (by kernel_rfl) (by kernel_rfl) (by kernel_rfl) (by kernel_rfl) (fun _ _ _ h => h) (fun L w => Iff.rfl) (fun L w h1 h2 => h2) (Or.inl ⟨by rfl, fun w h => by have q0 := h.q0; have q1 := h.q1; go_simp⟩) hSb (fun hS => ?_)
  simp only [List.getElem_toArray, List.getElem_cons_zero, List.getElem_cons_succ, Act.put, List.setIfInBounds_toArray, List.set_cons_zero, List.set_cons_succ]
  clear hSb
  refine till_read (i := 3) (c := 5) (v := bal aR aN) (T := fun W => Tq W p q r aR aN aR aN cR cN) rfl rfl (by kernel_rfl) (by kernel_rfl) (by kernel_rfl) (by kernel_rfl) (by kernel_rfl) (fun _ _ _ h => h) (fun L w => Iff.rfl) (fun L w h1 h2 => h2) (Or.inl ⟨by rfl, fun w h => by have q0 := h.p0; have q1 := h.p1; go_simp⟩) hS (fun hSb => ?_)
  simp only [List.getElem_toArray, List.getElem_cons_zero, List.getElem_cons_succ, Act.put, List.setIfInBounds_toArray, List.set_cons_zero, List.set_cons_succ]
  clear hS
  refine till_read (i := 4) (c := 5) (v := bal aR aN) (T := fun W => Tq W p q r aR aN aR aN cR cN) rfl rfl (by kernel_rfl) (by kernel_rfl) (by kernel_rfl) (by kernel_rfl) (by kernel_rfl) (fun _ _ _ h => h) (fun L w => Iff.rfl) (fun L w h1 h2 => h2) (Or.inl ⟨by rfl, fun w h => by have q0 := h.q0; have q1 := h.q1; go_simp⟩) hSb (fun hS => ?_)
  simp only [List.getElem_toArray, List.getElem_cons_zero, List.getElem_cons_succ, Act.put, List.setIfInBounds_toArray, List.set_cons_zero, List.set_cons_succ]
  clear hSb
  refine till_one (i := 2) (by kernel_rfl) rfl (fun K hK => ?_)
  simp only [List.getElem_toArray, List.getElem_cons_zero, List.getElem_cons_succ]
  rw [if_pos (by rfl)]
  go_simp
  go_wp2_with (go_at_call 11; refine (above_n aR aN aR aN _).mono ?_; rintro e v1 ⟨rfl, Hv1⟩; rw [AB.out])
  have Zv1 : Tq v1 p q r aR aN aR aN cR cN := hS.below Hv1.out
  refine hK.out _ _ (Zv1) (fun hSb => ?_)
  clear hK K
  try simp only [List.getElem_toArray, List.getElem_cons_zero, List.getElem_cons_succ, Act.put, List.setIfInBounds_toArray, List.set_cons_zero, List.set_cons_succ]
  clear hS
  refine till_one (i := 5) (by kernel_rfl) rfl (fun K hK => ?_)
  simp only [List.getElem_toArray, List.getElem_cons_zero, List.getElem_cons_succ]
  rw [if_pos (by rfl)]
  go_simp
  go_wp2_with (go_at_call 12; refine (refAbove_n aR aN aR aN _).mono ?_; rintro e v2 ⟨rfl, Hv2⟩; rw [AB.out])
  have Zv2 : Tq v2 p q r aR aN aR aN cR cN := hSb.below Hv2.out
  refine hK.out _ _ (Zv2) (fun hS => ?_)
  clear hK K
  try simp only [List.getElem_toArray, List.getElem_cons_zero, List.getElem_cons_succ, Act.put, List.setIfInBounds_toArray, List.set_cons_zero, List.set_cons_succ]
  clear hSb
  refine till_take (i := 6) (v := .bool false) rfl (by kernel_rfl) (by kernel_rfl) (by kernel_rfl) (fun _ _ _ h => h) (fun L w => Iff.rfl) (Or.inl ⟨by rfl, fun w => by go_simp⟩) hS (fun hSb => ?_)
  simp only [List.getElem_toArray, List.getElem_cons_zero, List.getElem_cons_succ, Act.put, List.setIfInBounds_toArray, List.set_cons_zero, List.set_cons_succ]
  clear hS
  refine till_take (i := 7) (v := .bool false) rfl (by kernel_rfl) (by kernel_rfl) (by kernel_rfl) (fun _ _ _ h => h) (fun L w => Iff.rfl) (Or.inl ⟨by rfl, fun w => by go_simp⟩) hSb (fun hS => ?_)
  simp only [List.getElem_toArray, List.getElem_cons_zero, List.getElem_cons_succ, Act.put, List.setIfInBounds_toArray, List.set_cons_zero, List.set_cons_succ]
  clear hSb
  refine till_read (i := 8) (c := 10) (v := bal aR aN) (T := fun W => Tq W p q r aR aN aR aN cR cN) rfl rfl (by kernel_rfl) (by kernel_rfl) (by kernel_rfl) (by kernel_rfl) (by kernel_rfl) (fun _ _ _ h => h) (fun L w => Iff.rfl) (fun L w h1 h2 => h2) (Or.inl ⟨by rfl, fun w h => by have q0 := h.p0; have q1 := h.p1; go_simp⟩) hS (fun hSb => ?_)
  simp only [List.getElem_toArray, List.getElem_cons_zero, List.getElem_cons_succ, Act.put, List.setIfInBounds_toArray, List.set_cons_zero, List.set_cons_succ]
  clear hS
  refine till_read (i := 9) (c := 10) (v := bal aR aN) (T := fun W => Tq W p q r aR aN aR aN cR cN) rfl rfl (by kernel_rfl) (by kernel_rfl) (by kernel_rfl) (by kernel_rfl) (by kernel_rfl) (fun _ _ _ h => h) (fun L w => Iff.rfl) (fun L w h1 h2 => h2) (Or.inl ⟨by rfl, fun w h => by have q0 := h.p0; have q1 := h.p1; go_simp⟩) hSb (fun hS => ?_)
  simp only [List.getElem_toArray, List.getElem_cons_zero, List.getElem_cons_succ, Act.put, List.setIfInBounds_toArray, List.set_cons_zero, List.set_cons_succ]
  clear hSb
  refine till_one (i := 10) (by kernel_rfl) rfl (fun K hK => ?_)
  simp only [List.getElem_toArray, List.getElem_cons_zero, List.getElem_cons_succ]
  rw [if_pos (by rfl)]
  go_simp
  go_wp2_with (go_at_call 11; refine (above_n aR aN aR aN _).mono ?_; rintro e v3 ⟨rfl, Hv3⟩; rw [AA.out])
  have Zv3 : Tq v3 p q r aR aN aR aN cR cN := hS.below Hv3.out
  refine hK.out _ _ (Zv3) (fun hSb => ?_)
  clear hK K
  try simp only [List.getElem_toArray, List.getElem_cons_zero, List.getElem_cons_succ, Act.put, List.setIfInBounds_toArray, List.set_cons_zero, List.set_cons_succ]
  clear hS
  refine till_take (i := 11) (v := .bool false) rfl (by kernel_rfl) (by kernel_rfl) (by kernel_rfl) (fun _ _ _ h => h) (fun L w => Iff.rfl) (Or.inl ⟨by rfl, fun w => by go_simp⟩) hSb (fun hS => ?_)
  simp only [List.getElem_toArray, List.getElem_cons_zero, List.getElem_cons_succ, Act.put, List.setIfInBounds_toArray, List.set_cons_zero, List.set_cons_succ]
  clear hSb
  refine till_take (i := 12) (v := .bool false) rfl (by kernel_rfl) (by kernel_rfl) (by kernel_rfl) (fun _ _ _ h => h) (fun L w => Iff.rfl) (Or.inl ⟨by rfl, fun w => by go_simp⟩) hS (fun hSb => ?_)
  simp only [List.getElem_toArray, List.getElem_cons_zero, List.getElem_cons_succ, Act.put, List.setIfInBounds_toArray, List.set_cons_zero, List.set_cons_succ]
  clear hS
  refine till_read (i := 13) (c := 15) (v := bal aR aN) (T := fun W => Tq W p q r aR aN aR aN cR cN) rfl rfl (by kernel_rfl) (by kernel_rfl) (by kernel_rfl) (by kernel_rfl) (by kernel_rfl) (fun _ _ _ h => h) (fun L w => Iff.rfl) (fun L w h1 h2 => h2) (Or.inl ⟨by rfl, fun w h => by have q0 := h.p0; have q1 := h.p1; go_simp⟩) hSb (fun hS => ?_)
  simp only [List.getElem_toArray, List.getElem_cons_zero, List.getElem_cons_succ, Act.put, List.setIfInBounds_toArray, List.set_cons_zero, List.set_cons_succ]
  clear hSb
  refine till_read (i := 14) (c := 15) (v := bal aR aN) (T := fun W => Tq W p q r aR aN aR aN cR cN) rfl rfl (by kernel_rfl) (by kernel_rfl) (by kernel_rfl) (by kernel_rfl) (by kernel_rfl) (fun _ _ _ h => h) (fun L w => Iff.rfl) (fun L w h1 h2 => h2) (Or.inl ⟨by rfl, fun w h => by have q0 := h.q0; have q1 := h.q1; go_simp⟩) hS (fun hSb => ?_)
  simp only [List.getElem_toArray, List.getElem_cons_zero, List.getElem_cons_succ, Act.put, List.setIfInBounds_toArray, List.set_cons_zero, List.set_cons_succ]
  clear hS
  refine till_take (i := 15) (v := .bool false) rfl (by kernel_rfl) (by kernel_rfl) (by kernel_rfl) (fun _ _ _ h => h) (fun L w => Iff.rfl) (Or.inl ⟨by rfl, fun w => by go_simp⟩) hSb (fun hS => ?_)
  simp only [List.getElem_toArray, List.getElem_cons_zero, List.getElem_cons_succ, Act.put, List.setIfInBounds_toArray, List.set_cons_zero, List.set_cons_succ]
  clear hSb
  refine till_take (i := 16) (v := .bool false) rfl (by kernel_rfl) (by kernel_rfl) (by kernel_rfl) (fun _ _ _ h => h) (fun L w => Iff.rfl) (Or.inl ⟨by rfl, fun w => by go_simp⟩) hS (fun hSb => ?_)
  simp only [List.getElem_toArray, List.getElem_cons_zero, List.getElem_cons_succ, Act.put, List.setIfInBounds_toArray, List.set_cons_zero, List.set_cons_succ]
  clear hS
  refine till_take (i := 17) (v := undef) rfl (by kernel_rfl) (by kernel_rfl) (by kernel_rfl) (fun _ _ _ h => h) (fun L w => Iff.rfl) (Or.inr ⟨by rfl, rfl⟩) hSb (fun hS => ?_)
  simp only [List.getElem_toArray, List.getElem_cons_zero, List.getElem_cons_succ, Act.put, List.setIfInBounds_toArray, List.set_cons_zero, List.set_cons_succ]
  clear hSb
  refine till_take (i := 18) (v := undef) rfl (by kernel_rfl) (by kernel_rfl) (by kernel_rfl) (fun _ _ _ h => h) (fun L w => Iff.rfl) (Or.inr ⟨by rfl, rfl⟩) hS (fun hSb => ?_)
  simp only [List.getElem_toArray, List.getElem_cons_zero, List.getElem_cons_succ, Act.put, List.setIfInBounds_toArray, List.set_cons_zero, List.set_cons_succ]
  clear hS
  refine till_take (i := 20) (v := undef) rfl (by kernel_rfl) (by kernel_rfl) (by kernel_rfl) (fun _ _ _ h => h) (fun L w => Iff.rfl) (Or.inr ⟨by rfl, rfl⟩) hSb (fun hS => ?_)
  simp only [List.getElem_toArray, List.getElem_cons_zero, List.getElem_cons_succ, Act.put, List.setIfInBounds_toArray, List.set_cons_zero, List.set_cons_succ]
  clear hSb
  refine till_take (i := 21) (v := undef) rfl (by kernel_rfl) (by kernel_rfl) (by kernel_rfl) (fun _ _ _ h => h) (fun L w => Iff.rfl) (Or.inr ⟨by rfl, rfl⟩) hS (fun hSb => ?_)
  simp only [List.getElem_toArray, List.getElem_cons_zero, List.getElem_cons_succ, Act.put, List.setIfInBounds_toArray, List.set_cons_zero, List.set_cons_succ]
  clear hS
  refine till_one (i := 19) (by kernel_rfl) rfl (fun K hK => ?_)
  simp only [List.getElem_toArray, List.getElem_cons_zero, List.getElem_cons_succ]
  rw [if_neg (by intro h; have h2 : false = true := h; cases h2)]
  refine hK.out _ _ (hSb) (fun hS => ?_)
  clear hK K
  try simp only [List.getElem_toArray, List.getElem_cons_zero, List.getElem_cons_succ, Act.put, List.setIfInBounds_toArray, List.set_cons_zero, List.set_cons_succ]
  clear hSb
  refine till_one (i := 22) (by kernel_rfl) rfl (fun K hK => ?_)
  simp only [List.getElem_toArray, List.getElem_cons_zero, List.getElem_cons_succ]
  rw [if_neg (by intro h; have h2 : false = true := h; cases h2)]
  refine hK.out _ _ (hS) (fun hSb => ?_)
  clear hK K
  try simp only [List.getElem_toArray, List.getElem_cons_zero, List.getElem_cons_succ, Act.put, List.setIfInBounds_toArray, List.set_cons_zero, List.set_cons_succ]
  clear hS
  refine till_take (i := 23) (v := undef) rfl (by kernel_rfl) (by kernel_rfl) (by kernel_rfl) (fun _ _ _ h => h) (fun L w => Iff.rfl) (Or.inr ⟨by rfl, rfl⟩) hSb (fun hS => ?_)
  simp only [List.getElem_toArray, List.getElem_cons_zero, List.getElem_cons_succ, Act.put, List.setIfInBounds_toArray, List.set_cons_zero, List.set_cons_succ]
  clear hSb
  refine till_take (i := 24) (v := .bool false) rfl (by kernel_rfl) (by kernel_rfl) (by kernel_rfl) (fun _ _ _ h => h) (fun L w => Iff.rfl) (Or.inl ⟨by rfl, fun w => by go_simp⟩) hS (fun hSb => ?_)
  simp only [List.getElem_toArray, List.getElem_cons_zero, List.getElem_cons_succ, Act.put, List.setIfInBounds_toArray, List.set_cons_zero, List.set_cons_succ]
  clear hS
  refine till_take (i := 25) (v := .bool false) rfl (by kernel_rfl) (by kernel_rfl) (by kernel_rfl) (fun _ _ _ h => h) (fun L w => Iff.rfl) (Or.inl ⟨by rfl, fun w => by go_simp⟩) hSb (fun hS => ?_)
  simp only [List.getElem_toArray, List.getElem_cons_zero, List.getElem_cons_succ, Act.put, List.setIfInBounds_toArray, List.set_cons_zero, List.set_cons_succ]
  clear hSb
  refine till_done (by kernel_rfl) ?_ _
  clear hS
  have BL : Hid (Below w.heap.size w v3) := ((L7.out.trans (Hv1.out.mono L7.out.size)).trans (Hv2.out.mono (Nat.le_trans L7.out.size Hv1.out.size))).trans (Hv3.out.mono (Nat.le_trans (Nat.le_trans L7.out.size Hv1.out.size) Hv2.out.size))
  have TT : Tq v3 p q r aR aN aR aN cR cN := Zv3
  have x0 := TT.p0
  have x1 := TT.p1
  have y0 := TT.q0
  have y1 := TT.q1
  have z0 := TT.r0
  have z1 := TT.r1
  have BX : Hid (Below w.heap.size w v3) := BL.out
  rcases HALF with ⟨hn1, HF⟩ | ⟨hh, hn1, i1, i2, i3, i4, HF⟩
  · go_wp2_with (first
      | (go_at_call 11; refine (above_n _ _ _ _ _).mono ?_; rintro e w9 ⟨rfl, H9⟩; (first | rw [AB.out])
         have TT := TT.below H9.out
         have x0 := TT.p0
         have x1 := TT.p1
         have y0 := TT.q0
         have y1 := TT.q1
         have z0 := TT.r0
         have z1 := TT.r1
         have BX : Hid (Below w.heap.size w w9) := BX.out.trans (H9.out.mono BX.out.size))
      | (go_at_call 13; refine (HF.out _).mono ?_; rintro e w10 ⟨rfl, h10⟩; rw [h10]; clear h10))
    go_ret
    exact ⟨rfl, BX.out⟩
  · go_wp2_with (first
      | (go_at_call 11; refine (above_n _ _ _ _ _).mono ?_; rintro e w9 ⟨rfl, H9⟩; (first | rw [AB.out])
         have TT := TT.below H9.out
         have x0 := TT.p0
         have x1 := TT.p1
         have y0 := TT.q0
         have y1 := TT.q1
         have z0 := TT.r0
         have z1 := TT.r1
         have BX : Hid (Below w.heap.size w w9) := BX.out.trans (H9.out.mono BX.out.size))
      | (go_at_call 13; refine (HF.out _).mono ?_; rintro e w10 ⟨rfl, h10⟩; rw [h10]; clear h10))
    go_ret
    exact ⟨rfl, BX.out⟩
set_option maxHeartbeats 4000000 in
theorem numbers_lt {M : Nat} {E : Nat → Addr} {w : World} {aR aN bR bN cR cN nn : Int} (hE : Hid (Sent w M E)) (hM : 2 ≤ M) (hn : nn ≤ 9223372036854775807) (hne : ¬ (aR = bR ∧ aN = bN)) (AB : Hid (abv aR aN bR bN = false)) (BA : Hid (abv bR bN aR aN = true)) :
    Calls Tryd.prog 4 #[nums aR aN bR bN cR cN nn] w fun e w' => e = .returned (.bool true) ∧ Hid (Below w.heap.size w w') := by
  have EQ : ∀ w, (Op.equalIn 10000 34 (bal aR aN) (bal bR bN)).run Tryd.prog w = .ok false w := fun w => by rw [eqBal, decide_eq_false hne]
  have AA : Hid (abv aR aN aR aN = false) := by show _ = _; exact decide_eq_false (by omega)
  have HALF : (nn < 1 ∧ Hid (∀ w, Calls Tryd.prog 13 #[.int .i64 nn] w fun e w' => e = .returned (.int .i64 0) ∧ w' = w)) ∨ (∃ hh : Int, ¬ (nn < 1) ∧ nn - hh < hh ∧ hh - 1 ≤ nn - (hh - 1) ∧ 1 ≤ hh ∧ hh ≤ 4611686018427387904 ∧ Hid (∀ w, Calls Tryd.prog 13 #[.int .i64 nn] w fun e w' => e = .returned (.int .i64 hh) ∧ w' = w)) := by
    by_cases h : nn < 1
    · exact .inl ⟨h, fun w => half_no h w⟩
    · exact .inr ⟨nn / 2 + 1, h, by omega, by omega, by omega, by omega, fun w => half_n (by omega) hn w⟩
  obtain ⟨gx, Hgx⟩ : ∃ gx, Hid (w.heap.size = gx) := ⟨_, rfl⟩
  obtain ⟨w1, Hw1⟩ : ∃ w1, Hid ((w.alloc (.cells #[.int .i64 aR, .int .i64 aN, .int .i64 bR, .int .i64 bN, .int .i64 cR, .int .i64 cN, .int .i64 nn] 43)).drew = w1) := ⟨_, rfl⟩
  have LW : Hid (Below w.heap.size w w1) := by rw [← Hw1.out]; exact (alloc1 w _).drew
  have N1 : Nq w1 gx aR aN bR bN cR cN nn := by rw [← Hw1.out, ← Hgx.out]; exact ⟨by simp, by simp, by simp, by simp, by simp, by simp, by simp⟩
  go_enter Tryd.func4, Tryd.ntmps4
  go_upto_region 1 with (fail)
  refine wp_region_till (S := fun L W => Nq W gx aR aN bR bN cR cN nn) (by kernel_rfl) (by rw [Hw1.out]; exact N1) (fun hS => ?_)
  rw [Hw1.out] at hS ⊢
  rw [Hgx.out]
  clear N1
  refine till_take (i := 0) (v := .pointer (some ⟨gx, 0, none⟩)) rfl (by kernel_rfl) (by kernel_rfl) (by kernel_rfl) (fun _ _ _ h => h) (fun L w => Iff.rfl) (Or.inl ⟨by rfl, fun w => by go_simp⟩) hS (fun hSb => ?_)
  simp only [List.getElem_toArray, List.getElem_cons_zero, List.getElem_cons_succ, Act.put, List.setIfInBounds_toArray, List.set_cons_zero, List.set_cons_succ]
  clear hS
  refine till_read (i := 1) (c := 11) (v := bal aR aN) (T := fun W => Nq W gx aR aN bR bN cR cN nn) rfl rfl (by kernel_rfl) (by kernel_rfl) (by kernel_rfl) (by kernel_rfl) (by kernel_rfl) (fun _ _ _ h => h) (fun L w => Iff.rfl) (fun L w h1 h2 => h2) (Or.inl ⟨by rfl, fun w h => by have q0 := h.c0; have q1 := h.c1; go_simp⟩) hSb (fun hS => ?_)
  simp only [List.getElem_toArray, List.getElem_cons_zero, List.getElem_cons_succ, Act.put, List.setIfInBounds_toArray, List.set_cons_zero, List.set_cons_succ]
  clear hSb
  refine till_take (i := 2) (v := .pointer (some ⟨gx, 2, none⟩)) rfl (by kernel_rfl) (by kernel_rfl) (by kernel_rfl) (fun _ _ _ h => h) (fun L w => Iff.rfl) (Or.inl ⟨by rfl, fun w => by go_simp⟩) hS (fun hSb => ?_)
  simp only [List.getElem_toArray, List.getElem_cons_zero, List.getElem_cons_succ, Act.put, List.setIfInBounds_toArray, List.set_cons_zero, List.set_cons_succ]
  clear hS
  refine till_read (i := 3) (c := 12) (v := bal bR bN) (T := fun W => Nq W gx aR aN bR bN cR cN nn) rfl rfl (by kernel_rfl) (by kernel_rfl) (by kernel_rfl) (by kernel_rfl) (by kernel_rfl) (fun _ _ _ h => h) (fun L w => Iff.rfl) (fun L w h1 h2 => h2) (Or.inl ⟨by rfl, fun w h => by have q0 := h.c2; have q1 := h.c3; go_simp⟩) hSb (fun hS => ?_)
  simp only [List.getElem_toArray, List.getElem_cons_zero, List.getElem_cons_succ, Act.put, List.setIfInBounds_toArray, List.set_cons_zero, List.set_cons_succ]
  clear hSb
  refine till_take (i := 4) (v := .pointer (some ⟨gx, 4, none⟩)) rfl (by kernel_rfl) (by kernel_rfl) (by kernel_rfl) (fun _ _ _ h => h) (fun L w => Iff.rfl) (Or.inl ⟨by rfl, fun w => by go_simp⟩) hS (fun hSb => ?_)
  simp only [List.getElem_toArray, List.getElem_cons_zero, List.getElem_cons_succ, Act.put, List.setIfInBounds_toArray, List.set_cons_zero, List.set_cons_succ]
  clear hS
  refine till_read (i := 5) (c := 13) (v := bal cR cN) (T := fun W => Nq W gx aR aN bR bN cR cN nn) rfl rfl (by kernel_rfl) (by kernel_rfl) (by kernel_rfl) (by kernel_rfl) (by kernel_rfl) (fun _ _ _ h => h) (fun L w => Iff.rfl) (fun L w h1 h2 => h2) (Or.inl ⟨by rfl, fun w h => by have q0 := h.c4; have q1 := h.c5; go_simp⟩) hSb (fun hS => ?_)
  simp only [List.getElem_toArray, List.getElem_cons_zero, List.getElem_cons_succ, Act.put, List.setIfInBounds_toArray, List.set_cons_zero, List.set_cons_succ]
  clear hSb
  refine till_take (i := 6) (v := .pointer (some ⟨gx, 6, none⟩)) rfl (by kernel_rfl) (by kernel_rfl) (by kernel_rfl) (fun _ _ _ h => h) (fun L w => Iff.rfl) (Or.inl ⟨by rfl, fun w => by go_simp⟩) hS (fun hSb => ?_)
  simp only [List.getElem_toArray, List.getElem_cons_zero, List.getElem_cons_succ, Act.put, List.setIfInBounds_toArray, List.set_cons_zero, List.set_cons_succ]
  clear hS
  refine till_read (i := 7) (c := 14) (v := .int .i64 nn) (T := fun W => Nq W gx aR aN bR bN cR cN nn) rfl rfl (by kernel_rfl) (by kernel_rfl) (by kernel_rfl) (by kernel_rfl) (by kernel_rfl) (fun _ _ _ h => h) (fun L w => Iff.rfl) (fun L w h1 h2 => h2) (Or.inl ⟨by rfl, fun w h => by have q0 := h.c6; go_simp⟩) hSb (fun hS => ?_)
  simp only [List.getElem_toArray, List.getElem_cons_zero, List.getElem_cons_succ, Act.put, List.setIfInBounds_toArray, List.set_cons_zero, List.set_cons_succ]
  clear hSb
  refine till_alloc3 (i := 8) (j := 9) (k := 10) (d := 3) (e := 4) (g := 5) rfl rfl rfl rfl rfl rfl rfl rfl rfl rfl rfl rfl (by decide) (by decide) (by decide) (by decide) (by decide) (by decide) (by kernel_rfl) (by kernel_rfl) (by kernel_rfl) (by kernel_rfl) (by kernel_rfl) (by kernel_rfl) (by kernel_rfl) (fun L' => ⟨hS.below (alloc1 _ _), hS.below (alloc2 _ _ _), hS.below (three_zb _).1⟩) (fun p q r hp hq hr hpq hpr hqr => ?_)
  simp only [List.getElem_toArray, List.getElem_cons_zero, List.getElem_cons_succ, Act.put, List.setIfInBounds_toArray, List.set_cons_zero, List.set_cons_succ]
  obtain ⟨W3, HW3⟩ : ∃ W3, Hid ((((w1.alloc zb).alloc zb).alloc zb) = W3) := ⟨_, rfl⟩
  have z3 : ∀ x, w1.heap.size ≤ x → x < w1.heap.size + 3 → W3.heap[x]? = some zb := by rw [← HW3.out]; exact (three_zb w1).2.2
  have B3 : Hid (Below w1.heap.size w1 W3) := by rw [← HW3.out]; exact (three_zb w1).1
  have N3 : Nq W3 gx aR aN bR bN cR cN nn := hS.below B3.out
  have gl : gx < w1.heap.size := cell_lt hS.c0
  have kp := z3 p hp.1 hp.2
  have kq := z3 q hq.1 hq.2
  have kr := z3 r hr.1 hr.2
  obtain ⟨W4, HW4⟩ : ∃ W4, Hid ((W3.setCell ⟨p, 0, none⟩ (.int .i64 aR)).setCell ⟨p, 1, none⟩ (.int .i64 aN) = W4) := ⟨_, rfl⟩
  have C4 : Ch W3 W4 (fun k => k = p) := by rw [← HW4.out]; exact (Ch.set _ p 0 _).trans (Ch.set _ p 1 _)
  have kp4 : W4.heap[p]? = some (.cells #[.int .i64 aR, .int .i64 aN] 34 (0, 0)) := by rw [← HW4.out, set_blk (set_blk kp 0 _) 1 _]; rfl
  have s3 : w1.heap.size + 3 ≤ W3.heap.size := by rw [← HW3.out, (three_zb w1).2.1]; omega
  have kq4 : W4.heap[q]? = some zb := (C4.block q (by omega) (by omega)).trans kq
  have kr4 : W4.heap[r]? = some zb := (C4.block r (by omega) (by omega)).trans kr
  have N4 : Nq W4 gx aR aN bR bN cR cN nn := N3.blk (C4.block gx (by omega) (by omega))
  obtain ⟨W5, HW5⟩ : ∃ W5, Hid ((W4.setCell ⟨q, 0, none⟩ (.int .i64 bR)).setCell ⟨q, 1, none⟩ (.int .i64 bN) = W5) := ⟨_, rfl⟩
  have C5 : Ch W4 W5 (fun k => k = q) := by rw [← HW5.out]; exact (Ch.set _ q 0 _).trans (Ch.set _ q 1 _)
  have kq5 : W5.heap[q]? = some (.cells #[.int .i64 bR, .int .i64 bN] 34 (0, 0)) := by rw [← HW5.out, set_blk (set_blk kq4 0 _) 1 _]; rfl
  have s4 := C4.size
  have kp5 := (C5.block p (by omega) (by omega)).trans kp4
  have kr5 : W5.heap[r]? = some zb := (C5.block r (by omega) (by omega)).trans kr4
  have N5 : Nq W5 gx aR aN bR bN cR cN nn := N4.blk (C5.block gx (by omega) (by omega))
  obtain ⟨W6, HW6⟩ : ∃ W6, Hid ((W5.setCell ⟨r, 0, none⟩ (.int .i64 cR)).setCell ⟨r, 1, none⟩ (.int .i64 cN) = W6) := ⟨_, rfl⟩
  have C6 : Ch W5 W6 (fun k => k = r) := by rw [← HW6.out]; exact (Ch.set _ r 0 _).trans (Ch.set _ r 1 _)
  have kr6 : W6.heap[r]? = some (.cells #[.int .i64 cR, .int .i64 cN] 34 (0, 0)) := by rw [← HW6.out, set_blk (set_blk kr5 0 _) 1 _]; rfl
  have s5 := C5.size
  have kp6 := (C6.block p (by omega) (by omega)).trans kp5
  have kq6 := (C6.block q (by omega) (by omega)).trans kq5
  have N6 : Nq W6 gx aR aN bR bN cR cN nn := N5.blk (C6.block gx (by omega) (by omega))
  have T6 : Hid (Tq W6 p q r aR aN bR bN cR cN) := ⟨kp6, kq6, kr6⟩
  have L6 : Hid (Below w.heap.size w W6) := by
    have b3 := LW.out.trans (B3.out.mono LW.out.size)
    have lw := LW.out.size
    have b4 := b3.trans (C4.toBelow (B := w.heap.size) b3.size (fun k hk e => by omega))
    have b5 := b4.trans (C5.toBelow (B := w.heap.size) b4.size (fun k hk e => by omega))
    exact b5.trans (C6.toBelow (B := w.heap.size) b5.size (fun k hk e => by omega))
  have p0 : W3.cell? ⟨p, 0, none⟩ = some (.int .i64 0) := by simp [World.cell?, kp]
  have p1 : W3.cell? ⟨p, 1, none⟩ = some (.int .i64 0) := by simp [World.cell?, kp]
  have pf : ∀ i, W3.frozen? ⟨p, i, none⟩ = false := fun i => by simp [World.frozen?, kp]
  have q0 : W4.cell? ⟨q, 0, none⟩ = some (.int .i64 0) := by simp [World.cell?, kq4]
  have q1 : W4.cell? ⟨q, 1, none⟩ = some (.int .i64 0) := by simp [World.cell?, kq4]
  have qf : ∀ i, W4.frozen? ⟨q, i, none⟩ = false := fun i => by simp [World.frozen?, kq4]
  have r0 : W5.cell? ⟨r, 0, none⟩ = some (.int .i64 0) := by simp [World.cell?, kr5]
  have r1 : W5.cell? ⟨r, 1, none⟩ = some (.int .i64 0) := by simp [World.cell?, kr5]
  have rf : ∀ i, W5.frozen? ⟨r, i, none⟩ = false := fun i => by simp [World.frozen?, kr5]
  rw [HW3.out]
  clear z3 kp kq kr kp4 kq4 kr4 kp5 kq5 kr5 kp6 kq6 kr6 C4 C5 C6 s3 s4 s5 gl hp hq hr hpq hpr hqr B3
  refine till_one (i := 11) (by kernel_rfl) rfl (fun K hK => ?_)
  simp only [List.getElem_toArray, List.getElem_cons_zero, List.getElem_cons_succ]
  rw [if_pos (by rfl)]
  go_simp
  rw [HW4.out]
  refine hK.out _ _ (N4) (fun hSb => ?_)
  clear hK K
  try simp only [List.getElem_toArray, List.getElem_cons_zero, List.getElem_cons_succ, Act.put, List.setIfInBounds_toArray, List.set_cons_zero, List.set_cons_succ]
  clear hS
  refine till_one (i := 12) (by kernel_rfl) rfl (fun K hK => ?_)
  simp only [List.getElem_toArray, List.getElem_cons_zero, List.getElem_cons_succ]
  rw [if_pos (by rfl)]
  go_simp
  rw [HW5.out]
  refine hK.out _ _ (N5) (fun hS => ?_)
  clear hK K
  try simp only [List.getElem_toArray, List.getElem_cons_zero, List.getElem_cons_succ, Act.put, List.setIfInBounds_toArray, List.set_cons_zero, List.set_cons_succ]
  clear hSb
  refine till_one (i := 13) (by kernel_rfl) rfl (fun K hK => ?_)
  simp only [List.getElem_toArray, List.getElem_cons_zero, List.getElem_cons_succ]
  rw [if_pos (by rfl)]
  go_simp
  rw [HW6.out]
  refine hK.out _ _ (N6) (fun hSb => ?_)
  clear hK K
  try simp only [List.getElem_toArray, List.getElem_cons_zero, List.getElem_cons_succ, Act.put, List.setIfInBounds_toArray, List.set_cons_zero, List.set_cons_succ]
  clear hS
  refine till_one (i := 14) (by kernel_rfl) rfl (fun K hK => ?_)
  simp only [List.getElem_toArray, List.getElem_cons_zero, List.getElem_cons_succ]
  rw [if_pos (by rfl)]
  go_simp
  refine hK.out _ _ (hSb) (fun hS => ?_)
  clear hK K
  try simp only [List.getElem_toArray, List.getElem_cons_zero, List.getElem_cons_succ, Act.put, List.setIfInBounds_toArray, List.set_cons_zero, List.set_cons_succ]
  clear hSb
  refine till_done (by kernel_rfl) ?_ _
  clear hS
  have E6 : Hid (Sent W6 M E) := hE.out.below L6.out
  clear p0 p1 pf q0 q1 qf r0 r1 rf
  go_upto_region 4 with (go_at_call 8; refine (alive_n E6 hM).mono ?_; rintro e w7 ⟨rfl, H7⟩)
  obtain ⟨v0, Hv0⟩ : ∃ v0, Hid (w7.drew = v0) := ⟨_, rfl⟩
  have B7 : Hid (Below W6.heap.size W6 v0) := by rw [← Hv0.out]; exact H7.out.drew
  have T7 : Tq v0 p q r aR aN bR bN cR cN := T6.out.below B7.out
  have L7 : Hid (Below w.heap.size w v0) := L6.out.trans (B7.out.mono L6.out.size)
  refine wp_region_till (S := fun L W => Tq W p q r aR aN bR bN cR cN) (by kernel_rfl) (by rw [Hv0.out]; exact T7) (fun hS => ?_)
  rw [Hv0.out] at hS ⊢
  refine till_read (i := 0) (c := 2) (v := bal aR aN) (T := fun W => Tq W p q r aR aN bR bN cR cN) rfl rfl (by kernel_rfl) (by kernel_rfl) (by kernel_rfl) (by kernel_rfl) (by kernel_rfl) (fun _ _ _ h => h) (fun L w => Iff.rfl) (fun L w h1 h2 => h2) (Or.inl ⟨by rfl, fun w h => by have q0 := h.p0; have q1 := h.p1; go_simp⟩) hS (fun hSb => ?_)
  simp only [List.getElem_toArray, List.getElem_cons_zero, List.getElem_cons_succ, Act.put, List.setIfInBounds_toArray, List.set_cons_zero, List.set_cons_succ]
  clear hS
  refine till_read (i := 1) (c := 2) (v := bal bR bN) (T := fun W => Tq W p q r aR aN bR bN cR cN) rfl rfl (by kernel_rfl) (by kernel_rfl) (by kernel_rfl) (by kernel_rfl) (by kernel_rfl) (fun _ _ _ h => h) (fun L w => Iff.rfl) (fun L w h1 h2 => h2) (Or.inl ⟨by rfl, fun w h => by have q0 := h.q0; have q1 := h.q1; go_simp⟩) hSb (fun hS => ?_)
  simp only [List.getElem_toArray, List.getElem_cons_zero, List.getElem_cons_succ, Act.put, List.setIfInBounds_toArray, List.set_cons_zero, List.set_cons_succ]
  clear hSb
  refine till_read (i := 3) (c := 5) (v := bal aR aN) (T := fun W => Tq W p q r aR aN bR bN cR cN) rfl rfl (by kernel_rfl) (by kernel_rfl) (by kernel_rfl) (by kernel_rfl) (by kernel_rfl) (fun _ _ _ h => h) (fun L w => Iff.rfl) (fun L w h1 h2 => h2) (Or.inl ⟨by rfl, fun w h => by have q0 := h.p0; have q1 := h.p1; go_simp⟩) hS (fun hSb => ?_)
  simp only [List.getElem_toArray, List.getElem_cons_zero, List.getElem_cons_succ, Act.put, List.setIfInBounds_toArray, List.set_cons_zero, List.set_cons_succ]
  clear hS
  refine till_read (i := 4) (c := 5) (v := bal bR bN) (T := fun W => Tq W p q r aR aN bR bN cR cN) rfl rfl (by kernel_rfl) (by kernel_rfl) (by kernel_rfl) (by kernel_rfl) (by kernel_rfl) (fun _ _ _ h => h) (fun L w => Iff.rfl) (fun L w h1 h2 => h2) (Or.inl ⟨by rfl, fun w h => by have q0 := h.q0; have q1 := h.q1; go_simp⟩) hSb (fun hS => ?_)
  simp only [List.getElem_toArray, List.getElem_cons_zero, List.getElem_cons_succ, Act.put, List.setIfInBounds_toArray, List.set_cons_zero, List.set_cons_succ]
  clear hSb
  refine till_one (i := 2) (by kernel_rfl) rfl (fun K hK => ?_)
  simp only [List.getElem_toArray, List.getElem_cons_zero, List.getElem_cons_succ]
  rw [if_pos (by rfl)]
  go_simp
  go_wp2_with (go_at_call 11; refine (above_n aR aN bR bN _).mono ?_; rintro e v1 ⟨rfl, Hv1⟩; rw [AB.out])
  have Zv1 : Tq v1 p q r aR aN bR bN cR cN := hS.below Hv1.out
  refine hK.out _ _ (Zv1) (fun hSb => ?_)
  clear hK K
  try simp only [List.getElem_toArray, List.getElem_cons_zero, List.getElem_cons_succ, Act.put, List.setIfInBounds_toArray, List.set_cons_zero, List.set_cons_succ]
  clear hS
  refine till_one (i := 5) (by kernel_rfl) rfl (fun K hK => ?_)
  simp only [List.getElem_toArray, List.getElem_cons_zero, List.getElem_cons_succ]
  rw [if_pos (by rfl)]
  go_simp
  go_wp2_with (go_at_call 12; refine (refAbove_n aR aN bR bN _).mono ?_; rintro e v2 ⟨rfl, Hv2⟩; rw [AB.out])
  have Zv2 : Tq v2 p q r aR aN bR bN cR cN := hSb.below Hv2.out
  refine hK.out _ _ (Zv2) (fun hS => ?_)
  clear hK K
  try simp only [List.getElem_toArray, List.getElem_cons_zero, List.getElem_cons_succ, Act.put, List.setIfInBounds_toArray, List.set_cons_zero, List.set_cons_succ]
  clear hSb
  refine till_take (i := 6) (v := .bool false) rfl (by kernel_rfl) (by kernel_rfl) (by kernel_rfl) (fun _ _ _ h => h) (fun L w => Iff.rfl) (Or.inl ⟨by rfl, fun w => by go_simp⟩) hS (fun hSb => ?_)
  simp only [List.getElem_toArray, List.getElem_cons_zero, List.getElem_cons_succ, Act.put, List.setIfInBounds_toArray, List.set_cons_zero, List.set_cons_succ]
  clear hS
  refine till_take (i := 7) (v := .bool false) rfl (by kernel_rfl) (by kernel_rfl) (by kernel_rfl) (fun _ _ _ h => h) (fun L w => Iff.rfl) (Or.inl ⟨by rfl, fun w => by go_simp⟩) hSb (fun hS => ?_)
  simp only [List.getElem_toArray, List.getElem_cons_zero, List.getElem_cons_succ, Act.put, List.setIfInBounds_toArray, List.set_cons_zero, List.set_cons_succ]
  clear hSb
  refine till_read (i := 8) (c := 10) (v := bal aR aN) (T := fun W => Tq W p q r aR aN bR bN cR cN) rfl rfl (by kernel_rfl) (by kernel_rfl) (by kernel_rfl) (by kernel_rfl) (by kernel_rfl) (fun _ _ _ h => h) (fun L w => Iff.rfl) (fun L w h1 h2 => h2) (Or.inl ⟨by rfl, fun w h => by have q0 := h.p0; have q1 := h.p1; go_simp⟩) hS (fun hSb => ?_)
  simp only [List.getElem_toArray, List.getElem_cons_zero, List.getElem_cons_succ, Act.put, List.setIfInBounds_toArray, List.set_cons_zero, List.set_cons_succ]
  clear hS
  refine till_read (i := 9) (c := 10) (v := bal aR aN) (T := fun W => Tq W p q r aR aN bR bN cR cN) rfl rfl (by kernel_rfl) (by kernel_rfl) (by kernel_rfl) (by kernel_rfl) (by kernel_rfl) (fun _ _ _ h => h) (fun L w => Iff.rfl) (fun L w h1 h2 => h2) (Or.inl ⟨by rfl, fun w h => by have q0 := h.p0; have q1 := h.p1; go_simp⟩) hSb (fun hS => ?_)
  simp only [List.getElem_toArray, List.getElem_cons_zero, List.getElem_cons_succ, Act.put, List.setIfInBounds_toArray, List.set_cons_zero, List.set_cons_succ]
  clear hSb
  refine till_one (i := 10) (by kernel_rfl) rfl (fun K hK => ?_)
  simp only [List.getElem_toArray, List.getElem_cons_zero, List.getElem_cons_succ]
  rw [if_pos (by rfl)]
  go_simp
  go_wp2_with (go_at_call 11; refine (above_n aR aN aR aN _).mono ?_; rintro e v3 ⟨rfl, Hv3⟩; rw [AA.out])
  have Zv3 : Tq v3 p q r aR aN bR bN cR cN := hS.below Hv3.out
  refine hK.out _ _ (Zv3) (fun hSb => ?_)
  clear hK K
  try simp only [List.getElem_toArray, List.getElem_cons_zero, List.getElem_cons_succ, Act.put, List.setIfInBounds_toArray, List.set_cons_zero, List.set_cons_succ]
  clear hS
  refine till_take (i := 11) (v := .bool false) rfl (by kernel_rfl) (by kernel_rfl) (by kernel_rfl) (fun _ _ _ h => h) (fun L w => Iff.rfl) (Or.inl ⟨by rfl, fun w => by go_simp⟩) hSb (fun hS => ?_)
  simp only [List.getElem_toArray, List.getElem_cons_zero, List.getElem_cons_succ, Act.put, List.setIfInBounds_toArray, List.set_cons_zero, List.set_cons_succ]
  clear hSb
  refine till_take (i := 12) (v := .bool false) rfl (by kernel_rfl) (by kernel_rfl) (by kernel_rfl) (fun _ _ _ h => h) (fun L w => Iff.rfl) (Or.inl ⟨by rfl, fun w => by go_simp⟩) hS (fun hSb => ?_)
  simp only [List.getElem_toArray, List.getElem_cons_zero, List.getElem_cons_succ, Act.put, List.setIfInBounds_toArray, List.set_cons_zero, List.set_cons_succ]
  clear hS
  refine till_read (i := 13) (c := 15) (v := bal aR aN) (T := fun W => Tq W p q r aR aN bR bN cR cN) rfl rfl (by kernel_rfl) (by kernel_rfl) (by kernel_rfl) (by kernel_rfl) (by kernel_rfl) (fun _ _ _ h => h) (fun L w => Iff.rfl) (fun L w h1 h2 => h2) (Or.inl ⟨by rfl, fun w h => by have q0 := h.p0; have q1 := h.p1; go_simp⟩) hSb (fun hS => ?_)
  simp only [List.getElem_toArray, List.getElem_cons_zero, List.getElem_cons_succ, Act.put, List.setIfInBounds_toArray, List.set_cons_zero, List.set_cons_succ]
  clear hSb
  refine till_read (i := 14) (c := 15) (v := bal bR bN) (T := fun W => Tq W p q r aR aN bR bN cR cN) rfl rfl (by kernel_rfl) (by kernel_rfl) (by kernel_rfl) (by kernel_rfl) (by kernel_rfl) (fun _ _ _ h => h) (fun L w => Iff.rfl) (fun L w h1 h2 => h2) (Or.inl ⟨by rfl, fun w h => by have q0 := h.q0; have q1 := h.q1; go_simp⟩) hS (fun hSb => ?_)
  simp only [List.getElem_toArray, List.getElem_cons_zero, List.getElem_cons_succ, Act.put, List.setIfInBounds_toArray, List.set_cons_zero, List.set_cons_succ]
  clear hS
  refine till_take (i := 15) (v := .bool true) rfl (by kernel_rfl) (by kernel_rfl) (by kernel_rfl) (fun _ _ _ h => h) (fun L w => Iff.rfl) (Or.inl ⟨by rfl, fun w => by go_simp⟩) hSb (fun hS => ?_)
  simp only [List.getElem_toArray, List.getElem_cons_zero, List.getElem_cons_succ, Act.put, List.setIfInBounds_toArray, List.set_cons_zero, List.set_cons_succ]
  clear hSb
  refine till_take (i := 16) (v := .bool true) rfl (by kernel_rfl) (by kernel_rfl) (by kernel_rfl) (fun _ _ _ h => h) (fun L w => Iff.rfl) (Or.inl ⟨by rfl, fun w => by go_simp⟩) hS (fun hSb => ?_)
  simp only [List.getElem_toArray, List.getElem_cons_zero, List.getElem_cons_succ, Act.put, List.setIfInBounds_toArray, List.set_cons_zero, List.set_cons_succ]
  clear hS
  refine till_read (i := 17) (c := 19) (v := bal aR aN) (T := fun W => Tq W p q r aR aN bR bN cR cN) rfl rfl (by kernel_rfl) (by kernel_rfl) (by kernel_rfl) (by kernel_rfl) (by kernel_rfl) (fun _ _ _ h => h) (fun L w => Iff.rfl) (fun L w h1 h2 => h2) (Or.inl ⟨by rfl, fun w h => by have q0 := h.p0; have q1 := h.p1; go_simp⟩) hSb (fun hS => ?_)
  simp only [List.getElem_toArray, List.getElem_cons_zero, List.getElem_cons_succ, Act.put, List.setIfInBounds_toArray, List.set_cons_zero, List.set_cons_succ]
  clear hSb
  refine till_read (i := 18) (c := 19) (v := bal bR bN) (T := fun W => Tq W p q r aR aN bR bN cR cN) rfl rfl (by kernel_rfl) (by kernel_rfl) (by kernel_rfl) (by kernel_rfl) (by kernel_rfl) (fun _ _ _ h => h) (fun L w => Iff.rfl) (fun L w h1 h2 => h2) (Or.inl ⟨by rfl, fun w h => by have q0 := h.q0; have q1 := h.q1; go_simp⟩) hS (fun hSb => ?_)
  simp only [List.getElem_toArray, List.getElem_cons_zero, List.getElem_cons_succ, Act.put, List.setIfInBounds_toArray, List.set_cons_zero, List.set_cons_succ]
  clear hS
  refine till_read (i := 20) (c := 22) (v := bal bR bN) (T := fun W => Tq W p q r aR aN bR bN cR cN) rfl rfl (by kernel_rfl) (by kernel_rfl) (by kernel_rfl) (by kernel_rfl) (by kernel_rfl) (fun _ _ _ h => h) (fun L w => Iff.rfl) (fun L w h1 h2 => h2) (Or.inl ⟨by rfl, fun w h => by have q0 := h.q0; have q1 := h.q1; go_simp⟩) hSb (fun hS => ?_)
  simp only [List.getElem_toArray, List.getElem_cons_zero, List.getElem_cons_succ, Act.put, List.setIfInBounds_toArray, List.set_cons_zero, List.set_cons_succ]
  clear hSb
  refine till_read (i := 21) (c := 22) (v := bal aR aN) (T := fun W => Tq W p q r aR aN bR bN cR cN) rfl rfl (by kernel_rfl) (by kernel_rfl) (by kernel_rfl) (by kernel_rfl) (by kernel_rfl) (fun _ _ _ h => h) (fun L w => Iff.rfl) (fun L w h1 h2 => h2) (Or.inl ⟨by rfl, fun w h => by have q0 := h.p0; have q1 := h.p1; go_simp⟩) hS (fun hSb => ?_)
  simp only [List.getElem_toArray, List.getElem_cons_zero, List.getElem_cons_succ, Act.put, List.setIfInBounds_toArray, List.set_cons_zero, List.set_cons_succ]
  clear hS
  refine till_one (i := 19) (by kernel_rfl) rfl (fun K hK => ?_)
  simp only [List.getElem_toArray, List.getElem_cons_zero, List.getElem_cons_succ]
  rw [if_pos (by rfl)]
  go_simp
  go_wp2_with (go_at_call 11; refine (above_n aR aN bR bN _).mono ?_; rintro e v4 ⟨rfl, Hv4⟩; rw [AB.out])
  have Zv4 : Tq v4 p q r aR aN bR bN cR cN := hSb.below Hv4.out
  refine hK.out _ _ (Zv4) (fun hS => ?_)
  clear hK K
  try simp only [List.getElem_toArray, List.getElem_cons_zero, List.getElem_cons_succ, Act.put, List.setIfInBounds_toArray, List.set_cons_zero, List.set_cons_succ]
  clear hSb
  refine till_one (i := 22) (by kernel_rfl) rfl (fun K hK => ?_)
  simp only [List.getElem_toArray, List.getElem_cons_zero, List.getElem_cons_succ]
  rw [if_pos (by rfl)]
  go_simp
  go_wp2_with (go_at_call 11; refine (above_n bR bN aR aN _).mono ?_; rintro e v5 ⟨rfl, Hv5⟩; rw [BA.out])
  have Zv5 : Tq v5 p q r aR aN bR bN cR cN := hS.below Hv5.out
  refine hK.out _ _ (Zv5) (fun hSb => ?_)
  clear hK K
  try simp only [List.getElem_toArray, List.getElem_cons_zero, List.getElem_cons_succ, Act.put, List.setIfInBounds_toArray, List.set_cons_zero, List.set_cons_succ]
  clear hS
  refine till_take (i := 23) (v := .bool false) rfl (by kernel_rfl) (by kernel_rfl) (by kernel_rfl) (fun _ _ _ h => h) (fun L w => Iff.rfl) (Or.inl ⟨by rfl, fun w => by go_simp⟩) hSb (fun hS => ?_)
  simp only [List.getElem_toArray, List.getElem_cons_zero, List.getElem_cons_succ, Act.put, List.setIfInBounds_toArray, List.set_cons_zero, List.set_cons_succ]
  clear hSb
  refine till_take (i := 24) (v := .bool false) rfl (by kernel_rfl) (by kernel_rfl) (by kernel_rfl) (fun _ _ _ h => h) (fun L w => Iff.rfl) (Or.inl ⟨by rfl, fun w => by go_simp⟩) hS (fun hSb => ?_)
  simp only [List.getElem_toArray, List.getElem_cons_zero, List.getElem_cons_succ, Act.put, List.setIfInBounds_toArray, List.set_cons_zero, List.set_cons_succ]
  clear hS
  refine till_take (i := 25) (v := .bool false) rfl (by kernel_rfl) (by kernel_rfl) (by kernel_rfl) (fun _ _ _ h => h) (fun L w => Iff.rfl) (Or.inl ⟨by rfl, fun w => by go_simp⟩) hSb (fun hS => ?_)
  simp only [List.getElem_toArray, List.getElem_cons_zero, List.getElem_cons_succ, Act.put, List.setIfInBounds_toArray, List.set_cons_zero, List.set_cons_succ]
  clear hSb
  refine till_done (by kernel_rfl) ?_ _
  clear hS
  have BL3 : Below w.heap.size w v3 := ((L7.out.trans (Hv1.out.mono L7.out.size)).trans (Hv2.out.mono (Nat.le_trans L7.out.size Hv1.out.size))).trans (Hv3.out.mono (Nat.le_trans (Nat.le_trans L7.out.size Hv1.out.size) Hv2.out.size))
  have BL4 : Below w.heap.size w v4 := BL3.trans (Hv4.out.mono BL3.size)
  have BL : Hid (Below w.heap.size w v5) := BL4.trans (Hv5.out.mono BL4.size)
  clear BL3 BL4
  have TT : Tq v5 p q r aR aN bR bN cR cN := Zv5
  have x0 := TT.p0
  have x1 := TT.p1
  have y0 := TT.q0
  have y1 := TT.q1
  have z0 := TT.r0
  have z1 := TT.r1
  have BX : Hid (Below w.heap.size w v5) := BL.out
  rcases HALF with ⟨hn1, HF⟩ | ⟨hh, hn1, i1, i2, i3, i4, HF⟩
  · go_wp2_with (first
      | (go_at_call 11; refine (above_n _ _ _ _ _).mono ?_; rintro e w9 ⟨rfl, H9⟩; (first | rw [AB.out])
         have TT := TT.below H9.out
         have x0 := TT.p0
         have x1 := TT.p1
         have y0 := TT.q0
         have y1 := TT.q1
         have z0 := TT.r0
         have z1 := TT.r1
         have BX : Hid (Below w.heap.size w w9) := BX.out.trans (H9.out.mono BX.out.size))
      | (go_at_call 13; refine (HF.out _).mono ?_; rintro e w10 ⟨rfl, h10⟩; rw [h10]; clear h10))
    go_ret
    exact ⟨rfl, BX.out⟩
  · go_wp2_with (first
      | (go_at_call 11; refine (above_n _ _ _ _ _).mono ?_; rintro e w9 ⟨rfl, H9⟩; (first | rw [AB.out])
         have TT := TT.below H9.out
         have x0 := TT.p0
         have x1 := TT.p1
         have y0 := TT.q0
         have y1 := TT.q1
         have z0 := TT.r0
         have z1 := TT.r1
         have BX : Hid (Below w.heap.size w w9) := BX.out.trans (H9.out.mono BX.out.size))
      | (go_at_call 13; refine (HF.out _).mono ?_; rintro e w10 ⟨rfl, h10⟩; rw [h10]; clear h10))
    go_ret
    exact ⟨rfl, BX.out⟩
set_option maxHeartbeats 4000000 in
theorem numbers_gt {M : Nat} {E : Nat → Addr} {w : World} {aR aN bR bN cR cN nn : Int} (hE : Hid (Sent w M E)) (hM : 2 ≤ M) (hn : nn ≤ 9223372036854775807) (hne : ¬ (aR = bR ∧ aN = bN)) (AB : Hid (abv aR aN bR bN = true)) (BA : Hid (abv bR bN aR aN = false)) (BC : Hid (abv bR bN cR cN = false)) :
    Calls Tryd.prog 4 #[nums aR aN bR bN cR cN nn] w fun e w' => e = .returned (.bool true) ∧ Hid (Below w.heap.size w w') := by
  have EQ : ∀ w, (Op.equalIn 10000 34 (bal aR aN) (bal bR bN)).run Tryd.prog w = .ok false w := fun w => by rw [eqBal, decide_eq_false hne]
  have AA : Hid (abv aR aN aR aN = false) := by show _ = _; exact decide_eq_false (by omega)
  have HALF : (nn < 1 ∧ Hid (∀ w, Calls Tryd.prog 13 #[.int .i64 nn] w fun e w' => e = .returned (.int .i64 0) ∧ w' = w)) ∨ (∃ hh : Int, ¬ (nn < 1) ∧ nn - hh < hh ∧ hh - 1 ≤ nn - (hh - 1) ∧ 1 ≤ hh ∧ hh ≤ 4611686018427387904 ∧ Hid (∀ w, Calls Tryd.prog 13 #[.int .i64 nn] w fun e w' => e = .returned (.int .i64 hh) ∧ w' = w)) := by
    by_cases h : nn < 1
    · exact .inl ⟨h, fun w => half_no h w⟩
    · exact .inr ⟨nn / 2 + 1, h, by omega, by omega, by omega, by omega, fun w => half_n (by omega) hn w⟩
  obtain ⟨gx, Hgx⟩ : ∃ gx, Hid (w.heap.size = gx) := ⟨_, rfl⟩
  obtain ⟨w1, Hw1⟩ : ∃ w1, Hid ((w.alloc (.cells #[.int .i64 aR, .int .i64 aN, .int .i64 bR, .int .i64 bN, .int .i64 cR, .int .i64 cN, .int .i64 nn] 43)).drew = w1) := ⟨_, rfl⟩
  have LW : Hid (Below w.heap.size w w1) := by rw [← Hw1.out]; exact (alloc1 w _).drew
  have N1 : Nq w1 gx aR aN bR bN cR cN nn := by rw [← Hw1.out, ← Hgx.out]; exact ⟨by simp, by simp, by simp, by simp, by simp, by simp, by simp⟩
  go_enter Tryd.func4, Tryd.ntmps4
  go_upto_region 1 with (fail)
  refine wp_region_till (S := fun L W => Nq W gx aR aN bR bN cR cN nn) (by kernel_rfl) (by rw [Hw1.out]; exact N1) (fun hS => ?_)
  rw [Hw1.out] at hS ⊢
  rw [Hgx.out]
  clear N1
  refine till_take (i := 0) (v := .pointer (some ⟨gx, 0, none⟩)) rfl (by kernel_rfl) (by kernel_rfl) (by kernel_rfl) (fun _ _ _ h => h) (fun L w => Iff.rfl) (Or.inl ⟨by rfl, fun w => by go_simp⟩) hS (fun hSb => ?_)
  simp only [List.getElem_toArray, List.getElem_cons_zero, List.getElem_cons_succ, Act.put, List.setIfInBounds_toArray, List.set_cons_zero, List.set_cons_succ]
  clear hS
  refine till_read (i := 1) (c := 11) (v := bal aR aN) (T := fun W => Nq W gx aR aN bR bN cR cN nn) rfl rfl (by kernel_rfl) (by kernel_rfl) (by kernel_rfl) (by kernel_rfl) (by kernel_rfl) (fun _ _ _ h => h) (fun L w => Iff.rfl) (fun L w h1 h2 => h2) (Or.inl ⟨by rfl, fun w h => by have q0 := h.c0; have q1 := h.c1; go_simp⟩) hSb (fun hS => ?_)
  simp only [List.getElem_toArray, List.getElem_cons_zero, List.getElem_cons_succ, Act.put, List.setIfInBounds_toArray, List.set_cons_zero, List.set_cons_succ]
  clear hSb
  refine till_take (i := 2) (v := .pointer (some ⟨gx, 2, none⟩)) rfl (by kernel_rfl) (by kernel_rfl) (by kernel_rfl) (fun _ _ _ h => h) (fun L w => Iff.rfl) (Or.inl ⟨by rfl, fun w => by go_simp⟩) hS (fun hSb => ?_)
  simp only [List.getElem_toArray, List.getElem_cons_zero, List.getElem_cons_succ, Act.put, List.setIfInBounds_toArray, List.set_cons_zero, List.set_cons_succ]
  clear hS
  refine till_read (i := 3) (c := 12) (v := bal bR bN) (T := fun W => Nq W gx aR aN bR bN cR cN nn) rfl rfl (by kernel_rfl) (by kernel_rfl) (by kernel_rfl) (by kernel_rfl) (by kernel_rfl) (fun _ _ _ h => h) (fun L w => Iff.rfl) (fun L w h1 h2 => h2) (Or.inl ⟨by rfl, fun w h => by have q0 := h.c2; have q1 := h.c3; go_simp⟩) hSb (fun hS => ?_)
  simp only [List.getElem_toArray, List.getElem_cons_zero, List.getElem_cons_succ, Act.put, List.setIfInBounds_toArray, List.set_cons_zero, List.set_cons_succ]
  clear hSb
  refine till_take (i := 4) (v := .pointer (some ⟨gx, 4, none⟩)) rfl (by kernel_rfl) (by kernel_rfl) (by kernel_rfl) (fun _ _ _ h => h) (fun L w => Iff.rfl) (Or.inl ⟨by rfl, fun w => by go_simp⟩) hS (fun hSb => ?_)
  simp only [List.getElem_toArray, List.getElem_cons_zero, List.getElem_cons_succ, Act.put, List.setIfInBounds_toArray, List.set_cons_zero, List.set_cons_succ]
  clear hS
  refine till_read (i := 5) (c := 13) (v := bal cR cN) (T := fun W => Nq W gx aR aN bR bN cR cN nn) rfl rfl (by kernel_rfl) (by kernel_rfl) (by kernel_rfl) (by kernel_rfl) (by kernel_rfl) (fun _ _ _ h => h) (fun L w => Iff.rfl) (fun L w h1 h2 => h2) (Or.inl ⟨by rfl, fun w h => by have q0 := h.c4; have q1 := h.c5; go_simp⟩) hSb (fun hS => ?_)
  simp only [List.getElem_toArray, List.getElem_cons_zero, List.getElem_cons_succ, Act.put, List.setIfInBounds_toArray, List.set_cons_zero, List.set_cons_succ]
  clear hSb
  refine till_take (i := 6) (v := .pointer (some ⟨gx, 6, none⟩)) rfl (by kernel_rfl) (by kernel_rfl) (by kernel_rfl) (fun _ _ _ h => h) (fun L w => Iff.rfl) (Or.inl ⟨by rfl, fun w => by go_simp⟩) hS (fun hSb => ?_)
  simp only [List.getElem_toArray, List.getElem_cons_zero, List.getElem_cons_succ, Act.put, List.setIfInBounds_toArray, List.set_cons_zero, List.set_cons_succ]
  clear hS
  refine till_read (i := 7) (c := 14) (v := .int .i64 nn) (T := fun W => Nq W gx aR aN bR bN cR cN nn) rfl rfl (by kernel_rfl) (by kernel_rfl) (by kernel_rfl) (by kernel_rfl) (by kernel_rfl) (fun _ _ _ h => h) (fun L w => Iff.rfl) (fun L w h1 h2 => h2) (Or.inl ⟨by rfl, fun w h => by have q0 := h.c6; go_simp⟩) hSb (fun hS => ?_)
  simp only [List.getElem_toArray, List.getElem_cons_zero, List.getElem_cons_succ, Act.put, List.setIfInBounds_toArray, List.set_cons_zero, List.set_cons_succ]
  clear hSb
  refine till_alloc3 (i := 8) (j := 9) (k := 10) (d := 3) (e := 4) (g := 5) rfl rfl rfl rfl rfl rfl rfl rfl rfl rfl rfl rfl (by decide) (by decide) (by decide) (by decide) (by decide) (by decide) (by kernel_rfl) (by kernel_rfl) (by kernel_rfl) (by kernel_rfl) (by kernel_rfl) (by kernel_rfl) (by kernel_rfl) (fun L' => ⟨hS.below (alloc1 _ _), hS.below (alloc2 _ _ _), hS.below (three_zb _).1⟩) (fun p q r hp hq hr hpq hpr hqr => ?_)
  simp only [List.getElem_toArray, List.getElem_cons_zero, List.getElem_cons_succ, Act.put, List.setIfInBounds_toArray, List.set_cons_zero, List.set_cons_succ]
  obtain ⟨W3, HW3⟩ : ∃ W3, Hid ((((w1.alloc zb).alloc zb).alloc zb) = W3) := ⟨_, rfl⟩
  have z3 : ∀ x, w1.heap.size ≤ x → x < w1.heap.size + 3 → W3.heap[x]? = some zb := by rw [← HW3.out]; exact (three_zb w1).2.2
  have B3 : Hid (Below w1.heap.size w1 W3) := by rw [← HW3.out]; exact (three_zb w1).1
  have N3 : Nq W3 gx aR aN bR bN cR cN nn := hS.below B3.out
  have gl : gx < w1.heap.size := cell_lt hS.c0
  have kp := z3 p hp.1 hp.2
  have kq := z3 q hq.1 hq.2
  have kr := z3 r hr.1 hr.2
  obtain ⟨W4, HW4⟩ : ∃ W4, Hid ((W3.setCell ⟨p, 0, none⟩ (.int .i64 aR)).setCell ⟨p, 1, none⟩ (.int .i64 aN) = W4) := ⟨_, rfl⟩
  have C4 : Ch W3 W4 (fun k => k = p) := by rw [← HW4.out]; exact (Ch.set _ p 0 _).trans (Ch.set _ p 1 _)
  have kp4 : W4.heap[p]? = some (.cells #[.int .i64 aR, .int .i64 aN] 34 (0, 0)) := by rw [← HW4.out, set_blk (set_blk kp 0 _) 1 _]; rfl
  have s3 : w1.heap.size + 3 ≤ W3.heap.size := by rw [← HW3.out, (three_zb w1).2.1]; omega
  have kq4 : W4.heap[q]? = some zb := (C4.block q (by omega) (by omega)).trans kq
  have kr4 : W4.heap[r]? = some zb := (C4.block r (by omega) (by omega)).trans kr
  have N4 : Nq W4 gx aR aN bR bN cR cN nn := N3.blk (C4.block gx (by omega) (by omega))
  obtain ⟨W5, HW5⟩ : ∃ W5, Hid ((W4.setCell ⟨q, 0, none⟩ (.int .i64 bR)).setCell ⟨q, 1, none⟩ (.int .i64 bN) = W5) := ⟨_, rfl⟩
  have C5 : Ch W4 W5 (fun k => k = q) := by rw [← HW5.out]; exact (Ch.set _ q 0 _).trans (Ch.set _ q 1 _)
  have kq5 : W5.heap[q]? = some (.cells #[.int .i64 bR, .int .i64 bN] 34 (0, 0)) := by rw [← HW5.out, set_blk (set_blk kq4 0 _) 1 _]; rfl
  have s4 := C4.size
  have kp5 := (C5.block p (by omega) (by omega)).trans kp4
  have kr5 : W5.heap[r]? = some zb := (C5.block r (by omega) (by omega)).trans kr4
  have N5 : Nq W5 gx aR aN bR bN cR cN nn := N4.blk (C5.block gx (by omega) (by omega))
  obtain ⟨W6, HW6⟩ : ∃ W6, Hid ((W5.setCell ⟨r, 0, none⟩ (.int .i64 cR)).setCell ⟨r, 1, none⟩ (.int .i64 cN) = W6) := ⟨_, rfl⟩
  have C6 : Ch W5 W6 (fun k => k = r) := by rw [← HW6.out]; exact (Ch.set _ r 0 _).trans (Ch.set _ r 1 _)
  have kr6 : W6.heap[r]? = some (.cells #[.int .i64 cR, .int .i64 cN] 34 (0, 0)) := by rw [← HW6.out, set_blk (set_blk kr5 0 _) 1 _]; rfl
  have s5 := C5.size
  have kp6 := (C6.block p (by omega) (by omega)).trans kp5
  have kq6 := (C6.block q (by omega) (by omega)).trans kq5
  have N6 : Nq W6 gx aR aN bR bN cR cN nn := N5.blk (C6.block gx (by omega) (by omega))
  have T6 : Hid (Tq W6 p q r aR aN bR bN cR cN) := ⟨kp6, kq6, kr6⟩
  have L6 : Hid (Below w.heap.size w W6) := by
    have b3 := LW.out.trans (B3.out.mono LW.out.size)
    have lw := LW.out.size
    have b4 := b3.trans (C4.toBelow (B := w.heap.size) b3.size (fun k hk e => by omega))
    have b5 := b4.trans (C5.toBelow (B := w.heap.size) b4.size (fun k hk e => by omega))
    exact b5.trans (C6.toBelow (B := w.heap.size) b5.size (fun k hk e => by omega))
  have p0 : W3.cell? ⟨p, 0, none⟩ = some (.int .i64 0) := by simp [World.cell?, kp]
  have p1 : W3.cell? ⟨p, 1, none⟩ = some (.int .i64 0) := by simp [World.cell?, kp]
  have pf : ∀ i, W3.frozen? ⟨p, i, none⟩ = false := fun i => by simp [World.frozen?, kp]
  have q0 : W4.cell? ⟨q, 0, none⟩ = some (.int .i64 0) := by simp [World.cell?, kq4]
  have q1 : W4.cell? ⟨q, 1, none⟩ = some (.int .i64 0) := by simp [World.cell?, kq4]
  have qf : ∀ i, W4.frozen? ⟨q, i, none⟩ = false := fun i => by simp [World.frozen?, kq4]
  have r0 : W5.cell? ⟨r, 0, none⟩ = some (.int .i64 0) := by simp [World.cell?, kr5]
  have r1 : W5.cell? ⟨r, 1, none⟩ = some (.int .i64 0) := by simp [World.cell?, kr5]
  have rf : ∀ i, W5.frozen? ⟨r, i, none⟩ = false := fun i => by simp [World.frozen?, kr5]
  rw [HW3.out]
  clear z3 kp kq kr kp4 kq4 kr4 kp5 kq5 kr5 kp6 kq6 kr6 C4 C5 C6 s3 s4 s5 gl hp hq hr hpq hpr hqr B3
  refine till_one (i := 11) (by kernel_rfl) rfl (fun K hK => ?_)
  simp only [List.getElem_toArray, List.getElem_cons_zero, List.getElem_cons_succ]
  rw [if_pos (by rfl)]
  go_simp
  rw [HW4.out]
  refine hK.out _ _ (N4) (fun hSb => ?_)
  clear hK K
  try simp only [List.getElem_toArray, List.getElem_cons_zero, List.getElem_cons_succ, Act.put, List.setIfInBounds_toArray, List.set_cons_zero, List.set_cons_succ]
  clear hS
  refine till_one (i := 12) (by kernel_rfl) rfl (fun K hK => ?_)
  simp only [List.getElem_toArray, List.getElem_cons_zero, List.getElem_cons_succ]
  rw [if_pos (by rfl)]
  go_simp
  rw [HW5.out]
  refine hK.out _ _ (N5) (fun hS => ?_)
  clear hK K
  try simp only [List.getElem_toArray, List.getElem_cons_zero, List.getElem_cons_succ, Act.put, List.setIfInBounds_toArray, List.set_cons_zero, List.set_cons_succ]
  clear hSb
  refine till_one (i := 13) (by kernel_rfl) rfl (fun K hK => ?_)
  simp only [List.getElem_toArray, List.getElem_cons_zero, List.getElem_cons_succ]
  rw [if_pos (by rfl)]
  go_simp
  rw [HW6.out]
  refine hK.out _ _ (N6) (fun hSb => ?_)
  clear hK K
  try simp only [List.getElem_toArray, List.getElem_cons_zero, List.getElem_cons_succ, Act.put, List.setIfInBounds_toArray, List.set_cons_zero, List.set_cons_succ]
  clear hS
  refine till_one (i := 14) (by kernel_rfl) rfl (fun K hK => ?_)
  simp only [List.getElem_toArray, List.getElem_cons_zero, List.getElem_cons_succ]
  rw [if_pos (by rfl)]
  go_simp
  refine hK.out _ _ (hSb) (fun hS => ?_)
  clear hK K
  try simp only [List.getElem_toArray, List.getElem_cons_zero, List.getElem_cons_succ, Act.put, List.setIfInBounds_toArray, List.set_cons_zero, List.set_cons_succ]
  clear hSb
  refine till_done (by kernel_rfl) ?_ _
  clear hS
  have E6 : Hid (Sent W6 M E) := hE.out.below L6.out
  clear p0 p1 pf q0 q1 qf r0 r1 rf
  go_upto_region 4 with (go_at_call 8; refine (alive_n E6 hM).mono ?_; rintro e w7 ⟨rfl, H7⟩)
  obtain ⟨v0, Hv0⟩ : ∃ v0, Hid (w7.drew = v0) := ⟨_, rfl⟩
  have B7 : Hid (Below W6.heap.size W6 v0) := by rw [← Hv0.out]; exact H7.out.drew
  have T7 : Tq v0 p q r aR aN bR bN cR cN := T6.out.below B7.out
  have L7 : Hid (Below w.heap.size w v0) := L6.out.trans (B7.out.mono L6.out.size)
  refine wp_region_till (S := fun L W => Tq W p q r aR aN bR bN cR cN) (by kernel_rfl) (by rw [Hv0.out]; exact T7) (fun hS => ?_)
  rw [Hv0.out] at hS ⊢
  refine till_read (i := 0) (c := 2) (v := bal aR aN) (T := fun W => Tq W p q r aR aN bR bN cR cN) rfl rfl (by kernel_rfl) (by kernel_rfl) (by kernel_rfl) (by kernel_rfl) (by kernel_rfl) (fun _ _ _ h => h) (fun L w => Iff.rfl) (fun L w h1 h2 => h2) (Or.inl ⟨by rfl, fun w h => by have q0 := h.p0; have q1 := h.p1; go_simp⟩) hS (fun hSb => ?_)
  simp only [List.getElem_toArray, List.getElem_cons_zero, List.getElem_cons_succ, Act.put, List.setIfInBounds_toArray, List.set_cons_zero, List.set_cons_succ]
  clear hS
  refine till_read (i := 1) (c := 2) (v := bal bR bN) (T := fun W => Tq W p q r aR aN bR bN cR cN) rfl rfl (by kernel_rfl) (by kernel_rfl) (by kernel_rfl) (by kernel_rfl) (by kernel_rfl) (fun _ _ _ h => h) (fun L w => Iff.rfl) (fun L w h1 h2 => h2) (Or.inl ⟨by rfl, fun w h => by have q0 := h.q0; have q1 := h.q1; go_simp⟩) hSb (fun hS => ?_)
  simp only [List.getElem_toArray, List.getElem_cons_zero, List.getElem_cons_succ, Act.put, List.setIfInBounds_toArray, List.set_cons_zero, List.set_cons_succ]
  clear hSb
  refine till_read (i := 3) (c := 5) (v := bal aR aN) (T := fun W => Tq W p q r aR aN bR bN cR cN) rfl rfl (by kernel_rfl) (by kernel_rfl) (by kernel_rfl) (by kernel_rfl) (by kernel_rfl) (fun _ _ _ h => h) (fun L w => Iff.rfl) (fun L w h1 h2 => h2) (Or.inl ⟨by rfl, fun w h => by have q0 := h.p0; have q1 := h.p1; go_simp⟩) hS (fun hSb => ?_)
  simp only [List.getElem_toArray, List.getElem_cons_zero, List.getElem_cons_succ, Act.put, List.setIfInBounds_toArray, List.set_cons_zero, List.set_cons_succ]
  clear hS
  refine till_read (i := 4) (c := 5) (v := bal bR bN) (T := fun W => Tq W p q r aR aN bR bN cR cN) rfl rfl (by kernel_rfl) (by kernel_rfl) (by kernel_rfl) (by kernel_rfl) (by kernel_rfl) (fun _ _ _ h => h) (fun L w => Iff.rfl) (fun L w h1 h2 => h2) (Or.inl ⟨by rfl, fun w h => by have q0 := h.q0; have q1 := h.q1; go_simp⟩) hSb (fun hS => ?_)
  simp only [List.getElem_toArray, List.getElem_cons_zero, List.getElem_cons_succ, Act.put, List.setIfInBounds_toArray, List.set_cons_zero, List.set_cons_succ]
  clear hSb
  refine till_one (i := 2) (by kernel_rfl) rfl (fun K hK => ?_)
  simp only [List.getElem_toArray, List.getElem_cons_zero, List.getElem_cons_succ]
  rw [if_pos (by rfl)]
  go_simp
  go_wp2_with (go_at_call 11; refine (above_n aR aN bR bN _).mono ?_; rintro e v1 ⟨rfl, Hv1⟩; rw [AB.out])
  have Zv1 : Tq v1 p q r aR aN bR bN cR cN := hS.below Hv1.out
  refine hK.out _ _ (Zv1) (fun hSb => ?_)
  clear hK K
  try simp only [List.getElem_toArray, List.getElem_cons_zero, List.getElem_cons_succ, Act.put, List.setIfInBounds_toArray, List.set_cons_zero, List.set_cons_succ]
  clear hS
  refine till_one (i := 5) (by kernel_rfl) rfl (fun K hK => ?_)
  simp only [List.getElem_toArray, List.getElem_cons_zero, List.getElem_cons_succ]
  rw [if_pos (by rfl)]
  go_simp
  go_wp2_with (go_at_call 12; refine (refAbove_n aR aN bR bN _).mono ?_; rintro e v2 ⟨rfl, Hv2⟩; rw [AB.out])
  have Zv2 : Tq v2 p q r aR aN bR bN cR cN := hSb.below Hv2.out
  refine hK.out _ _ (Zv2) (fun hS => ?_)
  clear hK K
  try simp only [List.getElem_toArray, List.getElem_cons_zero, List.getElem_cons_succ, Act.put, List.setIfInBounds_toArray, List.set_cons_zero, List.set_cons_succ]
  clear hSb
  refine till_take (i := 6) (v := .bool false) rfl (by kernel_rfl) (by kernel_rfl) (by kernel_rfl) (fun _ _ _ h => h) (fun L w => Iff.rfl) (Or.inl ⟨by rfl, fun w => by go_simp⟩) hS (fun hSb => ?_)
  simp only [List.getElem_toArray, List.getElem_cons_zero, List.getElem_cons_succ, Act.put, List.setIfInBounds_toArray, List.set_cons_zero, List.set_cons_succ]
  clear hS
  refine till_take (i := 7) (v := .bool false) rfl (by kernel_rfl) (by kernel_rfl) (by kernel_rfl) (fun _ _ _ h => h) (fun L w => Iff.rfl) (Or.inl ⟨by rfl, fun w => by go_simp⟩) hSb (fun hS => ?_)
  simp only [List.getElem_toArray, List.getElem_cons_zero, List.getElem_cons_succ, Act.put, List.setIfInBounds_toArray, List.set_cons_zero, List.set_cons_succ]
  clear hSb
  refine till_read (i := 8) (c := 10) (v := bal aR aN) (T := fun W => Tq W p q r aR aN bR bN cR cN) rfl rfl (by kernel_rfl) (by kernel_rfl) (by kernel_rfl) (by kernel_rfl) (by kernel_rfl) (fun _ _ _ h => h) (fun L w => Iff.rfl) (fun L w h1 h2 => h2) (Or.inl ⟨by rfl, fun w h => by have q0 := h.p0; have q1 := h.p1; go_simp⟩) hS (fun hSb => ?_)
  simp only [List.getElem_toArray, List.getElem_cons_zero, List.getElem_cons_succ, Act.put, List.setIfInBounds_toArray, List.set_cons_zero, List.set_cons_succ]
  clear hS
  refine till_read (i := 9) (c := 10) (v := bal aR aN) (T := fun W => Tq W p q r aR aN bR bN cR cN) rfl rfl (by kernel_rfl) (by kernel_rfl) (by kernel_rfl) (by kernel_rfl) (by kernel_rfl) (fun _ _ _ h => h) (fun L w => Iff.rfl) (fun L w h1 h2 => h2) (Or.inl ⟨by rfl, fun w h => by have q0 := h.p0; have q1 := h.p1; go_simp⟩) hSb (fun hS => ?_)
  simp only [List.getElem_toArray, List.getElem_cons_zero, List.getElem_cons_succ, Act.put, List.setIfInBounds_toArray, List.set_cons_zero, List.set_cons_succ]
  clear hSb
  refine till_one (i := 10) (by kernel_rfl) rfl (fun K hK => ?_)
  simp only [List.getElem_toArray, List.getElem_cons_zero, List.getElem_cons_succ]
  rw [if_pos (by rfl)]
  go_simp
  go_wp2_with (go_at_call 11; refine (above_n aR aN aR aN _).mono ?_; rintro e v3 ⟨rfl, Hv3⟩; rw [AA.out])
  have Zv3 : Tq v3 p q r aR aN bR bN cR cN := hS.below Hv3.out
  refine hK.out _ _ (Zv3) (fun hSb => ?_)
  clear hK K
  try simp only [List.getElem_toArray, List.getElem_cons_zero, List.getElem_cons_succ, Act.put, List.setIfInBounds_toArray, List.set_cons_zero, List.set_cons_succ]
  clear hS
  refine till_take (i := 11) (v := .bool false) rfl (by kernel_rfl) (by kernel_rfl) (by kernel_rfl) (fun _ _ _ h => h) (fun L w => Iff.rfl) (Or.inl ⟨by rfl, fun w => by go_simp⟩) hSb (fun hS => ?_)
  simp only [List.getElem_toArray, List.getElem_cons_zero, List.getElem_cons_succ, Act.put, List.setIfInBounds_toArray, List.set_cons_zero, List.set_cons_succ]
  clear hSb
  refine till_take (i := 12) (v := .bool false) rfl (by kernel_rfl) (by kernel_rfl) (by kernel_rfl) (fun _ _ _ h => h) (fun L w => Iff.rfl) (Or.inl ⟨by rfl, fun w => by go_simp⟩) hS (fun hSb => ?_)
  simp only [List.getElem_toArray, List.getElem_cons_zero, List.getElem_cons_succ, Act.put, List.setIfInBounds_toArray, List.set_cons_zero, List.set_cons_succ]
  clear hS
  refine till_read (i := 13) (c := 15) (v := bal aR aN) (T := fun W => Tq W p q r aR aN bR bN cR cN) rfl rfl (by kernel_rfl) (by kernel_rfl) (by kernel_rfl) (by kernel_rfl) (by kernel_rfl) (fun _ _ _ h => h) (fun L w => Iff.rfl) (fun L w h1 h2 => h2) (Or.inl ⟨by rfl, fun w h => by have q0 := h.p0; have q1 := h.p1; go_simp⟩) hSb (fun hS => ?_)
  simp only [List.getElem_toArray, List.getElem_cons_zero, List.getElem_cons_succ, Act.put, List.setIfInBounds_toArray, List.set_cons_zero, List.set_cons_succ]
  clear hSb
  refine till_read (i := 14) (c := 15) (v := bal bR bN) (T := fun W => Tq W p q r aR aN bR bN cR cN) rfl rfl (by kernel_rfl) (by kernel_rfl) (by kernel_rfl) (by kernel_rfl) (by kernel_rfl) (fun _ _ _ h => h) (fun L w => Iff.rfl) (fun L w h1 h2 => h2) (Or.inl ⟨by rfl, fun w h => by have q0 := h.q0; have q1 := h.q1; go_simp⟩) hS (fun hSb => ?_)
  simp only [List.getElem_toArray, List.getElem_cons_zero, List.getElem_cons_succ, Act.put, List.setIfInBounds_toArray, List.set_cons_zero, List.set_cons_succ]
  clear hS
  refine till_take (i := 15) (v := .bool true) rfl (by kernel_rfl) (by kernel_rfl) (by kernel_rfl) (fun _ _ _ h => h) (fun L w => Iff.rfl) (Or.inl ⟨by rfl, fun w => by go_simp⟩) hSb (fun hS => ?_)
  simp only [List.getElem_toArray, List.getElem_cons_zero, List.getElem_cons_succ, Act.put, List.setIfInBounds_toArray, List.set_cons_zero, List.set_cons_succ]
  clear hSb
  refine till_take (i := 16) (v := .bool true) rfl (by kernel_rfl) (by kernel_rfl) (by kernel_rfl) (fun _ _ _ h => h) (fun L w => Iff.rfl) (Or.inl ⟨by rfl, fun w => by go_simp⟩) hS (fun hSb => ?_)
  simp only [List.getElem_toArray, List.getElem_cons_zero, List.getElem_cons_succ, Act.put, List.setIfInBounds_toArray, List.set_cons_zero, List.set_cons_succ]
  clear hS
  refine till_read (i := 17) (c := 19) (v := bal aR aN) (T := fun W => Tq W p q r aR aN bR bN cR cN) rfl rfl (by kernel_rfl) (by kernel_rfl) (by kernel_rfl) (by kernel_rfl) (by kernel_rfl) (fun _ _ _ h => h) (fun L w => Iff.rfl) (fun L w h1 h2 => h2) (Or.inl ⟨by rfl, fun w h => by have q0 := h.p0; have q1 := h.p1; go_simp⟩) hSb (fun hS => ?_)
  simp only [List.getElem_toArray, List.getElem_cons_zero, List.getElem_cons_succ, Act.put, List.setIfInBounds_toArray, List.set_cons_zero, List.set_cons_succ]
  clear hSb
  refine till_read (i := 18) (c := 19) (v := bal bR bN) (T := fun W => Tq W p q r aR aN bR bN cR cN) rfl rfl (by kernel_rfl) (by kernel_rfl) (by kernel_rfl) (by kernel_rfl) (by kernel_rfl) (fun _ _ _ h => h) (fun L w => Iff.rfl) (fun L w h1 h2 => h2) (Or.inl ⟨by rfl, fun w h => by have q0 := h.q0; have q1 := h.q1; go_simp⟩) hS (fun hSb => ?_)
  simp only [List.getElem_toArray, List.getElem_cons_zero, List.getElem_cons_succ, Act.put, List.setIfInBounds_toArray, List.set_cons_zero, List.set_cons_succ]
  clear hS
  refine till_read (i := 20) (c := 22) (v := bal bR bN) (T := fun W => Tq W p q r aR aN bR bN cR cN) rfl rfl (by kernel_rfl) (by kernel_rfl) (by kernel_rfl) (by kernel_rfl) (by kernel_rfl) (fun _ _ _ h => h) (fun L w => Iff.rfl) (fun L w h1 h2 => h2) (Or.inl ⟨by rfl, fun w h => by have q0 := h.q0; have q1 := h.q1; go_simp⟩) hSb (fun hS => ?_)
  simp only [List.getElem_toArray, List.getElem_cons_zero, List.getElem_cons_succ, Act.put, List.setIfInBounds_toArray, List.set_cons_zero, List.set_cons_succ]
  clear hSb
  refine till_read (i := 21) (c := 22) (v := bal aR aN) (T := fun W => Tq W p q r aR aN bR bN cR cN) rfl rfl (by kernel_rfl) (by kernel_rfl) (by kernel_rfl) (by kernel_rfl) (by kernel_rfl) (fun _ _ _ h => h) (fun L w => Iff.rfl) (fun L w h1 h2 => h2) (Or.inl ⟨by rfl, fun w h => by have q0 := h.p0; have q1 := h.p1; go_simp⟩) hS (fun hSb => ?_)
  simp only [List.getElem_toArray, List.getElem_cons_zero, List.getElem_cons_succ, Act.put, List.setIfInBounds_toArray, List.set_cons_zero, List.set_cons_succ]
  clear hS
  refine till_one (i := 19) (by kernel_rfl) rfl (fun K hK => ?_)
  simp only [List.getElem_toArray, List.getElem_cons_zero, List.getElem_cons_succ]
  rw [if_pos (by rfl)]
  go_simp
  go_wp2_with (go_at_call 11; refine (above_n aR aN bR bN _).mono ?_; rintro e v4 ⟨rfl, Hv4⟩; rw [AB.out])
  have Zv4 : Tq v4 p q r aR aN bR bN cR cN := hSb.below Hv4.out
  refine hK.out _ _ (Zv4) (fun hS => ?_)
  clear hK K
  try simp only [List.getElem_toArray, List.getElem_cons_zero, List.getElem_cons_succ, Act.put, List.setIfInBounds_toArray, List.set_cons_zero, List.set_cons_succ]
  clear hSb
  refine till_one (i := 22) (by kernel_rfl) rfl (fun K hK => ?_)
  simp only [List.getElem_toArray, List.getElem_cons_zero, List.getElem_cons_succ]
  rw [if_pos (by rfl)]
  go_simp
  go_wp2_with (go_at_call 11; refine (above_n bR bN aR aN _).mono ?_; rintro e v5 ⟨rfl, Hv5⟩; rw [BA.out])
  have Zv5 : Tq v5 p q r aR aN bR bN cR cN := hS.below Hv5.out
  refine hK.out _ _ (Zv5) (fun hSb => ?_)
  clear hK K
  try simp only [List.getElem_toArray, List.getElem_cons_zero, List.getElem_cons_succ, Act.put, List.setIfInBounds_toArray, List.set_cons_zero, List.set_cons_succ]
  clear hS
  refine till_take (i := 23) (v := .bool false) rfl (by kernel_rfl) (by kernel_rfl) (by kernel_rfl) (fun _ _ _ h => h) (fun L w => Iff.rfl) (Or.inl ⟨by rfl, fun w => by go_simp⟩) hSb (fun hS => ?_)
  simp only [List.getElem_toArray, List.getElem_cons_zero, List.getElem_cons_succ, Act.put, List.setIfInBounds_toArray, List.set_cons_zero, List.set_cons_succ]
  clear hSb
  refine till_take (i := 24) (v := .bool false) rfl (by kernel_rfl) (by kernel_rfl) (by kernel_rfl) (fun _ _ _ h => h) (fun L w => Iff.rfl) (Or.inl ⟨by rfl, fun w => by go_simp⟩) hS (fun hSb => ?_)
  simp only [List.getElem_toArray, List.getElem_cons_zero, List.getElem_cons_succ, Act.put, List.setIfInBounds_toArray, List.set_cons_zero, List.set_cons_succ]
  clear hS
  refine till_take (i := 25) (v := .bool false) rfl (by kernel_rfl) (by kernel_rfl) (by kernel_rfl) (fun _ _ _ h => h) (fun L w => Iff.rfl) (Or.inl ⟨by rfl, fun w => by go_simp⟩) hSb (fun hS => ?_)
  simp only [List.getElem_toArray, List.getElem_cons_zero, List.getElem_cons_succ, Act.put, List.setIfInBounds_toArray, List.set_cons_zero, List.set_cons_succ]
  clear hSb
  refine till_done (by kernel_rfl) ?_ _
  clear hS
  have BL3 : Below w.heap.size w v3 := ((L7.out.trans (Hv1.out.mono L7.out.size)).trans (Hv2.out.mono (Nat.le_trans L7.out.size Hv1.out.size))).trans (Hv3.out.mono (Nat.le_trans (Nat.le_trans L7.out.size Hv1.out.size) Hv2.out.size))
  have BL4 : Below w.heap.size w v4 := BL3.trans (Hv4.out.mono BL3.size)
  have BL : Hid (Below w.heap.size w v5) := BL4.trans (Hv5.out.mono BL4.size)
  clear BL3 BL4
  have TT : Tq v5 p q r aR aN bR bN cR cN := Zv5
  have x0 := TT.p0
  have x1 := TT.p1
  have y0 := TT.q0
  have y1 := TT.q1
  have z0 := TT.r0
  have z1 := TT.r1
  have BX : Hid (Below w.heap.size w v5) := BL.out
  rcases HALF with ⟨hn1, HF⟩ | ⟨hh, hn1, i1, i2, i3, i4, HF⟩
  · go_wp2_with (first
      | (go_at_call 11; refine (above_n _ _ _ _ _).mono ?_; rintro e w9 ⟨rfl, H9⟩; (first | rw [AB.out] | rw [BC.out])
         have TT := TT.below H9.out
         have x0 := TT.p0
         have x1 := TT.p1
         have y0 := TT.q0
         have y1 := TT.q1
         have z0 := TT.r0
         have z1 := TT.r1
         have BX : Hid (Below w.heap.size w w9) := BX.out.trans (H9.out.mono BX.out.size))
      | (go_at_call 13; refine (HF.out _).mono ?_; rintro e w10 ⟨rfl, h10⟩; rw [h10]; clear h10))
    go_ret
    exact ⟨rfl, BX.out⟩
  · go_wp2_with (first
      | (go_at_call 11; refine (above_n _ _ _ _ _).mono ?_; rintro e w9 ⟨rfl, H9⟩; (first | rw [AB.out] | rw [BC.out])
         have TT := TT.below H9.out
         have x0 := TT.p0
         have x1 := TT.p1
         have y0 := TT.q0
         have y1 := TT.q1
         have z0 := TT.r0
         have z1 := TT.r1
         have BX : Hid (Below w.heap.size w w9) := BX.out.trans (H9.out.mono BX.out.size))
      | (go_at_call 13; refine (HF.out _).mono ?_; rintro e w10 ⟨rfl, h10⟩; rw [h10]; clear h10))
    go_ret
    exact ⟨rfl, BX.out⟩
set_option maxHeartbeats 4000000 in
theorem numbers_gg {M : Nat} {E : Nat → Addr} {w : World} {aR aN bR bN cR cN nn : Int} (hE : Hid (Sent w M E)) (hM : 2 ≤ M) (hn : nn ≤ 9223372036854775807) (hne : ¬ (aR = bR ∧ aN = bN)) (AB : Hid (abv aR aN bR bN = true)) (BA : Hid (abv bR bN aR aN = false)) (BC : Hid (abv bR bN cR cN = true)) (AC : Hid (abv aR aN cR cN = true)) :
    Calls Tryd.prog 4 #[nums aR aN bR bN cR cN nn] w fun e w' => e = .returned (.bool true) ∧ Hid (Below w.heap.size w w') := by
  have EQ : ∀ w, (Op.equalIn 10000 34 (bal aR aN) (bal bR bN)).run Tryd.prog w = .ok false w := fun w => by rw [eqBal, decide_eq_false hne]
  have AA : Hid (abv aR aN aR aN = false) := by show _ = _; exact decide_eq_false (by omega)
  have HALF : (nn < 1 ∧ Hid (∀ w, Calls Tryd.prog 13 #[.int .i64 nn] w fun e w' => e = .returned (.int .i64 0) ∧ w' = w)) ∨ (∃ hh : Int, ¬ (nn < 1) ∧ nn - hh < hh ∧ hh - 1 ≤ nn - (hh - 1) ∧ 1 ≤ hh ∧ hh ≤ 4611686018427387904 ∧ Hid (∀ w, Calls Tryd.prog 13 #[.int .i64 nn] w fun e w' => e = .returned (.int .i64 hh) ∧ w' = w)) := by
    by_cases h : nn < 1
    · exact .inl ⟨h, fun w => half_no h w⟩
    · exact .inr ⟨nn / 2 + 1, h, by omega, by omega, by omega, by omega, fun w => half_n (by omega) hn w⟩
  obtain ⟨gx, Hgx⟩ : ∃ gx, Hid (w.heap.size = gx) := ⟨_, rfl⟩
  obtain ⟨w1, Hw1⟩ : ∃ w1, Hid ((w.alloc (.cells #[.int .i64 aR, .int .i64 aN, .int .i64 bR, .int .i64 bN, .int .i64 cR, .int .i64 cN, .int .i64 nn] 43)).drew = w1) := ⟨_, rfl⟩
  have LW : Hid (Below w.heap.size w w1) := by rw [← Hw1.out]; exact (alloc1 w _).drew
  have N1 : Nq w1 gx aR aN bR bN cR cN nn := by rw [← Hw1.out, ← Hgx.out]; exact ⟨by simp, by simp, by simp, by simp, by simp, by simp, by simp⟩
  go_enter Tryd.func4, Tryd.ntmps4
  go_upto_region 1 with (fail)
  refine wp_region_till (S := fun L W => Nq W gx aR aN bR bN cR cN nn) (by kernel_rfl) (by rw [Hw1.out]; exact N1) (fun hS => ?_)
  rw [Hw1.out] at hS ⊢
  rw [Hgx.out]
  clear N1
  refine till_take (i := 0) (v := .pointer (some ⟨gx, 0, none⟩)) rfl (by kernel_rfl) (by kernel_rfl) (by kernel_rfl) (fun _ _ _ h => h) (fun L w => Iff.rfl) (Or.inl ⟨by rfl, fun w => by go_simp⟩) hS (fun hSb => ?_)
  simp only [List.getElem_toArray, List.getElem_cons_zero, List.getElem_cons_succ, Act.put, List.setIfInBounds_toArray, List.set_cons_zero, List.set_cons_succ]
  clear hS
  refine till_read (i := 1) (c := 11) (v := bal aR aN) (T := fun W => Nq W gx aR aN bR bN cR cN nn) rfl rfl (by kernel_rfl) (by kernel_rfl) (by kernel_rfl) (by kernel_rfl) (by kernel_rfl) (fun _ _ _ h => h) (fun L w => Iff.rfl) (fun L w h1 h2 => h2) (Or.inl ⟨by rfl, fun w h => by have q0 := h.c0; have q1 := h.c1; go_simp⟩) hSb (fun hS => ?_)
  simp only [List.getElem_toArray, List.getElem_cons_zero, List.getElem_cons_succ, Act.put, List.setIfInBounds_toArray, List.set_cons_zero, List.set_cons_succ]
  clear hSb
  refine till_take (i := 2) (v := .pointer (some ⟨gx, 2, none⟩)) rfl (by kernel_rfl) (by kernel_rfl) (by kernel_rfl) (fun _ _ _ h => h) (fun L w => Iff.rfl) (Or.inl ⟨by rfl, fun w => by go_simp⟩) hS (fun hSb => ?_)
  simp only [List.getElem_toArray, List.getElem_cons_zero, List.getElem_cons_succ, Act.put, List.setIfInBounds_toArray, List.set_cons_zero, List.set_cons_succ]
  clear hS
  refine till_read (i := 3) (c := 12) (v := bal bR bN) (T := fun W => Nq W gx aR aN bR bN cR cN nn) rfl rfl (by kernel_rfl) (by kernel_rfl) (by kernel_rfl) (by kernel_rfl) (by kernel_rfl) (fun _ _ _ h => h) (fun L w => Iff.rfl) (fun L w h1 h2 => h2) (Or.inl ⟨by rfl, fun w h => by have q0 := h.c2; have q1 := h.c3; go_simp⟩) hSb (fun hS => ?_)
  simp only [List.getElem_toArray, List.getElem_cons_zero, List.getElem_cons_succ, Act.put, List.setIfInBounds_toArray, List.set_cons_zero, List.set_cons_succ]
  clear hSb
  refine till_take (i := 4) (v := .pointer (some ⟨gx, 4, none⟩)) rfl (by kernel_rfl) (by kernel_rfl) (by kernel_rfl) (fun _ _ _ h => h) (fun L w => Iff.rfl) (Or.inl ⟨by rfl, fun w => by go_simp⟩) hS (fun hSb => ?_)
  simp only [List.getElem_toArray, List.getElem_cons_zero, List.getElem_cons_succ, Act.put, List.setIfInBounds_toArray, List.set_cons_zero, List.set_cons_succ]
  clear hS
  refine till_read (i := 5) (c := 13) (v := bal cR cN) (T := fun W => Nq W gx aR aN bR bN cR cN nn) rfl rfl (by kernel_rfl) (by kernel_rfl) (by kernel_rfl) (by kernel_rfl) (by kernel_rfl) (fun _ _ _ h => h) (fun L w => Iff.rfl) (fun L w h1 h2 => h2) (Or.inl ⟨by rfl, fun w h => by have q0 := h.c4; have q1 := h.c5; go_simp⟩) hSb (fun hS => ?_)
  simp only [List.getElem_toArray, List.getElem_cons_zero, List.getElem_cons_succ, Act.put, List.setIfInBounds_toArray, List.set_cons_zero, List.set_cons_succ]
  clear hSb
  refine till_take (i := 6) (v := .pointer (some ⟨gx, 6, none⟩)) rfl (by kernel_rfl) (by kernel_rfl) (by kernel_rfl) (fun _ _ _ h => h) (fun L w => Iff.rfl) (Or.inl ⟨by rfl, fun w => by go_simp⟩) hS (fun hSb => ?_)
  simp only [List.getElem_toArray, List.getElem_cons_zero, List.getElem_cons_succ, Act.put, List.setIfInBounds_toArray, List.set_cons_zero, List.set_cons_succ]
  clear hS
  refine till_read (i := 7) (c := 14) (v := .int .i64 nn) (T := fun W => Nq W gx aR aN bR bN cR cN nn) rfl rfl (by kernel_rfl) (by kernel_rfl) (by kernel_rfl) (by kernel_rfl) (by kernel_rfl) (fun _ _ _ h => h) (fun L w => Iff.rfl) (fun L w h1 h2 => h2) (Or.inl ⟨by rfl, fun w h => by have q0 := h.c6; go_simp⟩) hSb (fun hS => ?_)
  simp only [List.getElem_toArray, List.getElem_cons_zero, List.getElem_cons_succ, Act.put, List.setIfInBounds_toArray, List.set_cons_zero, List.set_cons_succ]
  clear hSb
  refine till_alloc3 (i := 8) (j := 9) (k := 10) (d := 3) (e := 4) (g := 5) rfl rfl rfl rfl rfl rfl rfl rfl rfl rfl rfl rfl (by decide) (by decide) (by decide) (by decide) (by decide) (by decide) (by kernel_rfl) (by kernel_rfl) (by kernel_rfl) (by kernel_rfl) (by kernel_rfl) (by kernel_rfl) (by kernel_rfl) (fun L' => ⟨hS.below (alloc1 _ _), hS.below (alloc2 _ _ _), hS.below (three_zb _).1⟩) (fun p q r hp hq hr hpq hpr hqr => ?_)
  simp only [List.getElem_toArray, List.getElem_cons_zero, List.getElem_cons_succ, Act.put, List.setIfInBounds_toArray, List.set_cons_zero, List.set_cons_succ]
  obtain ⟨W3, HW3⟩ : ∃ W3, Hid ((((w1.alloc zb).alloc zb).alloc zb) = W3) := ⟨_, rfl⟩
  have z3 : ∀ x, w1.heap.size ≤ x → x < w1.heap.size + 3 → W3.heap[x]? = some zb := by rw [← HW3.out]; exact (three_zb w1).2.2
  have B3 : Hid (Below w1.heap.size w1 W3) := by rw [← HW3.out]; exact (three_zb w1).1
  have N3 : Nq W3 gx aR aN bR bN cR cN nn := hS.below B3.out
  have gl : gx < w1.heap.size := cell_lt hS.c0
  have kp := z3 p hp.1 hp.2
  have kq := z3 q hq.1 hq.2
  have kr := z3 r hr.1 hr.2
  obtain ⟨W4, HW4⟩ : ∃ W4, Hid ((W3.setCell ⟨p, 0, none⟩ (.int .i64 aR)).setCell ⟨p, 1, none⟩ (.int .i64 aN) = W4) := ⟨_, rfl⟩
  have C4 : Ch W3 W4 (fun k => k = p) := by rw [← HW4.out]; exact (Ch.set _ p 0 _).trans (Ch.set _ p 1 _)
  have kp4 : W4.heap[p]? = some (.cells #[.int .i64 aR, .int .i64 aN] 34 (0, 0)) := by rw [← HW4.out, set_blk (set_blk kp 0 _) 1 _]; rfl
  have s3 : w1.heap.size + 3 ≤ W3.heap.size := by rw [← HW3.out, (three_zb w1).2.1]; omega
  have kq4 : W4.heap[q]? = some zb := (C4.block q (by omega) (by omega)).trans kq
  have kr4 : W4.heap[r]? = some zb := (C4.block r (by omega) (by omega)).trans kr
  have N4 : Nq W4 gx aR aN bR bN cR cN nn := N3.blk (C4.block gx (by omega) (by omega))
  obtain ⟨W5, HW5⟩ : ∃ W5, Hid ((W4.setCell ⟨q, 0, none⟩ (.int .i64 bR)).setCell ⟨q, 1, none⟩ (.int .i64 bN) = W5) := ⟨_, rfl⟩
  have C5 : Ch W4 W5 (fun k => k = q) := by rw [← HW5.out]; exact (Ch.set _ q 0 _).trans (Ch.set _ q 1 _)
  have kq5 : W5.heap[q]? = some (.cells #[.int .i64 bR, .int .i64 bN] 34 (0, 0)) := by rw [← HW5.out, set_blk (set_blk kq4 0 _) 1 _]; rfl
  have s4 := C4.size
  have kp5 := (C5.block p (by omega) (by omega)).trans kp4
  have kr5 : W5.heap[r]? = some zb := (C5.block r (by omega) (by omega)).trans kr4
  have N5 : Nq W5 gx aR aN bR bN cR cN nn := N4.blk (C5.block gx (by omega) (by omega))
  obtain ⟨W6, HW6⟩ : ∃ W6, Hid ((W5.setCell ⟨r, 0, none⟩ (.int .i64 cR)).setCell ⟨r, 1, none⟩ (.int .i64 cN) = W6) := ⟨_, rfl⟩
  have C6 : Ch W5 W6 (fun k => k = r) := by rw [← HW6.out]; exact (Ch.set _ r 0 _).trans (Ch.set _ r 1 _)
  have kr6 : W6.heap[r]? = some (.cells #[.int .i64 cR, .int .i64 cN] 34 (0, 0)) := by rw [← HW6.out, set_blk (set_blk kr5 0 _) 1 _]; rfl
  have s5 := C5.size
  have kp6 := (C6.block p (by omega) (by omega)).trans kp5
  have kq6 := (C6.block q (by omega) (by omega)).trans kq5
  have N6 : Nq W6 gx aR aN bR bN cR cN nn := N5.blk (C6.block gx (by omega) (by omega))
  have T6 : Hid (Tq W6 p q r aR aN bR bN cR cN) := ⟨kp6, kq6, kr6⟩
  have L6 : Hid (Below w.heap.size w W6) := by
    have b3 := LW.out.trans (B3.out.mono LW.out.size)
    have lw := LW.out.size
    have b4 := b3.trans (C4.toBelow (B := w.heap.size) b3.size (fun k hk e => by omega))
    have b5 := b4.trans (C5.toBelow (B := w.heap.size) b4.size (fun k hk e => by omega))
    exact b5.trans (C6.toBelow (B := w.heap.size) b5.size (fun k hk e => by omega))
  have p0 : W3.cell? ⟨p, 0, none⟩ = some (.int .i64 0) := by simp [World.cell?, kp]
  have p1 : W3.cell? ⟨p, 1, none⟩ = some (.int .i64 0) := by simp [World.cell?, kp]
  have pf : ∀ i, W3.frozen? ⟨p, i, none⟩ = false := fun i => by simp [World.frozen?, kp]
  have q0 : W4.cell? ⟨q, 0, none⟩ = some (.int .i64 0) := by simp [World.cell?, kq4]
  have q1 : W4.cell? ⟨q, 1, none⟩ = some (.int .i64 0) := by simp [World.cell?, kq4]
  have qf : ∀ i, W4.frozen? ⟨q, i, none⟩ = false := fun i => by simp [World.frozen?, kq4]
  have r0 : W5.cell? ⟨r, 0, none⟩ = some (.int .i64 0) := by simp [World.cell?, kr5]
  have r1 : W5.cell? ⟨r, 1, none⟩ = some (.int .i64 0) := by simp [World.cell?, kr5]
  have rf : ∀ i, W5.frozen? ⟨r, i, none⟩ = false := fun i => by simp [World.frozen?, kr5]
  rw [HW3.out]
  clear z3 kp kq kr kp4 kq4 kr4 kp5 kq5 kr5 kp6 kq6 kr6 C4 C5 C6 s3 s4 s5 gl hp hq hr hpq hpr hqr B3
  refine till_one (i := 11) (by kernel_rfl) rfl (fun K hK => ?_)
  simp only [List.getElem_toArray, List.getElem_cons_zero, List.getElem_cons_succ]
  rw [if_pos (by rfl)]
  go_simp
  rw [HW4.out]
  refine hK.out _ _ (N4) (fun hSb => ?_)
  clear hK K
  try simp only [List.getElem_toArray, List.getElem_cons_zero, List.getElem_cons_succ, Act.put, List.setIfInBounds_toArray, List.set_cons_zero, List.set_cons_succ]
  clear hS
  refine till_one (i := 12) (by kernel_rfl) rfl (fun K hK => ?_)
  simp only [List.getElem_toArray, List.getElem_cons_zero, List.getElem_cons_succ]
  rw [if_pos (by rfl)]
  go_simp
  rw [HW5.out]
  refine hK.out _ _ (N5) (fun hS => ?_)
  clear hK K
  try simp only [List.getElem_toArray, List.getElem_cons_zero, List.getElem_cons_succ, Act.put, List.setIfInBounds_toArray, List.set_cons_zero, List.set_cons_succ]
  clear hSb
  refine till_one (i := 13) (by kernel_rfl) rfl (fun K hK => ?_)
  simp only [List.getElem_toArray, List.getElem_cons_zero, List.getElem_cons_succ]
  rw [if_pos (by rfl)]
  go_simp
  rw [HW6.out]
  refine hK.out _ _ (N6) (fun hSb => ?_)
  clear hK K
  try simp only [List.getElem_toArray, List.getElem_cons_zero, List.getElem_cons_succ, Act.put, List.setIfInBounds_toArray, List.set_cons_zero, List.set_cons_succ]
  clear hS
  refine till_one (i := 14) (by kernel_rfl) rfl (fun K hK => ?_)
  simp only [List.getElem_toArray, List.getElem_cons_zero, List.getElem_cons_succ]
  rw [if_pos (by rfl)]
  go_simp
  refine hK.out _ _ (hSb) (fun hS => ?_)
  clear hK K
  try simp only [List.getElem_toArray, List.getElem_cons_zero, List.getElem_cons_succ, Act.put, List.setIfInBounds_toArray, List.set_cons_zero, List.set_cons_succ]
  clear hSb
  refine till_done (by kernel_rfl) ?_ _
  clear hS
  have E6 : Hid (Sent W6 M E) := hE.out.below L6.out
  clear p0 p1 pf q0 q1 qf r0 r1 rf
  go_upto_region 4 with (go_at_call 8; refine (alive_n E6 hM).mono ?_; rintro e w7 ⟨rfl, H7⟩)
  obtain ⟨v0, Hv0⟩ : ∃ v0, Hid (w7.drew = v0) := ⟨_, rfl⟩
  have B7 : Hid (Below W6.heap.size W6 v0) := by rw [← Hv0.out]; exact H7.out.drew
  have T7 : Tq v0 p q r aR aN bR bN cR cN := T6.out.below B7.out
  have L7 : Hid (Below w.heap.size w v0) := L6.out.trans (B7.out.mono L6.out.size)
  refine wp_region_till (S := fun L W => Tq W p q r aR aN bR bN cR cN) (by kernel_rfl) (by rw [Hv0.out]; exact T7) (fun hS => ?_)
  rw [Hv0.out] at hS ⊢
  refine till_read (i := 0) (c := 2) (v := bal aR aN) (T := fun W => Tq W p q r aR aN bR bN cR cN) rfl rfl (by kernel_rfl) (by kernel_rfl) (by kernel_rfl) (by kernel_rfl) (by kernel_rfl) (fun _ _ _ h => h) (fun L w => Iff.rfl) (fun L w h1 h2 => h2) (Or.inl ⟨by rfl, fun w h => by have q0 := h.p0; have q1 := h.p1; go_simp⟩) hS (fun hSb => ?_)
  simp only [List.getElem_toArray, List.getElem_cons_zero, List.getElem_cons_succ, Act.put, List.setIfInBounds_toArray, List.set_cons_zero, List.set_cons_succ]
  clear hS
  refine till_read (i := 1) (c := 2) (v := bal bR bN) (T := fun W => Tq W p q r aR aN bR bN cR cN) rfl rfl (by kernel_rfl) (by kernel_rfl) (by kernel_rfl) (by kernel_rfl) (by kernel_rfl) (fun _ _ _ h => h) (fun L w => Iff.rfl) (fun L w h1 h2 => h2) (Or.inl ⟨by rfl, fun w h => by have q0 := h.q0; have q1 := h.q1; go_simp⟩) hSb (fun hS => ?_)
  simp only [List.getElem_toArray, List.getElem_cons_zero, List.getElem_cons_succ, Act.put, List.setIfInBounds_toArray, List.set_cons_zero, List.set_cons_succ]
  clear hSb
  refine till_read (i := 3) (c := 5) (v := bal aR aN) (T := fun W => Tq W p q r aR aN bR bN cR cN) rfl rfl (by kernel_rfl) (by kernel_rfl) (by kernel_rfl) (by kernel_rfl) (by kernel_rfl) (fun _ _ _ h => h) (fun L w => Iff.rfl) (fun L w h1 h2 => h2) (Or.inl ⟨by rfl, fun w h => by have q0 := h.p0; have q1 := h.p1; go_simp⟩) hS (fun hSb => ?_)
  simp only [List.getElem_toArray, List.getElem_cons_zero, List.getElem_cons_succ, Act.put, List.setIfInBounds_toArray, List.set_cons_zero, List.set_cons_succ]
  clear hS
  refine till_read (i := 4) (c := 5) (v := bal bR bN) (T := fun W => Tq W p q r aR aN bR bN cR cN) rfl rfl (by kernel_rfl) (by kernel_rfl) (by kernel_rfl) (by kernel_rfl) (by kernel_rfl) (fun _ _ _ h => h) (fun L w => Iff.rfl) (fun L w h1 h2 => h2) (Or.inl ⟨by rfl, fun w h => by have q0 := h.q0; have q1 := h.q1; go_simp⟩) hSb (fun hS => ?_)
  simp only [List.getElem_toArray, List.getElem_cons_zero, List.getElem_cons_succ, Act.put, List.setIfInBounds_toArray, List.set_cons_zero, List.set_cons_succ]
  clear hSb
  refine till_one (i := 2) (by kernel_rfl) rfl (fun K hK => ?_)
  simp only [List.getElem_toArray, List.getElem_cons_zero, List.getElem_cons_succ]
  rw [if_pos (by rfl)]
  go_simp
  go_wp2_with (go_at_call 11; refine (above_n aR aN bR bN _).mono ?_; rintro e v1 ⟨rfl, Hv1⟩; rw [AB.out])
  have Zv1 : Tq v1 p q r aR aN bR bN cR cN := hS.below Hv1.out
  refine hK.out _ _ (Zv1) (fun hSb => ?_)
  clear hK K
  try simp only [List.getElem_toArray, List.getElem_cons_zero, List.getElem_cons_succ, Act.put, List.setIfInBounds_toArray, List.set_cons_zero, List.set_cons_succ]
  clear hS
  refine till_one (i := 5) (by kernel_rfl) rfl (fun K hK => ?_)
  simp only [List.getElem_toArray, List.getElem_cons_zero, List.getElem_cons_succ]
  rw [if_pos (by rfl)]
  go_simp
  go_wp2_with (go_at_call 12; refine (refAbove_n aR aN bR bN _).mono ?_; rintro e v2 ⟨rfl, Hv2⟩; rw [AB.out])
  have Zv2 : Tq v2 p q r aR aN bR bN cR cN := hSb.below Hv2.out
  refine hK.out _ _ (Zv2) (fun hS => ?_)
  clear hK K
  try simp only [List.getElem_toArray, List.getElem_cons_zero, List.getElem_cons_succ, Act.put, List.setIfInBounds_toArray, List.set_cons_zero, List.set_cons_succ]
  clear hSb
  refine till_take (i := 6) (v := .bool false) rfl (by kernel_rfl) (by kernel_rfl) (by kernel_rfl) (fun _ _ _ h => h) (fun L w => Iff.rfl) (Or.inl ⟨by rfl, fun w => by go_simp⟩) hS (fun hSb => ?_)
  simp only [List.getElem_toArray, List.getElem_cons_zero, List.getElem_cons_succ, Act.put, List.setIfInBounds_toArray, List.set_cons_zero, List.set_cons_succ]
  clear hS
  refine till_take (i := 7) (v := .bool false) rfl (by kernel_rfl) (by kernel_rfl) (by kernel_rfl) (fun _ _ _ h => h) (fun L w => Iff.rfl) (Or.inl ⟨by rfl, fun w => by go_simp⟩) hSb (fun hS => ?_)
  simp only [List.getElem_toArray, List.getElem_cons_zero, List.getElem_cons_succ, Act.put, List.setIfInBounds_toArray, List.set_cons_zero, List.set_cons_succ]
  clear hSb
  refine till_read (i := 8) (c := 10) (v := bal aR aN) (T := fun W => Tq W p q r aR aN bR bN cR cN) rfl rfl (by kernel_rfl) (by kernel_rfl) (by kernel_rfl) (by kernel_rfl) (by kernel_rfl) (fun _ _ _ h => h) (fun L w => Iff.rfl) (fun L w h1 h2 => h2) (Or.inl ⟨by rfl, fun w h => by have q0 := h.p0; have q1 := h.p1; go_simp⟩) hS (fun hSb => ?_)
  simp only [List.getElem_toArray, List.getElem_cons_zero, List.getElem_cons_succ, Act.put, List.setIfInBounds_toArray, List.set_cons_zero, List.set_cons_succ]
  clear hS
  refine till_read (i := 9) (c := 10) (v := bal aR aN) (T := fun W => Tq W p q r aR aN bR bN cR cN) rfl rfl (by kernel_rfl) (by kernel_rfl) (by kernel_rfl) (by kernel_rfl) (by kernel_rfl) (fun _ _ _ h => h) (fun L w => Iff.rfl) (fun L w h1 h2 => h2) (Or.inl ⟨by rfl, fun w h => by have q0 := h.p0; have q1 := h.p1; go_simp⟩) hSb (fun hS => ?_)
  simp only [List.getElem_toArray, List.getElem_cons_zero, List.getElem_cons_succ, Act.put, List.setIfInBounds_toArray, List.set_cons_zero, List.set_cons_succ]
  clear hSb
  refine till_one (i := 10) (by kernel_rfl) rfl (fun K hK => ?_)
  simp only [List.getElem_toArray, List.getElem_cons_zero, List.getElem_cons_succ]
  rw [if_pos (by rfl)]
  go_simp
  go_wp2_with (go_at_call 11; refine (above_n aR aN aR aN _).mono ?_; rintro e v3 ⟨rfl, Hv3⟩; rw [AA.out])
  have Zv3 : Tq v3 p q r aR aN bR bN cR cN := hS.below Hv3.out
  refine hK.out _ _ (Zv3) (fun hSb => ?_)
  clear hK K
  try simp only [List.getElem_toArray, List.getElem_cons_zero, List.getElem_cons_succ, Act.put, List.setIfInBounds_toArray, List.set_cons_zero, List.set_cons_succ]
  clear hS
  refine till_take (i := 11) (v := .bool false) rfl (by kernel_rfl) (by kernel_rfl) (by kernel_rfl) (fun _ _ _ h => h) (fun L w => Iff.rfl) (Or.inl ⟨by rfl, fun w => by go_simp⟩) hSb (fun hS => ?_)
  simp only [List.getElem_toArray, List.getElem_cons_zero, List.getElem_cons_succ, Act.put, List.setIfInBounds_toArray, List.set_cons_zero, List.set_cons_succ]
  clear hSb
  refine till_take (i := 12) (v := .bool false) rfl (by kernel_rfl) (by kernel_rfl) (by kernel_rfl) (fun _ _ _ h => h) (fun L w => Iff.rfl) (Or.inl ⟨by rfl, fun w => by go_simp⟩) hS (fun hSb => ?_)
  simp only [List.getElem_toArray, List.getElem_cons_zero, List.getElem_cons_succ, Act.put, List.setIfInBounds_toArray, List.set_cons_zero, List.set_cons_succ]
  clear hS
  refine till_read (i := 13) (c := 15) (v := bal aR aN) (T := fun W => Tq W p q r aR aN bR bN cR cN) rfl rfl (by kernel_rfl) (by kernel_rfl) (by kernel_rfl) (by kernel_rfl) (by kernel_rfl) (fun _ _ _ h => h) (fun L w => Iff.rfl) (fun L w h1 h2 => h2) (Or.inl ⟨by rfl, fun w h => by have q0 := h.p0; have q1 := h.p1; go_simp⟩) hSb (fun hS => ?_)
  simp only [List.getElem_toArray, List.getElem_cons_zero, List.getElem_cons_succ, Act.put, List.setIfInBounds_toArray, List.set_cons_zero, List.set_cons_succ]
  clear hSb
  refine till_read (i := 14) (c := 15) (v := bal bR bN) (T := fun W => Tq W p q r aR aN bR bN cR cN) rfl rfl (by kernel_rfl) (by kernel_rfl) (by kernel_rfl) (by kernel_rfl) (by kernel_rfl) (fun _ _ _ h => h) (fun L w => Iff.rfl) (fun L w h1 h2 => h2) (Or.inl ⟨by rfl, fun w h => by have q0 := h.q0; have q1 := h.q1; go_simp⟩) hS (fun hSb => ?_)
  simp only [List.getElem_toArray, List.getElem_cons_zero, List.getElem_cons_succ, Act.put, List.setIfInBounds_toArray, List.set_cons_zero, List.set_cons_succ]
  clear hS
  refine till_take (i := 15) (v := .bool true) rfl (by kernel_rfl) (by kernel_rfl) (by kernel_rfl) (fun _ _ _ h => h) (fun L w => Iff.rfl) (Or.inl ⟨by rfl, fun w => by go_simp⟩) hSb (fun hS => ?_)
  simp only [List.getElem_toArray, List.getElem_cons_zero, List.getElem_cons_succ, Act.put, List.setIfInBounds_toArray, List.set_cons_zero, List.set_cons_succ]
  clear hSb
  refine till_take (i := 16) (v := .bool true) rfl (by kernel_rfl) (by kernel_rfl) (by kernel_rfl) (fun _ _ _ h => h) (fun L w => Iff.rfl) (Or.inl ⟨by rfl, fun w => by go_simp⟩) hS (fun hSb => ?_)
  simp only [List.getElem_toArray, List.getElem_cons_zero, List.getElem_cons_succ, Act.put, List.setIfInBounds_toArray, List.set_cons_zero, List.set_cons_succ]
  clear hS
  refine till_read (i := 17) (c := 19) (v := bal aR aN) (T := fun W => Tq W p q r aR aN bR bN cR cN) rfl rfl (by kernel_rfl) (by kernel_rfl) (by kernel_rfl) (by kernel_rfl) (by kernel_rfl) (fun _ _ _ h => h) (fun L w => Iff.rfl) (fun L w h1 h2 => h2) (Or.inl ⟨by rfl, fun w h => by have q0 := h.p0; have q1 := h.p1; go_simp⟩) hSb (fun hS => ?_)
  simp only [List.getElem_toArray, List.getElem_cons_zero, List.getElem_cons_succ, Act.put, List.setIfInBounds_toArray, List.set_cons_zero, List.set_cons_succ]
  clear hSb
  refine till_read (i := 18) (c := 19) (v := bal bR bN) (T := fun W => Tq W p q r aR aN bR bN cR cN) rfl rfl (by kernel_rfl) (by kernel_rfl) (by kernel_rfl) (by kernel_rfl) (by kernel_rfl) (fun _ _ _ h => h) (fun L w => Iff.rfl) (fun L w h1 h2 => h2) (Or.inl ⟨by rfl, fun w h => by have q0 := h.q0; have q1 := h.q1; go_simp⟩) hS (fun hSb => ?_)
  simp only [List.getElem_toArray, List.getElem_cons_zero, List.getElem_cons_succ, Act.put, List.setIfInBounds_toArray, List.set_cons_zero, List.set_cons_succ]
  clear hS
  refine till_read (i := 20) (c := 22) (v := bal bR bN) (T := fun W => Tq W p q r aR aN bR bN cR cN) rfl rfl (by kernel_rfl) (by kernel_rfl) (by kernel_rfl) (by kernel_rfl) (by kernel_rfl) (fun _ _ _ h => h) (fun L w => Iff.rfl) (fun L w h1 h2 => h2) (Or.inl ⟨by rfl, fun w h => by have q0 := h.q0; have q1 := h.q1; go_simp⟩) hSb (fun hS => ?_)
  simp only [List.getElem_toArray, List.getElem_cons_zero, List.getElem_cons_succ, Act.put, List.setIfInBounds_toArray, List.set_cons_zero, List.set_cons_succ]
  clear hSb
  refine till_read (i := 21) (c := 22) (v := bal aR aN) (T := fun W => Tq W p q r aR aN bR bN cR cN) rfl rfl (by kernel_rfl) (by kernel_rfl) (by kernel_rfl) (by kernel_rfl) (by kernel_rfl) (fun _ _ _ h => h) (fun L w => Iff.rfl) (fun L w h1 h2 => h2) (Or.inl ⟨by rfl, fun w h => by have q0 := h.p0; have q1 := h.p1; go_simp⟩) hS (fun hSb => ?_)
  simp only [List.getElem_toArray, List.getElem_cons_zero, List.getElem_cons_succ, Act.put, List.setIfInBounds_toArray, List.set_cons_zero, List.set_cons_succ]
  clear hS
  refine till_one (i := 19) (by kernel_rfl) rfl (fun K hK => ?_)
  simp only [List.getElem_toArray, List.getElem_cons_zero, List.getElem_cons_succ]
  rw [if_pos (by rfl)]
  go_simp
  go_wp2_with (go_at_call 11; refine (above_n aR aN bR bN _).mono ?_; rintro e v4 ⟨rfl, Hv4⟩; rw [AB.out])
  have Zv4 : Tq v4 p q r aR aN bR bN cR cN := hSb.below Hv4.out
  refine hK.out _ _ (Zv4) (fun hS => ?_)
  clear hK K
  try simp only [List.getElem_toArray, List.getElem_cons_zero, List.getElem_cons_succ, Act.put, List.setIfInBounds_toArray, List.set_cons_zero, List.set_cons_succ]
  clear hSb
  refine till_one (i := 22) (by kernel_rfl) rfl (fun K hK => ?_)
  simp only [List.getElem_toArray, List.getElem_cons_zero, List.getElem_cons_succ]
  rw [if_pos (by rfl)]
  go_simp
  go_wp2_with (go_at_call 11; refine (above_n bR bN aR aN _).mono ?_; rintro e v5 ⟨rfl, Hv5⟩; rw [BA.out])
  have Zv5 : Tq v5 p q r aR aN bR bN cR cN := hS.below Hv5.out
  refine hK.out _ _ (Zv5) (fun hSb => ?_)
  clear hK K
  try simp only [List.getElem_toArray, List.getElem_cons_zero, List.getElem_cons_succ, Act.put, List.setIfInBounds_toArray, List.set_cons_zero, List.set_cons_succ]
  clear hS
  refine till_take (i := 23) (v := .bool false) rfl (by kernel_rfl) (by kernel_rfl) (by kernel_rfl) (fun _ _ _ h => h) (fun L w => Iff.rfl) (Or.inl ⟨by rfl, fun w => by go_simp⟩) hSb (fun hS => ?_)
  simp only [List.getElem_toArray, List.getElem_cons_zero, List.getElem_cons_succ, Act.put, List.setIfInBounds_toArray, List.set_cons_zero, List.set_cons_succ]
  clear hSb
  refine till_take (i := 24) (v := .bool false) rfl (by kernel_rfl) (by kernel_rfl) (by kernel_rfl) (fun _ _ _ h => h) (fun L w => Iff.rfl) (Or.inl ⟨by rfl, fun w => by go_simp⟩) hS (fun hSb => ?_)
  simp only [List.getElem_toArray, List.getElem_cons_zero, List.getElem_cons_succ, Act.put, List.setIfInBounds_toArray, List.set_cons_zero, List.set_cons_succ]
  clear hS
  refine till_take (i := 25) (v := .bool false) rfl (by kernel_rfl) (by kernel_rfl) (by kernel_rfl) (fun _ _ _ h => h) (fun L w => Iff.rfl) (Or.inl ⟨by rfl, fun w => by go_simp⟩) hSb (fun hS => ?_)
  simp only [List.getElem_toArray, List.getElem_cons_zero, List.getElem_cons_succ, Act.put, List.setIfInBounds_toArray, List.set_cons_zero, List.set_cons_succ]
  clear hSb
  refine till_done (by kernel_rfl) ?_ _
  clear hS
  have BL3 : Below w.heap.size w v3 := ((L7.out.trans (Hv1.out.mono L7.out.size)).trans (Hv2.out.mono (Nat.le_trans L7.out.size Hv1.out.size))).trans (Hv3.out.mono (Nat.le_trans (Nat.le_trans L7.out.size Hv1.out.size) Hv2.out.size))
  have BL4 : Below w.heap.size w v4 := BL3.trans (Hv4.out.mono BL3.size)
  have BL : Hid (Below w.heap.size w v5) := BL4.trans (Hv5.out.mono BL4.size)
  clear BL3 BL4
  have TT : Tq v5 p q r aR aN bR bN cR cN := Zv5
  have x0 := TT.p0
  have x1 := TT.p1
  have y0 := TT.q0
  have y1 := TT.q1
  have z0 := TT.r0
  have z1 := TT.r1
  have BX : Hid (Below w.heap.size w v5) := BL.out
  rcases HALF with ⟨hn1, HF⟩ | ⟨hh, hn1, i1, i2, i3, i4, HF⟩
  · go_wp2_with (first
      | (go_at_call 11; refine (above_n _ _ _ _ _).mono ?_; rintro e w9 ⟨rfl, H9⟩; (first | rw [AB.out] | rw [BC.out] | rw [AC.out])
         have TT := TT.below H9.out
         have x0 := TT.p0
         have x1 := TT.p1
         have y0 := TT.q0
         have y1 := TT.q1
         have z0 := TT.r0
         have z1 := TT.r1
         have BX : Hid (Below w.heap.size w w9) := BX.out.trans (H9.out.mono BX.out.size))
      | (go_at_call 13; refine (HF.out _).mono ?_; rintro e w10 ⟨rfl, h10⟩; rw [h10]; clear h10))
    go_ret
    exact ⟨rfl, BX.out⟩
  · go_wp2_with (first
      | (go_at_call 11; refine (above_n _ _ _ _ _).mono ?_; rintro e w9 ⟨rfl, H9⟩; (first | rw [AB.out] | rw [BC.out] | rw [AC.out])
         have TT := TT.below H9.out
         have x0 := TT.p0
         have x1 := TT.p1
         have y0 := TT.q0
         have y1 := TT.q1
         have z0 := TT.r0
         have z1 := TT.r1
         have BX : Hid (Below w.heap.size w w9) := BX.out.trans (H9.out.mono BX.out.size))
      | (go_at_call 13; refine (HF.out _).mono ?_; rintro e w10 ⟨rfl, h10⟩; rw [h10]; clear h10))
    go_ret
    exact ⟨rfl, BX.out⟩
theorem numbers_n {M : Nat} {E : Nat → Addr} {w : World} (aR aN bR bN cR cN nn : Int) (hE : Hid (Sent w M E)) (hM : 2 ≤ M) (hn : nn ≤ 9223372036854775807) :
    Calls Tryd.prog 4 #[nums aR aN bR bN cR cN nn] w fun e w' => e = .returned (.bool true) ∧ Hid (Below w.heap.size w w') := by
  by_cases h : aR = bR ∧ aN = bN
  · exact numbers_eq hE hM hn h.1 h.2
  · by_cases h1 : abv aR aN bR bN = true
    · have k1 := of_decide_eq_true h1
      have BA : Hid (abv bR bN aR aN = false) := by show _ = _; exact decide_eq_false (by omega)
      by_cases h2 : abv bR bN cR cN = true
      · have k2 := of_decide_eq_true h2
        have AC : Hid (abv aR aN cR cN = true) := by show _ = _; exact decide_eq_true (by omega)
        exact numbers_gg hE hM hn h h1 BA h2 AC
      · exact numbers_gt hE hM hn h h1 BA (show Hid _ from (by simpa using h2 : abv bR bN cR cN = false))
    · have h3 : abv aR aN bR bN = false := by simpa using h1
      have k1 := of_decide_eq_false h3
      have BA : Hid (abv bR bN aR aN = true) := by show _ = _; exact decide_eq_true (by omega)
      exact numbers_lt hE hM hn h h3 BA
end Go.Proofs.YtdfnjcjpblkmcaaDoor
