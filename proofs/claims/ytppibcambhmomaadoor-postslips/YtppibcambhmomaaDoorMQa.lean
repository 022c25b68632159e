/- Same of the document's layer 15: two messages. -/
import Derived.Test.YtppibcambhmomaaDoorMh
import Derived.Test.YtppibcambhmomaaDoorMPe
namespace Go.Proofs.YtppibcambhmomaaDoor
open Go.ChangeShapes Go.WideShapes Go.ChangeAt Go.RowKit
set_option maxRecDepth 20000
set_option linter.unusedVariables false
set_option linter.unusedSimpArgs false
def smB (x : Mc) (X : List Cm) (L : List Nat) (x' : Mc) (X' : List Cm) (L' : List Nat) : Bool :=
  decide (x.K = x'.K) && (decide (x.F = x'.F) && (decide (x.T = x'.T) && (decide (x.t0 = x'.t0 ∧ x.t1 = x'.t1 ∧ x.t2 = x'.t2) && (decide (x.b0 = x'.b0 ∧ x.b1 = x'.b1) && (decide (x.a0 = x'.a0 ∧ x.a1 = x'.a1) && (decide (x.B0 = x'.B0 ∧ x.B1 = x'.B1 ∧ x.B2 = x'.B2) && (decide (x.ok = x'.ok) && (decide (L = L') && decide (X = X')))))))))
theorem spell_injM {L L' : List Nat} (h : ∀ y ∈ L, y < 256) (h' : ∀ y ∈ L', y < 256) : decide (spell L = spell L') = decide (L = L') := by
  exact decide_eq_decide.2 ⟨fun e => spell_inj h h' e, fun e => by rw [e]⟩
set_option maxHeartbeats 16000000 in
theorem sameM_n {w : World} {x x' : Mc} {X X' : List Cx} {L L' : List Nat} {A A' : Array Value} (hA : Hid (A = (encM x).toArray)) (hA' : Hid (A' = (encM x').toArray)) (hm : Hid (Ms w x X L)) (hm' : Hid (Ms w x' X' L')) :
    Calls Tryd.prog 10 #[.agg A, .agg A'] w fun e w' => e = .returned (.bool (smB x (led X) L x' (led X') L')) ∧ Hid (Below w.heap.size w w') := by
  obtain ⟨k, f, t, t0, t1, t2, p0, p1, q0, q1, la, ln, lc, u0, u1, u2, vk, fa, fn, fc⟩ := x
  obtain ⟨k', f', t', t0', t1', t2', p0', p1', q0', q1', la', ln', lc', u0', u1', u2', vk', fa', fn', fc'⟩ := x'
  obtain ⟨z3, Z3⟩ : ∃ z, Hid (decide (t0 = t0' ∧ t1 = t1' ∧ t2 = t2') = z) := ⟨_, rfl⟩
  obtain ⟨z4, Z4⟩ : ∃ z, Hid (decide (p0 = p0' ∧ p1 = p1') = z) := ⟨_, rfl⟩
  obtain ⟨z5, Z5⟩ : ∃ z, Hid (decide (q0 = q0' ∧ q1 = q1') = z) := ⟨_, rfl⟩
  obtain ⟨z6, Z6⟩ : ∃ z, Hid (decide (u0 = u0' ∧ u1 = u1' ∧ u2 = u2') = z) := ⟨_, rfl⟩
  obtain ⟨z8, Z8⟩ : ∃ z, Hid (decide (L = L') = z) := ⟨_, rfl⟩
  obtain ⟨z9, Z9⟩ : ∃ z, Hid (decide (led X = led X') = z) := ⟨_, rfl⟩
  have EV : Hid (smB ⟨k, f, t, t0, t1, t2, p0, p1, q0, q1, la, ln, lc, u0, u1, u2, vk, fa, fn, fc⟩ (led X) L ⟨k', f', t', t0', t1', t2', p0', p1', q0', q1', la', ln', lc', u0', u1', u2', vk', fa', fn', fc'⟩ (led X') L' = (decide (k = k') && (decide (f = f') && (decide (t = t') && (z3 && (z4 && (z5 && (z6 && (decide (vk = vk') && (z8 && z9)))))))))) := by
    show _ = _
    unfold smB
    simp only
    rw [Z3.out, Z4.out, Z5.out, Z6.out, Z8.out, Z9.out]
  obtain ⟨vv, HVV⟩ : ∃ b, Hid (smB ⟨k, f, t, t0, t1, t2, p0, p1, q0, q1, la, ln, lc, u0, u1, u2, vk, fa, fn, fc⟩ (led X) L ⟨k', f', t', t0', t1', t2', p0', p1', q0', q1', la', ln', lc', u0', u1', u2', vk', fa', fn', fc'⟩ (led X') L' = b) := ⟨_, rfl⟩
  rw [HVV.out] at EV ⊢
  clear HVV
  have S1 : Hid (Sln w fa fn L) := hm.out.fr
  have S1' : Hid (Sln w fa' fn' L') := hm'.out.fr
  have C1 : Hid (Cms w 0 la ln X) := hm.out.led
  have C1' : Hid (Cms w 0 la' ln' X') := hm'.out.led
  have E3 : ∀ w, (Op.equalIn 10000 23 (idv t0 t1 t2) (idv t0' t1' t2')).run Tryd.prog w = .ok z3 w := fun w => by rw [eqId, Z3.out]
  have E4 : ∀ w, (Op.equalIn 10000 25 (bal p0 p1) (bal p0' p1')).run Tryd.prog w = .ok z4 w := fun w => by rw [eqBal, Z4.out]
  have E5 : ∀ w, (Op.equalIn 10000 25 (bal q0 q1) (bal q0' q1')).run Tryd.prog w = .ok z5 w := fun w => by rw [eqBal, Z5.out]
  have E6 : ∀ w, (Op.equalIn 10000 23 (idv u0 u1 u2) (idv u0' u1' u2')).run Tryd.prog w = .ok z6 w := fun w => by rw [eqId, Z6.out]
  have E8 : ∀ w, (Op.equalIn 10000 9 (.string (spell L)) (.string (spell L'))).run Tryd.prog w = .ok z8 w := fun w => by rw [eqS, spell_injM S1.out.lt S1'.out.lt, Z8.out]
  have D8 : ((spell L).toList == (spell L').toList) = z8 := (spell_beq S1.out.lt S1'.out.lt).trans Z8.out
  clear Z3 Z4 Z5 Z6 Z8 hm hm'
  obtain ⟨g1, Hg1⟩ : ∃ g, Hid (w.heap.size = g) := ⟨_, rfl⟩
  obtain ⟨g2, Hg2⟩ : ∃ g, Hid (w.heap.size + 1 = g) := ⟨_, rfl⟩
  have G2 : Hid (g1 + 1 = g2) := by rw [← Hg1.out]; exact Hg2.out
  obtain ⟨w1, Hw1⟩ : ∃ w1, Hid ((w.alloc (.cells A 29)).alloc (.cells A' 29) = w1) := ⟨_, rfl⟩
  have B1 : Hid (Below w.heap.size w w1) := by rw [← Hw1.out]; exact alloc2 w _ _
  have h1 : Hid (w1.heap[g1]? = some (.cells A 29 (0, 0))) := by
    rw [← Hw1.out, ← Hg1.out]
    exact ((alloc1 _ _).block w.heap.size (by simp)).trans (heap_alloc_new w _)
  have h2 : Hid (w1.heap[g2]? = some (.cells A' 29 (0, 0))) := by
    rw [← Hw1.out, ← Hg2.out]
    show _ = _
    have h := heap_alloc_new (w.alloc (.cells A 29)) (.cells A' 29)
    simpa using h
  have cv1 : (convert 27 9 (.slice fa fn fc)).run Tryd.prog w1 = .ok (.string (spell L)) w1 := conv_n (S1.out.below B1.out)
  have cv2 : (convert 27 9 (.slice fa' fn' fc')).run Tryd.prog w1 = .ok (.string (spell L')) w1 := conv_n (S1'.out.below B1.out)
  have D1 : Hid (Cms w1 0 la ln X) := C1.out.below B1.out
  have D1' : Hid (Cms w1 0 la' ln' X') := C1'.out.below B1.out
  have x0 : w1.cell? ⟨g1, 0, none⟩ = some (.int .i64 k) := by simp [World.cell?, h1.out, hA.out, encM]
  have y0 : w1.cell? ⟨g2, 0, none⟩ = some (.int .i64 k') := by simp [World.cell?, h2.out, hA'.out, encM]
  have x1 : w1.cell? ⟨g1, 1, none⟩ = some (.int .i64 f) := by simp [World.cell?, h1.out, hA.out, encM]
  have y1 : w1.cell? ⟨g2, 1, none⟩ = some (.int .i64 f') := by simp [World.cell?, h2.out, hA'.out, encM]
  have x2 : w1.cell? ⟨g1, 2, none⟩ = some (.int .i64 t) := by simp [World.cell?, h1.out, hA.out, encM]
  have y2 : w1.cell? ⟨g2, 2, none⟩ = some (.int .i64 t') := by simp [World.cell?, h2.out, hA'.out, encM]
  have x3 : w1.cell? ⟨g1, 3, none⟩ = some (.int .i64 t0) := by simp [World.cell?, h1.out, hA.out, encM]
  have y3 : w1.cell? ⟨g2, 3, none⟩ = some (.int .i64 t0') := by simp [World.cell?, h2.out, hA'.out, encM]
  have x4 : w1.cell? ⟨g1, 4, none⟩ = some (.int .i64 t1) := by simp [World.cell?, h1.out, hA.out, encM]
  have y4 : w1.cell? ⟨g2, 4, none⟩ = some (.int .i64 t1') := by simp [World.cell?, h2.out, hA'.out, encM]
  have x5 : w1.cell? ⟨g1, 5, none⟩ = some (.int .i64 t2) := by simp [World.cell?, h1.out, hA.out, encM]
  have y5 : w1.cell? ⟨g2, 5, none⟩ = some (.int .i64 t2') := by simp [World.cell?, h2.out, hA'.out, encM]
  have x6 : w1.cell? ⟨g1, 6, none⟩ = some (.int .i64 p0) := by simp [World.cell?, h1.out, hA.out, encM]
  have y6 : w1.cell? ⟨g2, 6, none⟩ = some (.int .i64 p0') := by simp [World.cell?, h2.out, hA'.out, encM]
  have x7 : w1.cell? ⟨g1, 7, none⟩ = some (.int .i64 p1) := by simp [World.cell?, h1.out, hA.out, encM]
  have y7 : w1.cell? ⟨g2, 7, none⟩ = some (.int .i64 p1') := by simp [World.cell?, h2.out, hA'.out, encM]
  have x8 : w1.cell? ⟨g1, 8, none⟩ = some (.int .i64 q0) := by simp [World.cell?, h1.out, hA.out, encM]
  have y8 : w1.cell? ⟨g2, 8, none⟩ = some (.int .i64 q0') := by simp [World.cell?, h2.out, hA'.out, encM]
  have x9 : w1.cell? ⟨g1, 9, none⟩ = some (.int .i64 q1) := by simp [World.cell?, h1.out, hA.out, encM]
  have y9 : w1.cell? ⟨g2, 9, none⟩ = some (.int .i64 q1') := by simp [World.cell?, h2.out, hA'.out, encM]
  have x10 : w1.cell? ⟨g1, 10, none⟩ = some (.slice la ln lc) := by simp [World.cell?, h1.out, hA.out, encM]
  have y10 : w1.cell? ⟨g2, 10, none⟩ = some (.slice la' ln' lc') := by simp [World.cell?, h2.out, hA'.out, encM]
  have x11 : w1.cell? ⟨g1, 11, none⟩ = some (.int .i64 u0) := by simp [World.cell?, h1.out, hA.out, encM]
  have y11 : w1.cell? ⟨g2, 11, none⟩ = some (.int .i64 u0') := by simp [World.cell?, h2.out, hA'.out, encM]
  have x12 : w1.cell? ⟨g1, 12, none⟩ = some (.int .i64 u1) := by simp [World.cell?, h1.out, hA.out, encM]
  have y12 : w1.cell? ⟨g2, 12, none⟩ = some (.int .i64 u1') := by simp [World.cell?, h2.out, hA'.out, encM]
  have x13 : w1.cell? ⟨g1, 13, none⟩ = some (.int .i64 u2) := by simp [World.cell?, h1.out, hA.out, encM]
  have y13 : w1.cell? ⟨g2, 13, none⟩ = some (.int .i64 u2') := by simp [World.cell?, h2.out, hA'.out, encM]
  have x14 : w1.cell? ⟨g1, 14, none⟩ = some (.bool vk) := by simp [World.cell?, h1.out, hA.out, encM]
  have y14 : w1.cell? ⟨g2, 14, none⟩ = some (.bool vk') := by simp [World.cell?, h2.out, hA'.out, encM]
  have x15 : w1.cell? ⟨g1, 15, none⟩ = some (.slice fa fn fc) := by simp [World.cell?, h1.out, hA.out, encM]
  have y15 : w1.cell? ⟨g2, 15, none⟩ = some (.slice fa' fn' fc') := by simp [World.cell?, h2.out, hA'.out, encM]
  clear S1 S1' C1 C1' h1 h2 hA hA' Hg2
  by_cases e0 : k = k'
  rotate_left
  · skip
    have FV : Hid (vv = false) := by rw [EV.out]; show _ = _; simp [e0]
    rw [FV.out]
    clear EV FV
    go_enter Tryd.func10, Tryd.ntmps10
    go_upto_region 1 with (fail)
    rw [Hw1.out, Hg1.out, G2.out]
    go_wp2
    go_ret
    exact ⟨rfl, B1.out⟩
  subst e0
  by_cases e1 : f = f'
  rotate_left
  · skip
    have FV : Hid (vv = false) := by rw [EV.out]; show _ = _; simp [e1]
    rw [FV.out]
    clear EV FV
    go_enter Tryd.func10, Tryd.ntmps10
    go_upto_region 1 with (fail)
    rw [Hw1.out, Hg1.out, G2.out]
    go_wp2
    go_ret
    exact ⟨rfl, B1.out⟩
  subst e1
  by_cases e2 : t = t'
  rotate_left
  · skip
    have FV : Hid (vv = false) := by rw [EV.out]; show _ = _; simp [e2]
    rw [FV.out]
    clear EV FV
    go_enter Tryd.func10, Tryd.ntmps10
    go_upto_region 1 with (fail)
    rw [Hw1.out, Hg1.out, G2.out]
    go_wp2
    go_ret
    exact ⟨rfl, B1.out⟩
  subst e2
  cases z3 with
  | false =>
    have FV : Hid (vv = false) := by rw [EV.out]; show _ = _; simp []
    rw [FV.out]
    clear EV FV
    go_enter Tryd.func10, Tryd.ntmps10
    go_upto_region 1 with (fail)
    rw [Hw1.out, Hg1.out, G2.out]
    go_wp2
    go_ret
    exact ⟨rfl, B1.out⟩
  | true =>
    cases z4 with
    | false =>
      have FV : Hid (vv = false) := by rw [EV.out]; show _ = _; simp []
      rw [FV.out]
      clear EV FV
      go_enter Tryd.func10, Tryd.ntmps10
      go_upto_region 1 with (fail)
      rw [Hw1.out, Hg1.out, G2.out]
      go_wp2
      go_ret
      exact ⟨rfl, B1.out⟩
    | true =>
      cases z5 with
      | false =>
        have FV : Hid (vv = false) := by rw [EV.out]; show _ = _; simp []
        rw [FV.out]
        clear EV FV
        go_enter Tryd.func10, Tryd.ntmps10
        go_upto_region 1 with (fail)
        rw [Hw1.out, Hg1.out, G2.out]
        go_wp2
        go_ret
        exact ⟨rfl, B1.out⟩
      | true =>
        cases z6 with
        | false =>
          have FV : Hid (vv = false) := by rw [EV.out]; show _ = _; simp []
          rw [FV.out]
          clear EV FV
          go_enter Tryd.func10, Tryd.ntmps10
          go_upto_region 1 with (fail)
          rw [Hw1.out, Hg1.out, G2.out]
          go_wp2
          go_ret
          exact ⟨rfl, B1.out⟩
        | true =>
          by_cases e7 : vk = vk'
          rotate_left
          · skip
            have e7b : (vk == vk') = false := by simpa using e7
            have FV : Hid (vv = false) := by rw [EV.out]; show _ = _; simp [e7]
            rw [FV.out]
            clear EV FV
            go_enter Tryd.func10, Tryd.ntmps10
            go_upto_region 1 with (fail)
            rw [Hw1.out, Hg1.out, G2.out]
            go_wp2
            go_ret
            exact ⟨rfl, B1.out⟩
          subst e7
          cases z8 with
          | false =>
            have FV : Hid (vv = false) := by rw [EV.out]; show _ = _; simp []
            rw [FV.out]
            clear EV FV
            go_enter Tryd.func10, Tryd.ntmps10
            go_upto_region 1 with (fail)
            rw [Hw1.out, Hg1.out, G2.out]
            go_wp2
            go_ret
            exact ⟨rfl, B1.out⟩
          | true =>
            have FV : Hid (vv = z9) := by rw [EV.out]; show _ = _; simp
            rw [FV.out]
            clear EV FV
            go_enter Tryd.func10, Tryd.ntmps10
            go_upto_region 1 with (fail)
            rw [Hw1.out, Hg1.out, G2.out]
            go_wp2_with (go_at_call 19; refine (same_n D1 D1').mono ?_; rintro e w2 ⟨rfl, h2⟩; rw [Z9.out])
            go_ret
            exact ⟨rfl, B1.out.trans (h2.out.mono B1.out.size)⟩
end Go.Proofs.YtppibcambhmomaaDoor
