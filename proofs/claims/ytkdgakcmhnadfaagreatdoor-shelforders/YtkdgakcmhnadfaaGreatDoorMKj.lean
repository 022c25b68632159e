import Derived.Test.YtkdgakcmhnadfaaGreatDoorMKh
/- Kj -/
/- ShelfOrders' walk. -/
namespace Go.Proofs.YtkdgakcmhnadfaaGreatDoor
open Go.ChangeShapes Go.WideShapes Go.ChangeAt Go.RowKit
set_option maxRecDepth 20000
set_option linter.unusedVariables false
set_option linter.unusedSimpArgs false
/- the two ids' variables -/
structure Tw (W : World) (ga gb : Nat) (a0 a1 a2 b0 b1 b2 : Int) : Prop where
  q : Cq W ga gb a0 a1 a2 b0 b1 b2
set_option maxHeartbeats 2000000 in
theorem orders_n {w : World} {M : Nat} {E : Nat → Addr} (hE : Hid (Env w M E)) (a0 a1 a2 b0 b1 b2 : Int) : Calls Tryz.prog 4 #[idv a0 a1 a2, idv b0 b1 b2] w fun e w' => e = .returned (.bool true) ∧ Hid (Below w.heap.size w w') := by
  obtain ⟨la, Ha⟩ : ∃ la, Hid (lessI a0 a1 a2 b0 b1 b2 = la) := ⟨_, rfl⟩
  obtain ⟨lb, Hb⟩ : ∃ lb, Hid (lessI b0 b1 b2 a0 a1 a2 = lb) := ⟨_, rfl⟩
  have O1 : Hid (orI (cmpI a0 b0) (cmpI a1 b1) (cmpI a2 b2) = (if lb = true then 1 else if la = true then -1 else 0)) := by
    rw [← Ha.out, ← Hb.out]; exact orders a0 a1 a2 b0 b1 b2
  have E2 : Hid (Env ((w.alloc (.cells #[.int .i64 a0, .int .i64 a1, .int .i64 a2] 32)).alloc (.cells #[.int .i64 b0, .int .i64 b1, .int .i64 b2] 32)) M E) := hE.out.below (alloc2 w _ _)
  have Q2 : Hid (Cq ((w.alloc (.cells #[.int .i64 a0, .int .i64 a1, .int .i64 a2] 32)).alloc (.cells #[.int .i64 b0, .int .i64 b1, .int .i64 b2] 32)) w.heap.size (w.heap.size + 1) a0 a1 a2 b0 b1 b2) := by
    refine ⟨?_, ?_, ?_, ?_, ?_, ?_⟩ <;> simp
  have B2 : Hid (Below w.heap.size w ((w.alloc (.cells #[.int .i64 a0, .int .i64 a1, .int .i64 a2] 32)).alloc (.cells #[.int .i64 b0, .int .i64 b1, .int .i64 b2] 32))) := alloc2 w _ _
  obtain ⟨W2, HW2⟩ : ∃ W2, Hid (((w.alloc (.cells #[.int .i64 a0, .int .i64 a1, .int .i64 a2] 32)).alloc (.cells #[.int .i64 b0, .int .i64 b1, .int .i64 b2] 32)) = W2) := ⟨_, rfl⟩
  rw [HW2.out] at E2 Q2 B2
  go_enter Tryz.func4, Tryz.ntmps4
  cases la <;> cases lb
  all_goals
    go_upto_region 1 with (fail)
    rw [HW2.out]
    go_upto_region 6 with (first
      | (go_at_call 8; refine (alive_n E2).mono ?_; rintro e w3 ⟨rfl, H3⟩
         have Q3 : Hid (Cq w3 w.heap.size (w.heap.size + 1) a0 a1 a2 b0 b1 b2) := Q2.out.below H3.out
         have x0 := Q3.out.x0
         have x1 := Q3.out.x1
         have x2 := Q3.out.x2
         have y0 := Q3.out.y0
         have y1 := Q3.out.y1
         have y2 := Q3.out.y2)
      | (go_at_call 12; refine (less_n a0 a1 a2 b0 b1 b2 _).mono ?_; rintro e w4 ⟨rfl, H4⟩
         rw [Ha.out]
         have Q4 : Hid (Cq w4 w.heap.size (w.heap.size + 1) a0 a1 a2 b0 b1 b2) := Q3.out.below H4.out
         have x3 := Q4.out.x0
         have x4 := Q4.out.x1
         have x5 := Q4.out.x2
         have y3 := Q4.out.y0
         have y4 := Q4.out.y1
         have y5 := Q4.out.y2))
    clear x0 x1 x2 y0 y1 y2
    go_wp2_with (first
      | (go_at_call 12; refine (less_n b0 b1 b2 a0 a1 a2 _).mono ?_; rintro e w5 ⟨rfl, H5⟩
         rw [Hb.out]
         have Q5 : Hid (Cq w5 w.heap.size (w.heap.size + 1) a0 a1 a2 b0 b1 b2) := Q4.out.below H5.out
         clear x3 x4 x5 y3 y4 y5
         have x0 := Q5.out.x0
         have x1 := Q5.out.x1
         have x2 := Q5.out.x2
         have y0 := Q5.out.y0
         have y1 := Q5.out.y1
         have y2 := Q5.out.y2)
      | (go_at_call 13; refine (idcmp_n a0 a1 a2 b0 b1 b2 _).mono ?_; rintro e w6 ⟨rfl, H6⟩
         rw [O1.out]
         simp only [Bool.false_eq_true, if_false, if_true]))
    go_ret
    refine ⟨by first | rfl | simp, ?_⟩
    have b3 := B2.out.trans (H3.out.mono B2.out.size)
    have b4 := b3.trans (H4.out.mono b3.size)
    have b5 := b4.trans (H5.out.mono b4.size)
    exact b5.trans (H6.out.mono b5.size)
end Go.Proofs.YtkdgakcmhnadfaaGreatDoor
