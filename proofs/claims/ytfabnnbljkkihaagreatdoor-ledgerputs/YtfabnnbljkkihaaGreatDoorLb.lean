/- ledger's same (f39), whole. -/
import Derived.Test.YtfabnnbljkkihaaGreatDoorLa
namespace Go.Proofs.YtfabnnbljkkihaaGreatDoor
open Go.ChangeShapes Go.WideShapes Go.ChangeAt Go.RowKit
set_option maxRecDepth 20000
set_option linter.unusedVariables false
set_option linter.unusedSimpArgs false
theorem two_blk {w W : World} {A B : Array Value} (h : Below ((w.alloc (.cells A 29)).alloc (.cells B 29)).heap.size ((w.alloc (.cells A 29)).alloc (.cells B 29)) W) : W.heap[w.heap.size]? = some (.cells A 29 (0, 0)) ∧ W.heap[w.heap.size + 1]? = some (.cells B 29 (0, 0)) := by
  have e : (w.alloc (.cells A 29)).heap.size = w.heap.size + 1 := by simp
  have h1 : ((w.alloc (.cells A 29)).alloc (.cells B 29)).heap[w.heap.size]? = some (.cells A 29 (0, 0)) := ((alloc1 (w.alloc (.cells A 29)) (.cells B 29)).block w.heap.size (by omega)).trans (heap_alloc_new w _)
  have h2 : ((w.alloc (.cells A 29)).alloc (.cells B 29)).heap[w.heap.size + 1]? = some (.cells B 29 (0, 0)) := by
    rw [← e]
    exact heap_alloc_new _ _
  exact ⟨(h.block _ (Array.getElem?_eq_some_iff.1 h1).1).trans h1, (h.block _ (Array.getElem?_eq_some_iff.1 h2).1).trans h2⟩
set_option maxHeartbeats 4000000 in
theorem sm8 {w : World} {lo lo2 : Nat} {k : Int} {i0 : Int} {i1 : Int} {i2 : Int} {bu : ByteArray} {ke : ByteArray} {u0 : Int} {u1 : Int} {u2 : Int} {b0 : Int} {b1 : Int} {b2 : Int} {sz : Int} {et : ByteArray} {pt : Int} {tm : Int} {dy : Int} {tm' : Int} {dy' : Int} {ps ps' : List Int} {pa pa' : Option Addr} {pn pc pn' pc' : Nat} (hA : Hid (Irow w lo pa pn ps)) (hB : Hid (Irow w lo2 pa' pn' ps')) (h : ps = ps') (h2 : ¬ tm = tm') :
    Calls Tryz.prog 39 #[.agg #[.int .i64 k, .int .i64 i0, .int .i64 i1, .int .i64 i2, .string bu, .string ke, .int .i64 u0, .int .i64 u1, .int .i64 u2, .int .i64 b0, .int .i64 b1, .int .i64 b2, .int .i64 sz, .string et, .int .i64 pt, .slice pa pn pc, .int .i64 tm, .int .i64 dy], .agg #[.int .i64 k, .int .i64 i0, .int .i64 i1, .int .i64 i2, .string bu, .string ke, .int .i64 u0, .int .i64 u1, .int .i64 u2, .int .i64 b0, .int .i64 b1, .int .i64 b2, .int .i64 sz, .string et, .int .i64 pt, .slice pa' pn' pc', .int .i64 tm', .int .i64 dy']] w fun e w' => e = .returned (.bool false) ∧ Hid (Below w.heap.size w w') := by
  have A2 : Hid (Irow ((w.alloc (.cells #[.int .i64 k, .int .i64 i0, .int .i64 i1, .int .i64 i2, .string bu, .string ke, .int .i64 u0, .int .i64 u1, .int .i64 u2, .int .i64 b0, .int .i64 b1, .int .i64 b2, .int .i64 sz, .string et, .int .i64 pt, .slice pa pn pc, .int .i64 tm, .int .i64 dy] 29)).alloc (.cells #[.int .i64 k, .int .i64 i0, .int .i64 i1, .int .i64 i2, .string bu, .string ke, .int .i64 u0, .int .i64 u1, .int .i64 u2, .int .i64 b0, .int .i64 b1, .int .i64 b2, .int .i64 sz, .string et, .int .i64 pt, .slice pa' pn' pc', .int .i64 tm', .int .i64 dy'] 29)) lo pa pn ps) := hA.out.below (alloc2 _ _ _)
  have B2 : Hid (Irow ((w.alloc (.cells #[.int .i64 k, .int .i64 i0, .int .i64 i1, .int .i64 i2, .string bu, .string ke, .int .i64 u0, .int .i64 u1, .int .i64 u2, .int .i64 b0, .int .i64 b1, .int .i64 b2, .int .i64 sz, .string et, .int .i64 pt, .slice pa pn pc, .int .i64 tm, .int .i64 dy] 29)).alloc (.cells #[.int .i64 k, .int .i64 i0, .int .i64 i1, .int .i64 i2, .string bu, .string ke, .int .i64 u0, .int .i64 u1, .int .i64 u2, .int .i64 b0, .int .i64 b1, .int .i64 b2, .int .i64 sz, .string et, .int .i64 pt, .slice pa' pn' pc', .int .i64 tm', .int .i64 dy'] 29)) lo2 pa' pn' ps') := hB.out.below (alloc2 _ _ _)
  have LB : Hid (Below w.heap.size w ((w.alloc (.cells #[.int .i64 k, .int .i64 i0, .int .i64 i1, .int .i64 i2, .string bu, .string ke, .int .i64 u0, .int .i64 u1, .int .i64 u2, .int .i64 b0, .int .i64 b1, .int .i64 b2, .int .i64 sz, .string et, .int .i64 pt, .slice pa pn pc, .int .i64 tm, .int .i64 dy] 29)).alloc (.cells #[.int .i64 k, .int .i64 i0, .int .i64 i1, .int .i64 i2, .string bu, .string ke, .int .i64 u0, .int .i64 u1, .int .i64 u2, .int .i64 b0, .int .i64 b1, .int .i64 b2, .int .i64 sz, .string et, .int .i64 pt, .slice pa' pn' pc', .int .i64 tm', .int .i64 dy'] 29))) := alloc2 _ _ _
  have Ei0 : ∀ w, (Op.equalIn 10000 24 (.agg #[.int .i64 i0, .int .i64 i1, .int .i64 i2]) (.agg #[.int .i64 i0, .int .i64 i1, .int .i64 i2])).run Tryz.prog w = .ok true w := fun w => by rw [eqId i0 i1 i2 i0 i1 i2 9998 w, decide_eq_true ⟨rfl, rfl, rfl⟩]
  have Eu0 : ∀ w, (Op.equalIn 10000 24 (.agg #[.int .i64 u0, .int .i64 u1, .int .i64 u2]) (.agg #[.int .i64 u0, .int .i64 u1, .int .i64 u2])).run Tryz.prog w = .ok true w := fun w => by rw [eqId u0 u1 u2 u0 u1 u2 9998 w, decide_eq_true ⟨rfl, rfl, rfl⟩]
  have Epc : ∀ w, (Op.equalIn 10000 26 (.agg #[.int .i64 b0, .int .i64 b1, .int .i64 b2, .int .i64 sz, .string et]) (.agg #[.int .i64 b0, .int .i64 b1, .int .i64 b2, .int .i64 sz, .string et])).run Tryz.prog w = .ok true w := fun w => by rw [eqPc b0 b1 b2 sz et b0 b1 b2 sz et w, decide_eq_true ⟨⟨rfl, rfl, rfl⟩, rfl, rfl⟩]
  have Hr : Hid (decide (ps = ps') = true) := decide_eq_true h
  clear h
  go_enter Tryz.func39, Tryz.ntmps39
  go_wp2_with (go_at_call 62; refine (equalInts_n A2 B2).mono ?_; rintro e w1 ⟨rfl, H1⟩; rw [Hr.out]; obtain ⟨p1, p2⟩ := two_blk H1.out; have c1 : w1.cell? ⟨w.heap.size, 16, none⟩ = some (.int .i64 tm) := (by simp [World.cell?, p1]); have c2 : w1.cell? ⟨w.heap.size + 1, 16, none⟩ = some (.int .i64 tm') := (by simp [World.cell?, p2]); have c3 : w1.cell? ⟨w.heap.size, 17, none⟩ = some (.int .i64 dy) := (by simp [World.cell?, p1]); have c4 : w1.cell? ⟨w.heap.size + 1, 17, none⟩ = some (.int .i64 dy') := (by simp [World.cell?, p2]); clear p1 p2)
  go_ret
  exact ⟨rfl, LB.out.trans (H1.out.mono LB.out.size)⟩
set_option maxHeartbeats 4000000 in
theorem sm9 {w : World} {lo lo2 : Nat} {k : Int} {i0 : Int} {i1 : Int} {i2 : Int} {bu : ByteArray} {ke : ByteArray} {u0 : Int} {u1 : Int} {u2 : Int} {b0 : Int} {b1 : Int} {b2 : Int} {sz : Int} {et : ByteArray} {pt : Int} {tm : Int} {dy : Int} {dy' : Int} {ps ps' : List Int} {pa pa' : Option Addr} {pn pc pn' pc' : Nat} (hA : Hid (Irow w lo pa pn ps)) (hB : Hid (Irow w lo2 pa' pn' ps')) (h : ps = ps') (h2 : ¬ dy = dy') :
    Calls Tryz.prog 39 #[.agg #[.int .i64 k, .int .i64 i0, .int .i64 i1, .int .i64 i2, .string bu, .string ke, .int .i64 u0, .int .i64 u1, .int .i64 u2, .int .i64 b0, .int .i64 b1, .int .i64 b2, .int .i64 sz, .string et, .int .i64 pt, .slice pa pn pc, .int .i64 tm, .int .i64 dy], .agg #[.int .i64 k, .int .i64 i0, .int .i64 i1, .int .i64 i2, .string bu, .string ke, .int .i64 u0, .int .i64 u1, .int .i64 u2, .int .i64 b0, .int .i64 b1, .int .i64 b2, .int .i64 sz, .string et, .int .i64 pt, .slice pa' pn' pc', .int .i64 tm, .int .i64 dy']] w fun e w' => e = .returned (.bool false) ∧ Hid (Below w.heap.size w w') := by
  have A2 : Hid (Irow ((w.alloc (.cells #[.int .i64 k, .int .i64 i0, .int .i64 i1, .int .i64 i2, .string bu, .string ke, .int .i64 u0, .int .i64 u1, .int .i64 u2, .int .i64 b0, .int .i64 b1, .int .i64 b2, .int .i64 sz, .string et, .int .i64 pt, .slice pa pn pc, .int .i64 tm, .int .i64 dy] 29)).alloc (.cells #[.int .i64 k, .int .i64 i0, .int .i64 i1, .int .i64 i2, .string bu, .string ke, .int .i64 u0, .int .i64 u1, .int .i64 u2, .int .i64 b0, .int .i64 b1, .int .i64 b2, .int .i64 sz, .string et, .int .i64 pt, .slice pa' pn' pc', .int .i64 tm, .int .i64 dy'] 29)) lo pa pn ps) := hA.out.below (alloc2 _ _ _)
  have B2 : Hid (Irow ((w.alloc (.cells #[.int .i64 k, .int .i64 i0, .int .i64 i1, .int .i64 i2, .string bu, .string ke, .int .i64 u0, .int .i64 u1, .int .i64 u2, .int .i64 b0, .int .i64 b1, .int .i64 b2, .int .i64 sz, .string et, .int .i64 pt, .slice pa pn pc, .int .i64 tm, .int .i64 dy] 29)).alloc (.cells #[.int .i64 k, .int .i64 i0, .int .i64 i1, .int .i64 i2, .string bu, .string ke, .int .i64 u0, .int .i64 u1, .int .i64 u2, .int .i64 b0, .int .i64 b1, .int .i64 b2, .int .i64 sz, .string et, .int .i64 pt, .slice pa' pn' pc', .int .i64 tm, .int .i64 dy'] 29)) lo2 pa' pn' ps') := hB.out.below (alloc2 _ _ _)
  have LB : Hid (Below w.heap.size w ((w.alloc (.cells #[.int .i64 k, .int .i64 i0, .int .i64 i1, .int .i64 i2, .string bu, .string ke, .int .i64 u0, .int .i64 u1, .int .i64 u2, .int .i64 b0, .int .i64 b1, .int .i64 b2, .int .i64 sz, .string et, .int .i64 pt, .slice pa pn pc, .int .i64 tm, .int .i64 dy] 29)).alloc (.cells #[.int .i64 k, .int .i64 i0, .int .i64 i1, .int .i64 i2, .string bu, .string ke, .int .i64 u0, .int .i64 u1, .int .i64 u2, .int .i64 b0, .int .i64 b1, .int .i64 b2, .int .i64 sz, .string et, .int .i64 pt, .slice pa' pn' pc', .int .i64 tm, .int .i64 dy'] 29))) := alloc2 _ _ _
  have Ei0 : ∀ w, (Op.equalIn 10000 24 (.agg #[.int .i64 i0, .int .i64 i1, .int .i64 i2]) (.agg #[.int .i64 i0, .int .i64 i1, .int .i64 i2])).run Tryz.prog w = .ok true w := fun w => by rw [eqId i0 i1 i2 i0 i1 i2 9998 w, decide_eq_true ⟨rfl, rfl, rfl⟩]
  have Eu0 : ∀ w, (Op.equalIn 10000 24 (.agg #[.int .i64 u0, .int .i64 u1, .int .i64 u2]) (.agg #[.int .i64 u0, .int .i64 u1, .int .i64 u2])).run Tryz.prog w = .ok true w := fun w => by rw [eqId u0 u1 u2 u0 u1 u2 9998 w, decide_eq_true ⟨rfl, rfl, rfl⟩]
  have Epc : ∀ w, (Op.equalIn 10000 26 (.agg #[.int .i64 b0, .int .i64 b1, .int .i64 b2, .int .i64 sz, .string et]) (.agg #[.int .i64 b0, .int .i64 b1, .int .i64 b2, .int .i64 sz, .string et])).run Tryz.prog w = .ok true w := fun w => by rw [eqPc b0 b1 b2 sz et b0 b1 b2 sz et w, decide_eq_true ⟨⟨rfl, rfl, rfl⟩, rfl, rfl⟩]
  have Hr : Hid (decide (ps = ps') = true) := decide_eq_true h
  clear h
  go_enter Tryz.func39, Tryz.ntmps39
  go_wp2_with (go_at_call 62; refine (equalInts_n A2 B2).mono ?_; rintro e w1 ⟨rfl, H1⟩; rw [Hr.out]; obtain ⟨p1, p2⟩ := two_blk H1.out; have c1 : w1.cell? ⟨w.heap.size, 16, none⟩ = some (.int .i64 tm) := (by simp [World.cell?, p1]); have c2 : w1.cell? ⟨w.heap.size + 1, 16, none⟩ = some (.int .i64 tm) := (by simp [World.cell?, p2]); have c3 : w1.cell? ⟨w.heap.size, 17, none⟩ = some (.int .i64 dy) := (by simp [World.cell?, p1]); have c4 : w1.cell? ⟨w.heap.size + 1, 17, none⟩ = some (.int .i64 dy') := (by simp [World.cell?, p2]); clear p1 p2)
  go_ret
  refine ⟨?_, LB.out.trans (H1.out.mono LB.out.size)⟩
  first | rfl | simp [h2]
set_option maxHeartbeats 4000000 in
theorem sm10 {w : World} {lo lo2 : Nat} {k : Int} {i0 : Int} {i1 : Int} {i2 : Int} {bu : ByteArray} {ke : ByteArray} {u0 : Int} {u1 : Int} {u2 : Int} {b0 : Int} {b1 : Int} {b2 : Int} {sz : Int} {et : ByteArray} {pt : Int} {tm : Int} {dy : Int}  {ps ps' : List Int} {pa pa' : Option Addr} {pn pc pn' pc' : Nat} (hA : Hid (Irow w lo pa pn ps)) (hB : Hid (Irow w lo2 pa' pn' ps')) (h : ps = ps') :
    Calls Tryz.prog 39 #[.agg #[.int .i64 k, .int .i64 i0, .int .i64 i1, .int .i64 i2, .string bu, .string ke, .int .i64 u0, .int .i64 u1, .int .i64 u2, .int .i64 b0, .int .i64 b1, .int .i64 b2, .int .i64 sz, .string et, .int .i64 pt, .slice pa pn pc, .int .i64 tm, .int .i64 dy], .agg #[.int .i64 k, .int .i64 i0, .int .i64 i1, .int .i64 i2, .string bu, .string ke, .int .i64 u0, .int .i64 u1, .int .i64 u2, .int .i64 b0, .int .i64 b1, .int .i64 b2, .int .i64 sz, .string et, .int .i64 pt, .slice pa' pn' pc', .int .i64 tm, .int .i64 dy]] w fun e w' => e = .returned (.bool true) ∧ Hid (Below w.heap.size w w') := by
  have A2 : Hid (Irow ((w.alloc (.cells #[.int .i64 k, .int .i64 i0, .int .i64 i1, .int .i64 i2, .string bu, .string ke, .int .i64 u0, .int .i64 u1, .int .i64 u2, .int .i64 b0, .int .i64 b1, .int .i64 b2, .int .i64 sz, .string et, .int .i64 pt, .slice pa pn pc, .int .i64 tm, .int .i64 dy] 29)).alloc (.cells #[.int .i64 k, .int .i64 i0, .int .i64 i1, .int .i64 i2, .string bu, .string ke, .int .i64 u0, .int .i64 u1, .int .i64 u2, .int .i64 b0, .int .i64 b1, .int .i64 b2, .int .i64 sz, .string et, .int .i64 pt, .slice pa' pn' pc', .int .i64 tm, .int .i64 dy] 29)) lo pa pn ps) := hA.out.below (alloc2 _ _ _)
  have B2 : Hid (Irow ((w.alloc (.cells #[.int .i64 k, .int .i64 i0, .int .i64 i1, .int .i64 i2, .string bu, .string ke, .int .i64 u0, .int .i64 u1, .int .i64 u2, .int .i64 b0, .int .i64 b1, .int .i64 b2, .int .i64 sz, .string et, .int .i64 pt, .slice pa pn pc, .int .i64 tm, .int .i64 dy] 29)).alloc (.cells #[.int .i64 k, .int .i64 i0, .int .i64 i1, .int .i64 i2, .string bu, .string ke, .int .i64 u0, .int .i64 u1, .int .i64 u2, .int .i64 b0, .int .i64 b1, .int .i64 b2, .int .i64 sz, .string et, .int .i64 pt, .slice pa' pn' pc', .int .i64 tm, .int .i64 dy] 29)) lo2 pa' pn' ps') := hB.out.below (alloc2 _ _ _)
  have LB : Hid (Below w.heap.size w ((w.alloc (.cells #[.int .i64 k, .int .i64 i0, .int .i64 i1, .int .i64 i2, .string bu, .string ke, .int .i64 u0, .int .i64 u1, .int .i64 u2, .int .i64 b0, .int .i64 b1, .int .i64 b2, .int .i64 sz, .string et, .int .i64 pt, .slice pa pn pc, .int .i64 tm, .int .i64 dy] 29)).alloc (.cells #[.int .i64 k, .int .i64 i0, .int .i64 i1, .int .i64 i2, .string bu, .string ke, .int .i64 u0, .int .i64 u1, .int .i64 u2, .int .i64 b0, .int .i64 b1, .int .i64 b2, .int .i64 sz, .string et, .int .i64 pt, .slice pa' pn' pc', .int .i64 tm, .int .i64 dy] 29))) := alloc2 _ _ _
  have Ei0 : ∀ w, (Op.equalIn 10000 24 (.agg #[.int .i64 i0, .int .i64 i1, .int .i64 i2]) (.agg #[.int .i64 i0, .int .i64 i1, .int .i64 i2])).run Tryz.prog w = .ok true w := fun w => by rw [eqId i0 i1 i2 i0 i1 i2 9998 w, decide_eq_true ⟨rfl, rfl, rfl⟩]
  have Eu0 : ∀ w, (Op.equalIn 10000 24 (.agg #[.int .i64 u0, .int .i64 u1, .int .i64 u2]) (.agg #[.int .i64 u0, .int .i64 u1, .int .i64 u2])).run Tryz.prog w = .ok true w := fun w => by rw [eqId u0 u1 u2 u0 u1 u2 9998 w, decide_eq_true ⟨rfl, rfl, rfl⟩]
  have Epc : ∀ w, (Op.equalIn 10000 26 (.agg #[.int .i64 b0, .int .i64 b1, .int .i64 b2, .int .i64 sz, .string et]) (.agg #[.int .i64 b0, .int .i64 b1, .int .i64 b2, .int .i64 sz, .string et])).run Tryz.prog w = .ok true w := fun w => by rw [eqPc b0 b1 b2 sz et b0 b1 b2 sz et w, decide_eq_true ⟨⟨rfl, rfl, rfl⟩, rfl, rfl⟩]
  have Hr : Hid (decide (ps = ps') = true) := decide_eq_true h
  clear h
  go_enter Tryz.func39, Tryz.ntmps39
  go_wp2_with (go_at_call 62; refine (equalInts_n A2 B2).mono ?_; rintro e w1 ⟨rfl, H1⟩; rw [Hr.out]; obtain ⟨p1, p2⟩ := two_blk H1.out; have c1 : w1.cell? ⟨w.heap.size, 16, none⟩ = some (.int .i64 tm) := (by simp [World.cell?, p1]); have c2 : w1.cell? ⟨w.heap.size + 1, 16, none⟩ = some (.int .i64 tm) := (by simp [World.cell?, p2]); have c3 : w1.cell? ⟨w.heap.size, 17, none⟩ = some (.int .i64 dy) := (by simp [World.cell?, p1]); have c4 : w1.cell? ⟨w.heap.size + 1, 17, none⟩ = some (.int .i64 dy) := (by simp [World.cell?, p2]); clear p1 p2)
  go_ret
  exact ⟨rfl, LB.out.trans (H1.out.mono LB.out.size)⟩
theorem same_cmd {w : World} {lo lo2 : Nat} (x y : Cx) (hA : Hid (Irow w lo x.pa x.pn x.cm.ps)) (hB : Hid (Irow w lo2 y.pa y.pn y.cm.ps)) :
    Calls Tryz.prog 39 #[.agg (encX x).toArray, .agg (encX y).toArray] w fun e w' => e = .returned (.bool (decide (x.cm = y.cm))) ∧ Hid (Below w.heap.size w w') := by
  obtain ⟨⟨k, i0, i1, i2, bu, ke, u0, u1, u2, b0, b1, b2, sz, et, pt, ps, tm, dy⟩, pa, pn, pc⟩ := x
  obtain ⟨⟨k', i0', i1', i2', bu', ke', u0', u1', u2', b0', b1', b2', sz', et', pt', ps', tm', dy'⟩, pa', pn', pc'⟩ := y
  simp only [encX] at *
  rcases Classical.em (k = k') with h0 | h0
  rotate_left
  · rw [decide_eq_false (fun e => h0 (by cases e; exact rfl))]; exact sm0 h0
  subst h0
  rcases Classical.em (i0 = i0' ∧ i1 = i1' ∧ i2 = i2') with h1 | h1
  rotate_left
  · rw [decide_eq_false (fun e => h1 (by cases e; exact ⟨rfl, rfl, rfl⟩))]; exact sm1 h1
  obtain ⟨rfl, rfl, rfl⟩ := h1
  rcases Classical.em (bu = bu') with h2 | h2
  rotate_left
  · rw [decide_eq_false (fun e => h2 (by cases e; exact rfl))]; exact sm2 h2
  subst h2
  rcases Classical.em (ke = ke') with h3 | h3
  rotate_left
  · rw [decide_eq_false (fun e => h3 (by cases e; exact rfl))]; exact sm3 h3
  subst h3
  rcases Classical.em (u0 = u0' ∧ u1 = u1' ∧ u2 = u2') with h4 | h4
  rotate_left
  · rw [decide_eq_false (fun e => h4 (by cases e; exact ⟨rfl, rfl, rfl⟩))]; exact sm4 h4
  obtain ⟨rfl, rfl, rfl⟩ := h4
  rcases Classical.em ((b0 = b0' ∧ b1 = b1' ∧ b2 = b2') ∧ sz = sz' ∧ et = et') with h5 | h5
  rotate_left
  · rw [decide_eq_false (fun e => h5 (by cases e; exact ⟨⟨rfl, rfl, rfl⟩, rfl, rfl⟩))]; exact sm5 h5
  obtain ⟨⟨rfl, rfl, rfl⟩, rfl, rfl⟩ := h5
  rcases Classical.em (pt = pt') with h6 | h6
  rotate_left
  · rw [decide_eq_false (fun e => h6 (by cases e; exact rfl))]; exact sm6 h6
  subst h6
  rcases Classical.em (ps = ps') with h7 | h7
  rotate_left
  · rw [decide_eq_false (fun e => h7 (by cases e; exact rfl))]; exact sm7 hA hB h7
  subst h7
  rcases Classical.em (tm = tm') with h8 | h8
  rotate_left
  · rw [decide_eq_false (fun e => h8 (by cases e; exact rfl))]; exact sm8 hA hB rfl h8
  subst h8
  rcases Classical.em (dy = dy') with h9 | h9
  rotate_left
  · rw [decide_eq_false (fun e => h9 (by cases e; exact rfl))]; exact sm9 hA hB rfl h9
  subst h9
  rw [decide_eq_true rfl]
  exact sm10 hA hB rfl
end Go.Proofs.YtfabnnbljkkihaaGreatDoor
