/- SameCommand. -/
import Derived.Test.YtppibcambhmomaaDoorMh
import Derived.Test.YtppibcambhmomaaDoorMAa
namespace Go.Proofs.YtppibcambhmomaaDoor
open Go.ChangeShapes Go.WideShapes Go.ChangeAt Go.RowKit
set_option maxRecDepth 20000
set_option linter.unusedVariables false
set_option linter.unusedSimpArgs false
theorem strB (x y : ByteArray) : (x.toList == y.toList) = decide (x = y) := by
  rw [ByteArray.toList_eq, ByteArray.toList_eq]
  by_cases h : x = y
  · subst h; simp
  · have h2 : ¬ (x.data.toList = y.data.toList) := fun e => h (ByteArray.ext (Array.toList_inj.1 e))
    rw [decide_eq_false h]
    simpa using h2
theorem strF {x y : ByteArray} (h : ¬ x = y) : (x.toList == y.toList) = false := by rw [strB]; exact decide_eq_false h
set_option maxHeartbeats 4000000 in
theorem sc0 {w : World} {k : Int} {i0 : Int} {i1 : Int} {i2 : Int} {bu : ByteArray} {ke : ByteArray} {u0 : Int} {u1 : Int} {u2 : Int} {b0 : Int} {b1 : Int} {b2 : Int} {sz : Int} {et : ByteArray} {pt : Int} {tm : Int} {dy : Int} {k' : Int} {i0' : Int} {i1' : Int} {i2' : Int} {bu' : ByteArray} {ke' : ByteArray} {u0' : Int} {u1' : Int} {u2' : Int} {b0' : Int} {b1' : Int} {b2' : Int} {sz' : Int} {et' : ByteArray} {pt' : Int} {tm' : Int} {dy' : Int} {pa pa' : Option Addr} {pn pc pn' pc' : Nat} (h : ¬ k = k') :
    Calls Tryd.prog 44 #[.agg #[.int .i64 k,.int .i64 i0,.int .i64 i1,.int .i64 i2,.string bu,.string ke,.int .i64 u0,.int .i64 u1,.int .i64 u2,.int .i64 b0,.int .i64 b1,.int .i64 b2,.int .i64 sz,.string et,.int .i64 pt,.slice pa pn pc,.int .i64 tm,.int .i64 dy], .agg #[.int .i64 k',.int .i64 i0',.int .i64 i1',.int .i64 i2',.string bu',.string ke',.int .i64 u0',.int .i64 u1',.int .i64 u2',.int .i64 b0',.int .i64 b1',.int .i64 b2',.int .i64 sz',.string et',.int .i64 pt',.slice pa' pn' pc',.int .i64 tm',.int .i64 dy']] w fun e w' => e = .returned (.bool false) ∧ Hid (Below w.heap.size w w') := by
  go_enter Tryd.func44, Tryd.ntmps44
  go_wp2
  go_ret
  exact ⟨rfl, alloc2 _ _ _⟩
set_option maxHeartbeats 4000000 in
theorem sc1 {w : World} {k : Int} {i0 : Int} {i1 : Int} {i2 : Int} {bu : ByteArray} {ke : ByteArray} {u0 : Int} {u1 : Int} {u2 : Int} {b0 : Int} {b1 : Int} {b2 : Int} {sz : Int} {et : ByteArray} {pt : Int} {tm : Int} {dy : Int} {i0' : Int} {i1' : Int} {i2' : Int} {bu' : ByteArray} {ke' : ByteArray} {u0' : Int} {u1' : Int} {u2' : Int} {b0' : Int} {b1' : Int} {b2' : Int} {sz' : Int} {et' : ByteArray} {pt' : Int} {tm' : Int} {dy' : Int} {pa pa' : Option Addr} {pn pc pn' pc' : Nat} (h : ¬ (i0 = i0' ∧ i1 = i1' ∧ i2 = i2')) :
    Calls Tryd.prog 44 #[.agg #[.int .i64 k,.int .i64 i0,.int .i64 i1,.int .i64 i2,.string bu,.string ke,.int .i64 u0,.int .i64 u1,.int .i64 u2,.int .i64 b0,.int .i64 b1,.int .i64 b2,.int .i64 sz,.string et,.int .i64 pt,.slice pa pn pc,.int .i64 tm,.int .i64 dy], .agg #[.int .i64 k,.int .i64 i0',.int .i64 i1',.int .i64 i2',.string bu',.string ke',.int .i64 u0',.int .i64 u1',.int .i64 u2',.int .i64 b0',.int .i64 b1',.int .i64 b2',.int .i64 sz',.string et',.int .i64 pt',.slice pa' pn' pc',.int .i64 tm',.int .i64 dy']] w fun e w' => e = .returned (.bool false) ∧ Hid (Below w.heap.size w w') := by
  have EQ : ∀ w, (Op.equalIn 10000 23 (.agg #[.int .i64 i0,.int .i64 i1,.int .i64 i2]) (.agg #[.int .i64 i0',.int .i64 i1',.int .i64 i2'])).run Tryd.prog w = .ok false w := fun w => by rw [eqId i0 i1 i2 i0' i1' i2' 9998 w, decide_eq_false h]
  go_enter Tryd.func44, Tryd.ntmps44
  go_wp2
  go_ret
  exact ⟨rfl, alloc2 _ _ _⟩
set_option maxHeartbeats 4000000 in
theorem sc2 {w : World} {k : Int} {i0 : Int} {i1 : Int} {i2 : Int} {bu : ByteArray} {ke : ByteArray} {u0 : Int} {u1 : Int} {u2 : Int} {b0 : Int} {b1 : Int} {b2 : Int} {sz : Int} {et : ByteArray} {pt : Int} {tm : Int} {dy : Int} {bu' : ByteArray} {ke' : ByteArray} {u0' : Int} {u1' : Int} {u2' : Int} {b0' : Int} {b1' : Int} {b2' : Int} {sz' : Int} {et' : ByteArray} {pt' : Int} {tm' : Int} {dy' : Int} {pa pa' : Option Addr} {pn pc pn' pc' : Nat} (h : ¬ bu = bu') :
    Calls Tryd.prog 44 #[.agg #[.int .i64 k,.int .i64 i0,.int .i64 i1,.int .i64 i2,.string bu,.string ke,.int .i64 u0,.int .i64 u1,.int .i64 u2,.int .i64 b0,.int .i64 b1,.int .i64 b2,.int .i64 sz,.string et,.int .i64 pt,.slice pa pn pc,.int .i64 tm,.int .i64 dy], .agg #[.int .i64 k,.int .i64 i0,.int .i64 i1,.int .i64 i2,.string bu',.string ke',.int .i64 u0',.int .i64 u1',.int .i64 u2',.int .i64 b0',.int .i64 b1',.int .i64 b2',.int .i64 sz',.string et',.int .i64 pt',.slice pa' pn' pc',.int .i64 tm',.int .i64 dy']] w fun e w' => e = .returned (.bool false) ∧ Hid (Below w.heap.size w w') := by
  have hs := strF h
  have Ei0 : ∀ w, (Op.equalIn 10000 23 (.agg #[.int .i64 i0,.int .i64 i1,.int .i64 i2]) (.agg #[.int .i64 i0,.int .i64 i1,.int .i64 i2])).run Tryd.prog w = .ok true w := fun w => by rw [eqId i0 i1 i2 i0 i1 i2 9998 w, decide_eq_true ⟨rfl, rfl, rfl⟩]
  go_enter Tryd.func44, Tryd.ntmps44
  go_wp2
  go_ret
  exact ⟨rfl, alloc2 _ _ _⟩
set_option maxHeartbeats 4000000 in
theorem sc3 {w : World} {k : Int} {i0 : Int} {i1 : Int} {i2 : Int} {bu : ByteArray} {ke : ByteArray} {u0 : Int} {u1 : Int} {u2 : Int} {b0 : Int} {b1 : Int} {b2 : Int} {sz : Int} {et : ByteArray} {pt : Int} {tm : Int} {dy : Int} {ke' : ByteArray} {u0' : Int} {u1' : Int} {u2' : Int} {b0' : Int} {b1' : Int} {b2' : Int} {sz' : Int} {et' : ByteArray} {pt' : Int} {tm' : Int} {dy' : Int} {pa pa' : Option Addr} {pn pc pn' pc' : Nat} (h : ¬ ke = ke') :
    Calls Tryd.prog 44 #[.agg #[.int .i64 k,.int .i64 i0,.int .i64 i1,.int .i64 i2,.string bu,.string ke,.int .i64 u0,.int .i64 u1,.int .i64 u2,.int .i64 b0,.int .i64 b1,.int .i64 b2,.int .i64 sz,.string et,.int .i64 pt,.slice pa pn pc,.int .i64 tm,.int .i64 dy], .agg #[.int .i64 k,.int .i64 i0,.int .i64 i1,.int .i64 i2,.string bu,.string ke',.int .i64 u0',.int .i64 u1',.int .i64 u2',.int .i64 b0',.int .i64 b1',.int .i64 b2',.int .i64 sz',.string et',.int .i64 pt',.slice pa' pn' pc',.int .i64 tm',.int .i64 dy']] w fun e w' => e = .returned (.bool false) ∧ Hid (Below w.heap.size w w') := by
  have hs := strF h
  have Ei0 : ∀ w, (Op.equalIn 10000 23 (.agg #[.int .i64 i0,.int .i64 i1,.int .i64 i2]) (.agg #[.int .i64 i0,.int .i64 i1,.int .i64 i2])).run Tryd.prog w = .ok true w := fun w => by rw [eqId i0 i1 i2 i0 i1 i2 9998 w, decide_eq_true ⟨rfl, rfl, rfl⟩]
  go_enter Tryd.func44, Tryd.ntmps44
  go_wp2
  go_ret
  exact ⟨rfl, alloc2 _ _ _⟩
set_option maxHeartbeats 4000000 in
theorem sc4 {w : World} {k : Int} {i0 : Int} {i1 : Int} {i2 : Int} {bu : ByteArray} {ke : ByteArray} {u0 : Int} {u1 : Int} {u2 : Int} {b0 : Int} {b1 : Int} {b2 : Int} {sz : Int} {et : ByteArray} {pt : Int} {tm : Int} {dy : Int} {u0' : Int} {u1' : Int} {u2' : Int} {b0' : Int} {b1' : Int} {b2' : Int} {sz' : Int} {et' : ByteArray} {pt' : Int} {tm' : Int} {dy' : Int} {pa pa' : Option Addr} {pn pc pn' pc' : Nat} (h : ¬ (u0 = u0' ∧ u1 = u1' ∧ u2 = u2')) :
    Calls Tryd.prog 44 #[.agg #[.int .i64 k,.int .i64 i0,.int .i64 i1,.int .i64 i2,.string bu,.string ke,.int .i64 u0,.int .i64 u1,.int .i64 u2,.int .i64 b0,.int .i64 b1,.int .i64 b2,.int .i64 sz,.string et,.int .i64 pt,.slice pa pn pc,.int .i64 tm,.int .i64 dy], .agg #[.int .i64 k,.int .i64 i0,.int .i64 i1,.int .i64 i2,.string bu,.string ke,.int .i64 u0',.int .i64 u1',.int .i64 u2',.int .i64 b0',.int .i64 b1',.int .i64 b2',.int .i64 sz',.string et',.int .i64 pt',.slice pa' pn' pc',.int .i64 tm',.int .i64 dy']] w fun e w' => e = .returned (.bool false) ∧ Hid (Below w.heap.size w w') := by
  have EQ : ∀ w, (Op.equalIn 10000 23 (.agg #[.int .i64 u0,.int .i64 u1,.int .i64 u2]) (.agg #[.int .i64 u0',.int .i64 u1',.int .i64 u2'])).run Tryd.prog w = .ok false w := fun w => by rw [eqId u0 u1 u2 u0' u1' u2' 9998 w, decide_eq_false h]
  have Ei0 : ∀ w, (Op.equalIn 10000 23 (.agg #[.int .i64 i0,.int .i64 i1,.int .i64 i2]) (.agg #[.int .i64 i0,.int .i64 i1,.int .i64 i2])).run Tryd.prog w = .ok true w := fun w => by rw [eqId i0 i1 i2 i0 i1 i2 9998 w, decide_eq_true ⟨rfl, rfl, rfl⟩]
  go_enter Tryd.func44, Tryd.ntmps44
  go_wp2
  go_ret
  exact ⟨rfl, alloc2 _ _ _⟩
set_option maxHeartbeats 4000000 in
theorem sc5 {w : World} {k : Int} {i0 : Int} {i1 : Int} {i2 : Int} {bu : ByteArray} {ke : ByteArray} {u0 : Int} {u1 : Int} {u2 : Int} {b0 : Int} {b1 : Int} {b2 : Int} {sz : Int} {et : ByteArray} {pt : Int} {tm : Int} {dy : Int} {b0' : Int} {b1' : Int} {b2' : Int} {sz' : Int} {et' : ByteArray} {pt' : Int} {tm' : Int} {dy' : Int} {pa pa' : Option Addr} {pn pc pn' pc' : Nat} (h : ¬ ((b0 = b0' ∧ b1 = b1' ∧ b2 = b2') ∧ sz = sz' ∧ et = et')) :
    Calls Tryd.prog 44 #[.agg #[.int .i64 k,.int .i64 i0,.int .i64 i1,.int .i64 i2,.string bu,.string ke,.int .i64 u0,.int .i64 u1,.int .i64 u2,.int .i64 b0,.int .i64 b1,.int .i64 b2,.int .i64 sz,.string et,.int .i64 pt,.slice pa pn pc,.int .i64 tm,.int .i64 dy], .agg #[.int .i64 k,.int .i64 i0,.int .i64 i1,.int .i64 i2,.string bu,.string ke,.int .i64 u0,.int .i64 u1,.int .i64 u2,.int .i64 b0',.int .i64 b1',.int .i64 b2',.int .i64 sz',.string et',.int .i64 pt',.slice pa' pn' pc',.int .i64 tm',.int .i64 dy']] w fun e w' => e = .returned (.bool false) ∧ Hid (Below w.heap.size w w') := by
  have EQ : ∀ w, (Op.equalIn 10000 58 (.agg #[.int .i64 b0,.int .i64 b1,.int .i64 b2,.int .i64 sz,.string et]) (.agg #[.int .i64 b0',.int .i64 b1',.int .i64 b2',.int .i64 sz',.string et'])).run Tryd.prog w = .ok false w := fun w => by rw [eqPc b0 b1 b2 sz et b0' b1' b2' sz' et' w, decide_eq_false h]
  have Ei0 : ∀ w, (Op.equalIn 10000 23 (.agg #[.int .i64 i0,.int .i64 i1,.int .i64 i2]) (.agg #[.int .i64 i0,.int .i64 i1,.int .i64 i2])).run Tryd.prog w = .ok true w := fun w => by rw [eqId i0 i1 i2 i0 i1 i2 9998 w, decide_eq_true ⟨rfl, rfl, rfl⟩]
  have Eu0 : ∀ w, (Op.equalIn 10000 23 (.agg #[.int .i64 u0,.int .i64 u1,.int .i64 u2]) (.agg #[.int .i64 u0,.int .i64 u1,.int .i64 u2])).run Tryd.prog w = .ok true w := fun w => by rw [eqId u0 u1 u2 u0 u1 u2 9998 w, decide_eq_true ⟨rfl, rfl, rfl⟩]
  go_enter Tryd.func44, Tryd.ntmps44
  go_wp2
  go_ret
  exact ⟨rfl, alloc2 _ _ _⟩
set_option maxHeartbeats 4000000 in
theorem sc6 {w : World} {k : Int} {i0 : Int} {i1 : Int} {i2 : Int} {bu : ByteArray} {ke : ByteArray} {u0 : Int} {u1 : Int} {u2 : Int} {b0 : Int} {b1 : Int} {b2 : Int} {sz : Int} {et : ByteArray} {pt : Int} {tm : Int} {dy : Int} {pt' : Int} {tm' : Int} {dy' : Int} {pa pa' : Option Addr} {pn pc pn' pc' : Nat} (h : ¬ pt = pt') :
    Calls Tryd.prog 44 #[.agg #[.int .i64 k,.int .i64 i0,.int .i64 i1,.int .i64 i2,.string bu,.string ke,.int .i64 u0,.int .i64 u1,.int .i64 u2,.int .i64 b0,.int .i64 b1,.int .i64 b2,.int .i64 sz,.string et,.int .i64 pt,.slice pa pn pc,.int .i64 tm,.int .i64 dy], .agg #[.int .i64 k,.int .i64 i0,.int .i64 i1,.int .i64 i2,.string bu,.string ke,.int .i64 u0,.int .i64 u1,.int .i64 u2,.int .i64 b0,.int .i64 b1,.int .i64 b2,.int .i64 sz,.string et,.int .i64 pt',.slice pa' pn' pc',.int .i64 tm',.int .i64 dy']] w fun e w' => e = .returned (.bool false) ∧ Hid (Below w.heap.size w w') := by
  have Ei0 : ∀ w, (Op.equalIn 10000 23 (.agg #[.int .i64 i0,.int .i64 i1,.int .i64 i2]) (.agg #[.int .i64 i0,.int .i64 i1,.int .i64 i2])).run Tryd.prog w = .ok true w := fun w => by rw [eqId i0 i1 i2 i0 i1 i2 9998 w, decide_eq_true ⟨rfl, rfl, rfl⟩]
  have Eu0 : ∀ w, (Op.equalIn 10000 23 (.agg #[.int .i64 u0,.int .i64 u1,.int .i64 u2]) (.agg #[.int .i64 u0,.int .i64 u1,.int .i64 u2])).run Tryd.prog w = .ok true w := fun w => by rw [eqId u0 u1 u2 u0 u1 u2 9998 w, decide_eq_true ⟨rfl, rfl, rfl⟩]
  have Epc : ∀ w, (Op.equalIn 10000 58 (.agg #[.int .i64 b0,.int .i64 b1,.int .i64 b2,.int .i64 sz,.string et]) (.agg #[.int .i64 b0,.int .i64 b1,.int .i64 b2,.int .i64 sz,.string et])).run Tryd.prog w = .ok true w := fun w => by rw [eqPc b0 b1 b2 sz et b0 b1 b2 sz et w, decide_eq_true ⟨⟨rfl, rfl, rfl⟩, rfl, rfl⟩]
  go_enter Tryd.func44, Tryd.ntmps44
  go_wp2
  go_ret
  exact ⟨rfl, alloc2 _ _ _⟩
set_option maxHeartbeats 4000000 in
theorem sc7 {w : World} {k : Int} {i0 : Int} {i1 : Int} {i2 : Int} {bu : ByteArray} {ke : ByteArray} {u0 : Int} {u1 : Int} {u2 : Int} {b0 : Int} {b1 : Int} {b2 : Int} {sz : Int} {et : ByteArray} {pt : Int} {tm : Int} {dy : Int} {tm' : Int} {dy' : Int} {pa pa' : Option Addr} {pn pc pn' pc' : Nat} (h : ¬ tm = tm') :
    Calls Tryd.prog 44 #[.agg #[.int .i64 k,.int .i64 i0,.int .i64 i1,.int .i64 i2,.string bu,.string ke,.int .i64 u0,.int .i64 u1,.int .i64 u2,.int .i64 b0,.int .i64 b1,.int .i64 b2,.int .i64 sz,.string et,.int .i64 pt,.slice pa pn pc,.int .i64 tm,.int .i64 dy], .agg #[.int .i64 k,.int .i64 i0,.int .i64 i1,.int .i64 i2,.string bu,.string ke,.int .i64 u0,.int .i64 u1,.int .i64 u2,.int .i64 b0,.int .i64 b1,.int .i64 b2,.int .i64 sz,.string et,.int .i64 pt,.slice pa' pn' pc',.int .i64 tm',.int .i64 dy']] w fun e w' => e = .returned (.bool false) ∧ Hid (Below w.heap.size w w') := by
  have Ei0 : ∀ w, (Op.equalIn 10000 23 (.agg #[.int .i64 i0,.int .i64 i1,.int .i64 i2]) (.agg #[.int .i64 i0,.int .i64 i1,.int .i64 i2])).run Tryd.prog w = .ok true w := fun w => by rw [eqId i0 i1 i2 i0 i1 i2 9998 w, decide_eq_true ⟨rfl, rfl, rfl⟩]
  have Eu0 : ∀ w, (Op.equalIn 10000 23 (.agg #[.int .i64 u0,.int .i64 u1,.int .i64 u2]) (.agg #[.int .i64 u0,.int .i64 u1,.int .i64 u2])).run Tryd.prog w = .ok true w := fun w => by rw [eqId u0 u1 u2 u0 u1 u2 9998 w, decide_eq_true ⟨rfl, rfl, rfl⟩]
  have Epc : ∀ w, (Op.equalIn 10000 58 (.agg #[.int .i64 b0,.int .i64 b1,.int .i64 b2,.int .i64 sz,.string et]) (.agg #[.int .i64 b0,.int .i64 b1,.int .i64 b2,.int .i64 sz,.string et])).run Tryd.prog w = .ok true w := fun w => by rw [eqPc b0 b1 b2 sz et b0 b1 b2 sz et w, decide_eq_true ⟨⟨rfl, rfl, rfl⟩, rfl, rfl⟩]
  go_enter Tryd.func44, Tryd.ntmps44
  go_wp2
  go_ret
  exact ⟨rfl, alloc2 _ _ _⟩
set_option maxHeartbeats 4000000 in
theorem sc8 {w : World} {k : Int} {i0 : Int} {i1 : Int} {i2 : Int} {bu : ByteArray} {ke : ByteArray} {u0 : Int} {u1 : Int} {u2 : Int} {b0 : Int} {b1 : Int} {b2 : Int} {sz : Int} {et : ByteArray} {pt : Int} {tm : Int} {dy : Int} {dy' : Int} {pa pa' : Option Addr} {pn pc pn' pc' : Nat} (h : ¬ dy = dy') :
    Calls Tryd.prog 44 #[.agg #[.int .i64 k,.int .i64 i0,.int .i64 i1,.int .i64 i2,.string bu,.string ke,.int .i64 u0,.int .i64 u1,.int .i64 u2,.int .i64 b0,.int .i64 b1,.int .i64 b2,.int .i64 sz,.string et,.int .i64 pt,.slice pa pn pc,.int .i64 tm,.int .i64 dy], .agg #[.int .i64 k,.int .i64 i0,.int .i64 i1,.int .i64 i2,.string bu,.string ke,.int .i64 u0,.int .i64 u1,.int .i64 u2,.int .i64 b0,.int .i64 b1,.int .i64 b2,.int .i64 sz,.string et,.int .i64 pt,.slice pa' pn' pc',.int .i64 tm,.int .i64 dy']] w fun e w' => e = .returned (.bool false) ∧ Hid (Below w.heap.size w w') := by
  have Ei0 : ∀ w, (Op.equalIn 10000 23 (.agg #[.int .i64 i0,.int .i64 i1,.int .i64 i2]) (.agg #[.int .i64 i0,.int .i64 i1,.int .i64 i2])).run Tryd.prog w = .ok true w := fun w => by rw [eqId i0 i1 i2 i0 i1 i2 9998 w, decide_eq_true ⟨rfl, rfl, rfl⟩]
  have Eu0 : ∀ w, (Op.equalIn 10000 23 (.agg #[.int .i64 u0,.int .i64 u1,.int .i64 u2]) (.agg #[.int .i64 u0,.int .i64 u1,.int .i64 u2])).run Tryd.prog w = .ok true w := fun w => by rw [eqId u0 u1 u2 u0 u1 u2 9998 w, decide_eq_true ⟨rfl, rfl, rfl⟩]
  have Epc : ∀ w, (Op.equalIn 10000 58 (.agg #[.int .i64 b0,.int .i64 b1,.int .i64 b2,.int .i64 sz,.string et]) (.agg #[.int .i64 b0,.int .i64 b1,.int .i64 b2,.int .i64 sz,.string et])).run Tryd.prog w = .ok true w := fun w => by rw [eqPc b0 b1 b2 sz et b0 b1 b2 sz et w, decide_eq_true ⟨⟨rfl, rfl, rfl⟩, rfl, rfl⟩]
  go_enter Tryd.func44, Tryd.ntmps44
  go_wp2
  go_ret
  exact ⟨rfl, alloc2 _ _ _⟩
set_option maxHeartbeats 4000000 in
theorem sc9 {w : World} {lo lo2 : Nat} {k : Int} {i0 : Int} {i1 : Int} {i2 : Int} {bu : ByteArray} {ke : ByteArray} {u0 : Int} {u1 : Int} {u2 : Int} {b0 : Int} {b1 : Int} {b2 : Int} {sz : Int} {et : ByteArray} {pt : Int} {tm : Int} {dy : Int} {ps ps' : List Int} {pa pa' : Option Addr} {pn pc pn' pc' : Nat} (hA : Hid (Irow w lo pa pn ps)) (hB : Hid (Irow w lo2 pa' pn' ps')) :
    Calls Tryd.prog 44 #[.agg #[.int .i64 k,.int .i64 i0,.int .i64 i1,.int .i64 i2,.string bu,.string ke,.int .i64 u0,.int .i64 u1,.int .i64 u2,.int .i64 b0,.int .i64 b1,.int .i64 b2,.int .i64 sz,.string et,.int .i64 pt,.slice pa pn pc,.int .i64 tm,.int .i64 dy], .agg #[.int .i64 k,.int .i64 i0,.int .i64 i1,.int .i64 i2,.string bu,.string ke,.int .i64 u0,.int .i64 u1,.int .i64 u2,.int .i64 b0,.int .i64 b1,.int .i64 b2,.int .i64 sz,.string et,.int .i64 pt,.slice pa' pn' pc',.int .i64 tm,.int .i64 dy]] w fun e w' => e = .returned (.bool (decide (ps = ps'))) ∧ Hid (Below w.heap.size w w') := by
  have A2 : Hid (Irow ((w.alloc (.cells #[.int .i64 k,.int .i64 i0,.int .i64 i1,.int .i64 i2,.string bu,.string ke,.int .i64 u0,.int .i64 u1,.int .i64 u2,.int .i64 b0,.int .i64 b1,.int .i64 b2,.int .i64 sz,.string et,.int .i64 pt,.slice pa pn pc,.int .i64 tm,.int .i64 dy] 60)).alloc (.cells #[.int .i64 k,.int .i64 i0,.int .i64 i1,.int .i64 i2,.string bu,.string ke,.int .i64 u0,.int .i64 u1,.int .i64 u2,.int .i64 b0,.int .i64 b1,.int .i64 b2,.int .i64 sz,.string et,.int .i64 pt,.slice pa' pn' pc',.int .i64 tm,.int .i64 dy] 60)) lo pa pn ps) := hA.out.below (alloc2 _ _ _)
  have B2 : Hid (Irow ((w.alloc (.cells #[.int .i64 k,.int .i64 i0,.int .i64 i1,.int .i64 i2,.string bu,.string ke,.int .i64 u0,.int .i64 u1,.int .i64 u2,.int .i64 b0,.int .i64 b1,.int .i64 b2,.int .i64 sz,.string et,.int .i64 pt,.slice pa pn pc,.int .i64 tm,.int .i64 dy] 60)).alloc (.cells #[.int .i64 k,.int .i64 i0,.int .i64 i1,.int .i64 i2,.string bu,.string ke,.int .i64 u0,.int .i64 u1,.int .i64 u2,.int .i64 b0,.int .i64 b1,.int .i64 b2,.int .i64 sz,.string et,.int .i64 pt,.slice pa' pn' pc',.int .i64 tm,.int .i64 dy] 60)) lo2 pa' pn' ps') := hB.out.below (alloc2 _ _ _)
  have LB : Hid (Below w.heap.size w ((w.alloc (.cells #[.int .i64 k,.int .i64 i0,.int .i64 i1,.int .i64 i2,.string bu,.string ke,.int .i64 u0,.int .i64 u1,.int .i64 u2,.int .i64 b0,.int .i64 b1,.int .i64 b2,.int .i64 sz,.string et,.int .i64 pt,.slice pa pn pc,.int .i64 tm,.int .i64 dy] 60)).alloc (.cells #[.int .i64 k,.int .i64 i0,.int .i64 i1,.int .i64 i2,.string bu,.string ke,.int .i64 u0,.int .i64 u1,.int .i64 u2,.int .i64 b0,.int .i64 b1,.int .i64 b2,.int .i64 sz,.string et,.int .i64 pt,.slice pa' pn' pc',.int .i64 tm,.int .i64 dy] 60))) := alloc2 _ _ _
  have Ei0 : ∀ w, (Op.equalIn 10000 23 (.agg #[.int .i64 i0,.int .i64 i1,.int .i64 i2]) (.agg #[.int .i64 i0,.int .i64 i1,.int .i64 i2])).run Tryd.prog w = .ok true w := fun w => by rw [eqId i0 i1 i2 i0 i1 i2 9998 w, decide_eq_true ⟨rfl, rfl, rfl⟩]
  have Eu0 : ∀ w, (Op.equalIn 10000 23 (.agg #[.int .i64 u0,.int .i64 u1,.int .i64 u2]) (.agg #[.int .i64 u0,.int .i64 u1,.int .i64 u2])).run Tryd.prog w = .ok true w := fun w => by rw [eqId u0 u1 u2 u0 u1 u2 9998 w, decide_eq_true ⟨rfl, rfl, rfl⟩]
  have Epc : ∀ w, (Op.equalIn 10000 58 (.agg #[.int .i64 b0,.int .i64 b1,.int .i64 b2,.int .i64 sz,.string et]) (.agg #[.int .i64 b0,.int .i64 b1,.int .i64 b2,.int .i64 sz,.string et])).run Tryd.prog w = .ok true w := fun w => by rw [eqPc b0 b1 b2 sz et b0 b1 b2 sz et w, decide_eq_true ⟨⟨rfl, rfl, rfl⟩, rfl, rfl⟩]
  obtain ⟨r, Hr⟩ : ∃ r, Hid (decide (ps = ps') = r) := ⟨_, rfl⟩
  rw [Hr.out]
  go_enter Tryd.func44, Tryd.ntmps44
  go_wp2_with (go_at_call 57; refine (sameInts_n A2 B2).mono ?_; rintro e w1 ⟨rfl, H1⟩; rw [Hr.out])
  go_ret
  exact ⟨rfl, LB.out.trans (H1.out.mono LB.out.size)⟩
theorem sameCmd_n {w : World} {lo lo2 : Nat} (x y : Cx) (hA : Hid (Irow w lo x.pa x.pn x.cm.ps)) (hB : Hid (Irow w lo2 y.pa y.pn y.cm.ps)) :
    Calls Tryd.prog 44 #[.agg (encX x).toArray, .agg (encX y).toArray] w fun e w' => e = .returned (.bool (decide (x.cm = y.cm))) ∧ Hid (Below w.heap.size w w') := by
  obtain ⟨⟨k, i0, i1, i2, bu, ke, u0, u1, u2, b0, b1, b2, sz, et, pt, ps, tm, dy⟩, pa, pn, pc⟩ := x
  obtain ⟨⟨k', i0', i1', i2', bu', ke', u0', u1', u2', b0', b1', b2', sz', et', pt', ps', tm', dy'⟩, pa', pn', pc'⟩ := y
  simp only [encX] at *
  rcases Classical.em (k = k') with h0 | h0
  rotate_left
  · rw [decide_eq_false (fun e => h0 (by cases e; exact rfl))]; exact sc0 h0
  subst h0
  rcases Classical.em (i0 = i0' ∧ i1 = i1' ∧ i2 = i2') with h1 | h1
  rotate_left
  · rw [decide_eq_false (fun e => h1 (by cases e; exact ⟨rfl, rfl, rfl⟩))]; exact sc1 h1
  obtain ⟨rfl, rfl, rfl⟩ := h1
  rcases Classical.em (bu = bu') with h2 | h2
  rotate_left
  · rw [decide_eq_false (fun e => h2 (by cases e; exact rfl))]; exact sc2 h2
  subst h2
  rcases Classical.em (ke = ke') with h3 | h3
  rotate_left
  · rw [decide_eq_false (fun e => h3 (by cases e; exact rfl))]; exact sc3 h3
  subst h3
  rcases Classical.em (u0 = u0' ∧ u1 = u1' ∧ u2 = u2') with h4 | h4
  rotate_left
  · rw [decide_eq_false (fun e => h4 (by cases e; exact ⟨rfl, rfl, rfl⟩))]; exact sc4 h4
  obtain ⟨rfl, rfl, rfl⟩ := h4
  rcases Classical.em ((b0 = b0' ∧ b1 = b1' ∧ b2 = b2') ∧ sz = sz' ∧ et = et') with h5 | h5
  rotate_left
  · rw [decide_eq_false (fun e => h5 (by cases e; exact ⟨⟨rfl, rfl, rfl⟩, rfl, rfl⟩))]; exact sc5 h5
  obtain ⟨⟨rfl, rfl, rfl⟩, rfl, rfl⟩ := h5
  rcases Classical.em (pt = pt') with h6 | h6
  rotate_left
  · rw [decide_eq_false (fun e => h6 (by cases e; exact rfl))]; exact sc6 h6
  subst h6
  rcases Classical.em (tm = tm') with h7 | h7
  rotate_left
  · rw [decide_eq_false (fun e => h7 (by cases e; exact rfl))]; exact sc7 h7
  subst h7
  rcases Classical.em (dy = dy') with h8 | h8
  rotate_left
  · rw [decide_eq_false (fun e => h8 (by cases e; exact rfl))]; exact sc8 h8
  subst h8
  have e : ∀ p q : List Int, decide (({ k := k, i0 := i0, i1 := i1, i2 := i2, bu := bu, ke := ke, u0 := u0, u1 := u1, u2 := u2, b0 := b0, b1 := b1, b2 := b2, sz := sz, et := et, pt := pt, ps := p, tm := tm, dy := dy } : Cm) = { k := k, i0 := i0, i1 := i1, i2 := i2, bu := bu, ke := ke, u0 := u0, u1 := u1, u2 := u2, b0 := b0, b1 := b1, b2 := b2, sz := sz, et := et, pt := pt, ps := q, tm := tm, dy := dy }) = decide (p = q) := fun p q => by simp
  rw [e]
  exact sc9 hA hB
end Go.Proofs.YtppibcambhmomaaDoor
