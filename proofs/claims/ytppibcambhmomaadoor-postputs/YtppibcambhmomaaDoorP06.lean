import Derived.Test.YtppibcambhmomaaDoorPp
import Derived.Test.YtppibcambhmomaaDoorP02
import Derived.Deep.CutBlock
import Derived.Deep.DeepCutAuto
import Derived.Test.YtppibcambhmomaaDoorP04
namespace Go.Proofs.YtppibcambhmomaaDoor
open Go.ChangeShapes Go.WideShapes Go.ChangeAt Go.RowKit
set_option maxRecDepth 20000
set_option linter.unusedVariables false
set_option linter.unusedSimpArgs false
theorem strB (x y : ByteArray) : (x.toList == y.toList) = decide (x = y) := by
 rw [ByteArray.toList_eq, ByteArray.toList_eq]
 by_cases h : x = y
 . subst h; simp
 . have h2 : ¬ (x.data.toList = y.data.toList) := fun e => h (ByteArray.ext (Array.toList_inj.1 e))
   rw [decide_eq_false h]
   simpa using h2
theorem strF {x y : ByteArray} (h : ¬ x = y) : (x.toList == y.toList) = false := by rw [strB]; exact decide_eq_false h
set_option maxHeartbeats 4000000 in
theorem sc0 {w : World} {k : Int} {i0 : Int} {i1 : Int} {i2 : Int} {bu : ByteArray} {ke : ByteArray} {u0 : Int} {u1 : Int} {u2 : Int} {b0 : Int} {b1 : Int} {b2 : Int} {sz : Int} {et : ByteArray} {pt : Int} {tm : Int} {dy : Int} {k' : Int} {i0' : Int} {i1' : Int} {i2' : Int} {bu' : ByteArray} {ke' : ByteArray} {u0' : Int} {u1' : Int} {u2' : Int} {b0' : Int} {b1' : Int} {b2' : Int} {sz' : Int} {et' : ByteArray} {pt' : Int} {tm' : Int} {dy' : Int} {pa pa' : Option Addr} {pn pc pn' pc' : Nat} (h : ¬ k = k') :
  Calls Tryd.prog 44 #[.agg #[.int .i64 k,.int .i64 i0,.int .i64 i1,.int .i64 i2,.string bu,.string ke,.int .i64 u0,.int .i64 u1,.int .i64 u2,.int .i64 b0,.int .i64 b1,.int .i64 b2,.int .i64 sz,.string et,.int .i64 pt,.slice pa pn pc,.int .i64 tm,.int .i64 dy], .agg #[.int .i64 k',.int .i64 i0',.int .i64 i1',.int .i64 i2',.string bu',.string ke',.int .i64 u0',.int .i64 u1',.int .i64 u2',.int .i64 b0',.int .i64 b1',.int .i64 b2',.int .i64 sz',.string et',.int .i64 pt',.slice pa' pn' pc',.int .i64 tm',.int .i64 dy']] w fun e w' => e = .returned (.bool false) /\ Hid (Below w.heap.size w w') := by
 go_enter Tryd.func44, Tryd.ntmps44
 go_wp2
 go_ret
 exact ⟨rfl, alloc2 _ _ _⟩
set_option maxHeartbeats 4000000 in
theorem sc1 {w : World} {k : Int} {i0 : Int} {i1 : Int} {i2 : Int} {bu : ByteArray} {ke : ByteArray} {u0 : Int} {u1 : Int} {u2 : Int} {b0 : Int} {b1 : Int} {b2 : Int} {sz : Int} {et : ByteArray} {pt : Int} {tm : Int} {dy : Int} {i0' : Int} {i1' : Int} {i2' : Int} {bu' : ByteArray} {ke' : ByteArray} {u0' : Int} {u1' : Int} {u2' : Int} {b0' : Int} {b1' : Int} {b2' : Int} {sz' : Int} {et' : ByteArray} {pt' : Int} {tm' : Int} {dy' : Int} {pa pa' : Option Addr} {pn pc pn' pc' : Nat} (h : ¬ (i0 = i0' /\ i1 = i1' /\ i2 = i2')) :
  Calls Tryd.prog 44 #[.agg #[.int .i64 k,.int .i64 i0,.int .i64 i1,.int .i64 i2,.string bu,.string ke,.int .i64 u0,.int .i64 u1,.int .i64 u2,.int .i64 b0,.int .i64 b1,.int .i64 b2,.int .i64 sz,.string et,.int .i64 pt,.slice pa pn pc,.int .i64 tm,.int .i64 dy], .agg #[.int .i64 k,.int .i64 i0',.int .i64 i1',.int .i64 i2',.string bu',.string ke',.int .i64 u0',.int .i64 u1',.int .i64 u2',.int .i64 b0',.int .i64 b1',.int .i64 b2',.int .i64 sz',.string et',.int .i64 pt',.slice pa' pn' pc',.int .i64 tm',.int .i64 dy']] w fun e w' => e = .returned (.bool false) /\ Hid (Below w.heap.size w w') := by
 have EQ : ∀ w, (Op.equalIn 10000 23 (.agg #[.int .i64 i0,.int .i64 i1,.int .i64 i2]) (.agg #[.int .i64 i0',.int .i64 i1',.int .i64 i2'])).run Tryd.prog w = .ok false w := fun w => by rw [eqId i0 i1 i2 i0' i1' i2' 9998 w, decide_eq_false h]
 go_enter Tryd.func44, Tryd.ntmps44
 go_wp2
 go_ret
 exact ⟨rfl, alloc2 _ _ _⟩
set_option maxHeartbeats 4000000 in
theorem sc2 {w : World} {k : Int} {i0 : Int} {i1 : Int} {i2 : Int} {bu : ByteArray} {ke : ByteArray} {u0 : Int} {u1 : Int} {u2 : Int} {b0 : Int} {b1 : Int} {b2 : Int} {sz : Int} {et : ByteArray} {pt : Int} {tm : Int} {dy : Int} {bu' : ByteArray} {ke' : ByteArray} {u0' : Int} {u1' : Int} {u2' : Int} {b0' : Int} {b1' : Int} {b2' : Int} {sz' : Int} {et' : ByteArray} {pt' : Int} {tm' : Int} {dy' : Int} {pa pa' : Option Addr} {pn pc pn' pc' : Nat} (h : ¬ bu = bu') :
  Calls Tryd.prog 44 #[.agg #[.int .i64 k,.int .i64 i0,.int .i64 i1,.int .i64 i2,.string bu,.string ke,.int .i64 u0,.int .i64 u1,.int .i64 u2,.int .i64 b0,.int .i64 b1,.int .i64 b2,.int .i64 sz,.string et,.int .i64 pt,.slice pa pn pc,.int .i64 tm,.int .i64 dy], .agg #[.int .i64 k,.int .i64 i0,.int .i64 i1,.int .i64 i2,.string bu',.string ke',.int .i64 u0',.int .i64 u1',.int .i64 u2',.int .i64 b0',.int .i64 b1',.int .i64 b2',.int .i64 sz',.string et',.int .i64 pt',.slice pa' pn' pc',.int .i64 tm',.int .i64 dy']] w fun e w' => e = .returned (.bool false) /\ Hid (Below w.heap.size w w') := by
 have hs := strF h
 have Ei0 : ∀ w, (Op.equalIn 10000 23 (.agg #[.int .i64 i0,.int .i64 i1,.int .i64 i2]) (.agg #[.int .i64 i0,.int .i64 i1,.int .i64 i2])).run Tryd.prog w = .ok true w := fun w => by rw [eqId i0 i1 i2 i0 i1 i2 9998 w, decide_eq_true ⟨rfl, rfl, rfl⟩]
 go_enter Tryd.func44, Tryd.ntmps44
 go_wp2
 go_ret
 exact ⟨rfl, alloc2 _ _ _⟩
set_option maxHeartbeats 4000000 in
theorem sc3 {w : World} {k : Int} {i0 : Int} {i1 : Int} {i2 : Int} {bu : ByteArray} {ke : ByteArray} {u0 : Int} {u1 : Int} {u2 : Int} {b0 : Int} {b1 : Int} {b2 : Int} {sz : Int} {et : ByteArray} {pt : Int} {tm : Int} {dy : Int} {ke' : ByteArray} {u0' : Int} {u1' : Int} {u2' : Int} {b0' : Int} {b1' : Int} {b2' : Int} {sz' : Int} {et' : ByteArray} {pt' : Int} {tm' : Int} {dy' : Int} {pa pa' : Option Addr} {pn pc pn' pc' : Nat} (h : ¬ ke = ke') :
  Calls Tryd.prog 44 #[.agg #[.int .i64 k,.int .i64 i0,.int .i64 i1,.int .i64 i2,.string bu,.string ke,.int .i64 u0,.int .i64 u1,.int .i64 u2,.int .i64 b0,.int .i64 b1,.int .i64 b2,.int .i64 sz,.string et,.int .i64 pt,.slice pa pn pc,.int .i64 tm,.int .i64 dy], .agg #[.int .i64 k,.int .i64 i0,.int .i64 i1,.int .i64 i2,.string bu,.string ke',.int .i64 u0',.int .i64 u1',.int .i64 u2',.int .i64 b0',.int .i64 b1',.int .i64 b2',.int .i64 sz',.string et',.int .i64 pt',.slice pa' pn' pc',.int .i64 tm',.int .i64 dy']] w fun e w' => e = .returned (.bool false) /\ Hid (Below w.heap.size w w') := by
 have hs := strF h
 have Ei0 : ∀ w, (Op.equalIn 10000 23 (.agg #[.int .i64 i0,.int .i64 i1,.int .i64 i2]) (.agg #[.int .i64 i0,.int .i64 i1,.int .i64 i2])).run Tryd.prog w = .ok true w := fun w => by rw [eqId i0 i1 i2 i0 i1 i2 9998 w, decide_eq_true ⟨rfl, rfl, rfl⟩]
 go_enter Tryd.func44, Tryd.ntmps44
 go_wp2
 go_ret
 exact ⟨rfl, alloc2 _ _ _⟩
set_option maxHeartbeats 4000000 in
theorem sc4 {w : World} {k : Int} {i0 : Int} {i1 : Int} {i2 : Int} {bu : ByteArray} {ke : ByteArray} {u0 : Int} {u1 : Int} {u2 : Int} {b0 : Int} {b1 : Int} {b2 : Int} {sz : Int} {et : ByteArray} {pt : Int} {tm : Int} {dy : Int} {u0' : Int} {u1' : Int} {u2' : Int} {b0' : Int} {b1' : Int} {b2' : Int} {sz' : Int} {et' : ByteArray} {pt' : Int} {tm' : Int} {dy' : Int} {pa pa' : Option Addr} {pn pc pn' pc' : Nat} (h : ¬ (u0 = u0' /\ u1 = u1' /\ u2 = u2')) :
  Calls Tryd.prog 44 #[.agg #[.int .i64 k,.int .i64 i0,.int .i64 i1,.int .i64 i2,.string bu,.string ke,.int .i64 u0,.int .i64 u1,.int .i64 u2,.int .i64 b0,.int .i64 b1,.int .i64 b2,.int .i64 sz,.string et,.int .i64 pt,.slice pa pn pc,.int .i64 tm,.int .i64 dy], .agg #[.int .i64 k,.int .i64 i0,.int .i64 i1,.int .i64 i2,.string bu,.string ke,.int .i64 u0',.int .i64 u1',.int .i64 u2',.int .i64 b0',.int .i64 b1',.int .i64 b2',.int .i64 sz',.string et',.int .i64 pt',.slice pa' pn' pc',.int .i64 tm',.int .i64 dy']] w fun e w' => e = .returned (.bool false) /\ Hid (Below w.heap.size w w') := by
 have EQ : ∀ w, (Op.equalIn 10000 23 (.agg #[.int .i64 u0,.int .i64 u1,.int .i64 u2]) (.agg #[.int .i64 u0',.int .i64 u1',.int .i64 u2'])).run Tryd.prog w = .ok false w := fun w => by rw [eqId u0 u1 u2 u0' u1' u2' 9998 w, decide_eq_false h]
 have Ei0 : ∀ w, (Op.equalIn 10000 23 (.agg #[.int .i64 i0,.int .i64 i1,.int .i64 i2]) (.agg #[.int .i64 i0,.int .i64 i1,.int .i64 i2])).run Tryd.prog w = .ok true w := fun w => by rw [eqId i0 i1 i2 i0 i1 i2 9998 w, decide_eq_true ⟨rfl, rfl, rfl⟩]
 go_enter Tryd.func44, Tryd.ntmps44
 go_wp2
 go_ret
 exact ⟨rfl, alloc2 _ _ _⟩
set_option maxHeartbeats 4000000 in
theorem sc5 {w : World} {k : Int} {i0 : Int} {i1 : Int} {i2 : Int} {bu : ByteArray} {ke : ByteArray} {u0 : Int} {u1 : Int} {u2 : Int} {b0 : Int} {b1 : Int} {b2 : Int} {sz : Int} {et : ByteArray} {pt : Int} {tm : Int} {dy : Int} {b0' : Int} {b1' : Int} {b2' : Int} {sz' : Int} {et' : ByteArray} {pt' : Int} {tm' : Int} {dy' : Int} {pa pa' : Option Addr} {pn pc pn' pc' : Nat} (h : ¬ ((b0 = b0' /\ b1 = b1' /\ b2 = b2') /\ sz = sz' /\ et = et')) :
  Calls Tryd.prog 44 #[.agg #[.int .i64 k,.int .i64 i0,.int .i64 i1,.int .i64 i2,.string bu,.string ke,.int .i64 u0,.int .i64 u1,.int .i64 u2,.int .i64 b0,.int .i64 b1,.int .i64 b2,.int .i64 sz,.string et,.int .i64 pt,.slice pa pn pc,.int .i64 tm,.int .i64 dy], .agg #[.int .i64 k,.int .i64 i0,.int .i64 i1,.int .i64 i2,.string bu,.string ke,.int .i64 u0,.int .i64 u1,.int .i64 u2,.int .i64 b0',.int .i64 b1',.int .i64 b2',.int .i64 sz',.string et',.int .i64 pt',.slice pa' pn' pc',.int .i64 tm',.int .i64 dy']] w fun e w' => e = .returned (.bool false) /\ Hid (Below w.heap.size w w') := by
 have EQ : ∀ w, (Op.equalIn 10000 58 (.agg #[.int .i64 b0,.int .i64 b1,.int .i64 b2,.int .i64 sz,.string et]) (.agg #[.int .i64 b0',.int .i64 b1',.int .i64 b2',.int .i64 sz',.string et'])).run Tryd.prog w = .ok false w := fun w => by rw [eqPc b0 b1 b2 sz et b0' b1' b2' sz' et' w, decide_eq_false h]
 have Ei0 : ∀ w, (Op.equalIn 10000 23 (.agg #[.int .i64 i0,.int .i64 i1,.int .i64 i2]) (.agg #[.int .i64 i0,.int .i64 i1,.int .i64 i2])).run Tryd.prog w = .ok true w := fun w => by rw [eqId i0 i1 i2 i0 i1 i2 9998 w, decide_eq_true ⟨rfl, rfl, rfl⟩]
 have Eu0 : ∀ w, (Op.equalIn 10000 23 (.agg #[.int .i64 u0,.int .i64 u1,.int .i64 u2]) (.agg #[.int .i64 u0,.int .i64 u1,.int .i64 u2])).run Tryd.prog w = .ok true w := fun w => by rw [eqId u0 u1 u2 u0 u1 u2 9998 w, decide_eq_true ⟨rfl, rfl, rfl⟩]
 go_enter Tryd.func44, Tryd.ntmps44
 go_wp2
 go_ret
 exact ⟨rfl, alloc2 _ _ _⟩
set_option maxHeartbeats 4000000 in
theorem sc6 {w : World} {k : Int} {i0 : Int} {i1 : Int} {i2 : Int} {bu : ByteArray} {ke : ByteArray} {u0 : Int} {u1 : Int} {u2 : Int} {b0 : Int} {b1 : Int} {b2 : Int} {sz : Int} {et : ByteArray} {pt : Int} {tm : Int} {dy : Int} {pt' : Int} {tm' : Int} {dy' : Int} {pa pa' : Option Addr} {pn pc pn' pc' : Nat} (h : ¬ pt = pt') :
  Calls Tryd.prog 44 #[.agg #[.int .i64 k,.int .i64 i0,.int .i64 i1,.int .i64 i2,.string bu,.string ke,.int .i64 u0,.int .i64 u1,.int .i64 u2,.int .i64 b0,.int .i64 b1,.int .i64 b2,.int .i64 sz,.string et,.int .i64 pt,.slice pa pn pc,.int .i64 tm,.int .i64 dy], .agg #[.int .i64 k,.int .i64 i0,.int .i64 i1,.int .i64 i2,.string bu,.string ke,.int .i64 u0,.int .i64 u1,.int .i64 u2,.int .i64 b0,.int .i64 b1,.int .i64 b2,.int .i64 sz,.string et,.int .i64 pt',.slice pa' pn' pc',.int .i64 tm',.int .i64 dy']] w fun e w' => e = .returned (.bool false) /\ Hid (Below w.heap.size w w') := by
 have Ei0 : ∀ w, (Op.equalIn 10000 23 (.agg #[.int .i64 i0,.int .i64 i1,.int .i64 i2]) (.agg #[.int .i64 i0,.int .i64 i1,.int .i64 i2])).run Tryd.prog w = .ok true w := fun w => by rw [eqId i0 i1 i2 i0 i1 i2 9998 w, decide_eq_true ⟨rfl, rfl, rfl⟩]
 have Eu0 : ∀ w, (Op.equalIn 10000 23 (.agg #[.int .i64 u0,.int .i64 u1,.int .i64 u2]) (.agg #[.int .i64 u0,.int .i64 u1,.int .i64 u2])).run Tryd.prog w = .ok true w := fun w => by rw [eqId u0 u1 u2 u0 u1 u2 9998 w, decide_eq_true ⟨rfl, rfl, rfl⟩]
 have Epc : ∀ w, (Op.equalIn 10000 58 (.agg #[.int .i64 b0,.int .i64 b1,.int .i64 b2,.int .i64 sz,.string et]) (.agg #[.int .i64 b0,.int .i64 b1,.int .i64 b2,.int .i64 sz,.string et])).run Tryd.prog w = .ok true w := fun w => by rw [eqPc b0 b1 b2 sz et b0 b1 b2 sz et w, decide_eq_true ⟨⟨rfl, rfl, rfl⟩, rfl, rfl⟩]
 go_enter Tryd.func44, Tryd.ntmps44
 go_wp2
 go_ret
 exact ⟨rfl, alloc2 _ _ _⟩
set_option maxHeartbeats 4000000 in
theorem sc7 {w : World} {k : Int} {i0 : Int} {i1 : Int} {i2 : Int} {bu : ByteArray} {ke : ByteArray} {u0 : Int} {u1 : Int} {u2 : Int} {b0 : Int} {b1 : Int} {b2 : Int} {sz : Int} {et : ByteArray} {pt : Int} {tm : Int} {dy : Int} {tm' : Int} {dy' : Int} {pa pa' : Option Addr} {pn pc pn' pc' : Nat} (h : ¬ tm = tm') :
  Calls Tryd.prog 44 #[.agg #[.int .i64 k,.int .i64 i0,.int .i64 i1,.int .i64 i2,.string bu,.string ke,.int .i64 u0,.int .i64 u1,.int .i64 u2,.int .i64 b0,.int .i64 b1,.int .i64 b2,.int .i64 sz,.string et,.int .i64 pt,.slice pa pn pc,.int .i64 tm,.int .i64 dy], .agg #[.int .i64 k,.int .i64 i0,.int .i64 i1,.int .i64 i2,.string bu,.string ke,.int .i64 u0,.int .i64 u1,.int .i64 u2,.int .i64 b0,.int .i64 b1,.int .i64 b2,.int .i64 sz,.string et,.int .i64 pt,.slice pa' pn' pc',.int .i64 tm',.int .i64 dy']] w fun e w' => e = .returned (.bool false) /\ Hid (Below w.heap.size w w') := by
 have Ei0 : ∀ w, (Op.equalIn 10000 23 (.agg #[.int .i64 i0,.int .i64 i1,.int .i64 i2]) (.agg #[.int .i64 i0,.int .i64 i1,.int .i64 i2])).run Tryd.prog w = .ok true w := fun w => by rw [eqId i0 i1 i2 i0 i1 i2 9998 w, decide_eq_true ⟨rfl, rfl, rfl⟩]
 have Eu0 : ∀ w, (Op.equalIn 10000 23 (.agg #[.int .i64 u0,.int .i64 u1,.int .i64 u2]) (.agg #[.int .i64 u0,.int .i64 u1,.int .i64 u2])).run Tryd.prog w = .ok true w := fun w => by rw [eqId u0 u1 u2 u0 u1 u2 9998 w, decide_eq_true ⟨rfl, rfl, rfl⟩]
 have Epc : ∀ w, (Op.equalIn 10000 58 (.agg #[.int .i64 b0,.int .i64 b1,.int .i64 b2,.int .i64 sz,.string et]) (.agg #[.int .i64 b0,.int .i64 b1,.int .i64 b2,.int .i64 sz,.string et])).run Tryd.prog w = .ok true w := fun w => by rw [eqPc b0 b1 b2 sz et b0 b1 b2 sz et w, decide_eq_true ⟨⟨rfl, rfl, rfl⟩, rfl, rfl⟩]
 go_enter Tryd.func44, Tryd.ntmps44
 go_wp2
 go_ret
 exact ⟨rfl, alloc2 _ _ _⟩
set_option maxHeartbeats 4000000 in
theorem sc8 {w : World} {k : Int} {i0 : Int} {i1 : Int} {i2 : Int} {bu : ByteArray} {ke : ByteArray} {u0 : Int} {u1 : Int} {u2 : Int} {b0 : Int} {b1 : Int} {b2 : Int} {sz : Int} {et : ByteArray} {pt : Int} {tm : Int} {dy : Int} {dy' : Int} {pa pa' : Option Addr} {pn pc pn' pc' : Nat} (h : ¬ dy = dy') :
  Calls Tryd.prog 44 #[.agg #[.int .i64 k,.int .i64 i0,.int .i64 i1,.int .i64 i2,.string bu,.string ke,.int .i64 u0,.int .i64 u1,.int .i64 u2,.int .i64 b0,.int .i64 b1,.int .i64 b2,.int .i64 sz,.string et,.int .i64 pt,.slice pa pn pc,.int .i64 tm,.int .i64 dy], .agg #[.int .i64 k,.int .i64 i0,.int .i64 i1,.int .i64 i2,.string bu,.string ke,.int .i64 u0,.int .i64 u1,.int .i64 u2,.int .i64 b0,.int .i64 b1,.int .i64 b2,.int .i64 sz,.string et,.int .i64 pt,.slice pa' pn' pc',.int .i64 tm,.int .i64 dy']] w fun e w' => e = .returned (.bool false) /\ Hid (Below w.heap.size w w') := by
 have Ei0 : ∀ w, (Op.equalIn 10000 23 (.agg #[.int .i64 i0,.int .i64 i1,.int .i64 i2]) (.agg #[.int .i64 i0,.int .i64 i1,.int .i64 i2])).run Tryd.prog w = .ok true w := fun w => by rw [eqId i0 i1 i2 i0 i1 i2 9998 w, decide_eq_true ⟨rfl, rfl, rfl⟩]
 have Eu0 : ∀ w, (Op.equalIn 10000 23 (.agg #[.int .i64 u0,.int .i64 u1,.int .i64 u2]) (.agg #[.int .i64 u0,.int .i64 u1,.int .i64 u2])).run Tryd.prog w = .ok true w := fun w => by rw [eqId u0 u1 u2 u0 u1 u2 9998 w, decide_eq_true ⟨rfl, rfl, rfl⟩]
 have Epc : ∀ w, (Op.equalIn 10000 58 (.agg #[.int .i64 b0,.int .i64 b1,.int .i64 b2,.int .i64 sz,.string et]) (.agg #[.int .i64 b0,.int .i64 b1,.int .i64 b2,.int .i64 sz,.string et])).run Tryd.prog w = .ok true w := fun w => by rw [eqPc b0 b1 b2 sz et b0 b1 b2 sz et w, decide_eq_true ⟨⟨rfl, rfl, rfl⟩, rfl, rfl⟩]
 go_enter Tryd.func44, Tryd.ntmps44
 go_wp2
 go_ret
 exact ⟨rfl, alloc2 _ _ _⟩
set_option maxHeartbeats 4000000 in
theorem sc9 {w : World} {lo lo2 : Nat} {k : Int} {i0 : Int} {i1 : Int} {i2 : Int} {bu : ByteArray} {ke : ByteArray} {u0 : Int} {u1 : Int} {u2 : Int} {b0 : Int} {b1 : Int} {b2 : Int} {sz : Int} {et : ByteArray} {pt : Int} {tm : Int} {dy : Int} {ps ps' : List Int} {pa pa' : Option Addr} {pn pc pn' pc' : Nat} (hA : Hid (Irow w lo pa pn ps)) (hB : Hid (Irow w lo2 pa' pn' ps')) :
  Calls Tryd.prog 44 #[.agg #[.int .i64 k,.int .i64 i0,.int .i64 i1,.int .i64 i2,.string bu,.string ke,.int .i64 u0,.int .i64 u1,.int .i64 u2,.int .i64 b0,.int .i64 b1,.int .i64 b2,.int .i64 sz,.string et,.int .i64 pt,.slice pa pn pc,.int .i64 tm,.int .i64 dy], .agg #[.int .i64 k,.int .i64 i0,.int .i64 i1,.int .i64 i2,.string bu,.string ke,.int .i64 u0,.int .i64 u1,.int .i64 u2,.int .i64 b0,.int .i64 b1,.int .i64 b2,.int .i64 sz,.string et,.int .i64 pt,.slice pa' pn' pc',.int .i64 tm,.int .i64 dy]] w fun e w' => e = .returned (.bool (decide (ps = ps'))) /\ Hid (Below w.heap.size w w') := by
 have A2 : Hid (Irow ((w.alloc (.cells #[.int .i64 k,.int .i64 i0,.int .i64 i1,.int .i64 i2,.string bu,.string ke,.int .i64 u0,.int .i64 u1,.int .i64 u2,.int .i64 b0,.int .i64 b1,.int .i64 b2,.int .i64 sz,.string et,.int .i64 pt,.slice pa pn pc,.int .i64 tm,.int .i64 dy] 60)).alloc (.cells #[.int .i64 k,.int .i64 i0,.int .i64 i1,.int .i64 i2,.string bu,.string ke,.int .i64 u0,.int .i64 u1,.int .i64 u2,.int .i64 b0,.int .i64 b1,.int .i64 b2,.int .i64 sz,.string et,.int .i64 pt,.slice pa' pn' pc',.int .i64 tm,.int .i64 dy] 60)) lo pa pn ps) := hA.out.below (alloc2 _ _ _)
 have B2 : Hid (Irow ((w.alloc (.cells #[.int .i64 k,.int .i64 i0,.int .i64 i1,.int .i64 i2,.string bu,.string ke,.int .i64 u0,.int .i64 u1,.int .i64 u2,.int .i64 b0,.int .i64 b1,.int .i64 b2,.int .i64 sz,.string et,.int .i64 pt,.slice pa pn pc,.int .i64 tm,.int .i64 dy] 60)).alloc (.cells #[.int .i64 k,.int .i64 i0,.int .i64 i1,.int .i64 i2,.string bu,.string ke,.int .i64 u0,.int .i64 u1,.int .i64 u2,.int .i64 b0,.int .i64 b1,.int .i64 b2,.int .i64 sz,.string et,.int .i64 pt,.slice pa' pn' pc',.int .i64 tm,.int .i64 dy] 60)) lo2 pa' pn' ps') := hB.out.below (alloc2 _ _ _)
 have LB : Hid (Below w.heap.size w ((w.alloc (.cells #[.int .i64 k,.int .i64 i0,.int .i64 i1,.int .i64 i2,.string bu,.string ke,.int .i64 u0,.int .i64 u1,.int .i64 u2,.int .i64 b0,.int .i64 b1,.int .i64 b2,.int .i64 sz,.string et,.int .i64 pt,.slice pa pn pc,.int .i64 tm,.int .i64 dy] 60)).alloc (.cells #[.int .i64 k,.int .i64 i0,.int .i64 i1,.int .i64 i2,.string bu,.string ke,.int .i64 u0,.int .i64 u1,.int .i64 u2,.int .i64 b0,.int .i64 b1,.int .i64 b2,.int .i64 sz,.string et,.int .i64 pt,.slice pa' pn' pc',.int .i64 tm,.int .i64 dy] 60))) := alloc2 _ _ _
 have Ei0 : ∀ w, (Op.equalIn 10000 23 (.agg #[.int .i64 i0,.int .i64 i1,.int .i64 i2]) (.agg #[.int .i64 i0,.int .i64 i1,.int .i64 i2])).run Tryd.prog w = .ok true w := fun w => by rw [eqId i0 i1 i2 i0 i1 i2 9998 w, decide_eq_true ⟨rfl, rfl, rfl⟩]
 have Eu0 : ∀ w, (Op.equalIn 10000 23 (.agg #[.int .i64 u0,.int .i64 u1,.int .i64 u2]) (.agg #[.int .i64 u0,.int .i64 u1,.int .i64 u2])).run Tryd.prog w = .ok true w := fun w => by rw [eqId u0 u1 u2 u0 u1 u2 9998 w, decide_eq_true ⟨rfl, rfl, rfl⟩]
 have Epc : ∀ w, (Op.equalIn 10000 58 (.agg #[.int .i64 b0,.int .i64 b1,.int .i64 b2,.int .i64 sz,.string et]) (.agg #[.int .i64 b0,.int .i64 b1,.int .i64 b2,.int .i64 sz,.string et])).run Tryd.prog w = .ok true w := fun w => by rw [eqPc b0 b1 b2 sz et b0 b1 b2 sz et w, decide_eq_true ⟨⟨rfl, rfl, rfl⟩, rfl, rfl⟩]
 obtain ⟨r, Hr⟩ := nm (decide (ps = ps'))
 rw [Hr.out]
 go_enter Tryd.func44, Tryd.ntmps44
 go_wp2_with (go_at_call 57; refine (sameInts_n A2 B2).mono ?_; rintro e w1 ⟨rfl, H1⟩; rw [Hr.out])
 go_ret
 exact ⟨rfl, LB.out.trans (H1.out.mono LB.out.size)⟩
theorem sameCmd_n {w : World} {lo lo2 : Nat} (x y : Cx) (hA : Hid (Irow w lo x.pa x.pn x.cm.ps)) (hB : Hid (Irow w lo2 y.pa y.pn y.cm.ps)) :
  Calls Tryd.prog 44 #[.agg (encX x).toArray, .agg (encX y).toArray] w fun e w' => e = .returned (.bool (decide (x.cm = y.cm))) /\ Hid (Below w.heap.size w w') := by
 obtain ⟨⟨k, i0, i1, i2, bu, ke, u0, u1, u2, b0, b1, b2, sz, et, pt, ps, tm, dy⟩, pa, pn, pc⟩ := x
 obtain ⟨⟨k', i0', i1', i2', bu', ke', u0', u1', u2', b0', b1', b2', sz', et', pt', ps', tm', dy'⟩, pa', pn', pc'⟩ := y
 simp only [encX] at *
 rcases Classical.em (k = k') with h0 | h0
 rotate_left
 . rw [decide_eq_false (fun e => h0 (by cases e; exact rfl))]; exact sc0 h0
 subst h0
 rcases Classical.em (i0 = i0' /\ i1 = i1' /\ i2 = i2') with h1 | h1
 rotate_left
 . rw [decide_eq_false (fun e => h1 (by cases e; exact ⟨rfl, rfl, rfl⟩))]; exact sc1 h1
 obtain ⟨rfl, rfl, rfl⟩ := h1
 rcases Classical.em (bu = bu') with h2 | h2
 rotate_left
 . rw [decide_eq_false (fun e => h2 (by cases e; exact rfl))]; exact sc2 h2
 subst h2
 rcases Classical.em (ke = ke') with h3 | h3
 rotate_left
 . rw [decide_eq_false (fun e => h3 (by cases e; exact rfl))]; exact sc3 h3
 subst h3
 rcases Classical.em (u0 = u0' /\ u1 = u1' /\ u2 = u2') with h4 | h4
 rotate_left
 . rw [decide_eq_false (fun e => h4 (by cases e; exact ⟨rfl, rfl, rfl⟩))]; exact sc4 h4
 obtain ⟨rfl, rfl, rfl⟩ := h4
 rcases Classical.em ((b0 = b0' /\ b1 = b1' /\ b2 = b2') /\ sz = sz' /\ et = et') with h5 | h5
 rotate_left
 . rw [decide_eq_false (fun e => h5 (by cases e; exact ⟨⟨rfl, rfl, rfl⟩, rfl, rfl⟩))]; exact sc5 h5
 obtain ⟨⟨rfl, rfl, rfl⟩, rfl, rfl⟩ := h5
 rcases Classical.em (pt = pt') with h6 | h6
 rotate_left
 . rw [decide_eq_false (fun e => h6 (by cases e; exact rfl))]; exact sc6 h6
 subst h6
 rcases Classical.em (tm = tm') with h7 | h7
 rotate_left
 . rw [decide_eq_false (fun e => h7 (by cases e; exact rfl))]; exact sc7 h7
 subst h7
 rcases Classical.em (dy = dy') with h8 | h8
 rotate_left
 . rw [decide_eq_false (fun e => h8 (by cases e; exact rfl))]; exact sc8 h8
 subst h8
 have e : ∀ p q : List Int, decide (({ k := k, i0 := i0, i1 := i1, i2 := i2, bu := bu, ke := ke, u0 := u0, u1 := u1, u2 := u2, b0 := b0, b1 := b1, b2 := b2, sz := sz, et := et, pt := pt, ps := p, tm := tm, dy := dy } : Cm) = { k := k, i0 := i0, i1 := i1, i2 := i2, bu := bu, ke := ke, u0 := u0, u1 := u1, u2 := u2, b0 := b0, b1 := b1, b2 := b2, sz := sz, et := et, pt := pt, ps := q, tm := tm, dy := dy }) = decide (p = q) := fun p q => by simp
 rw [e]
 exact sc9 hA hB
def flat (X : List Cx) : List Value := X.flatMap encX
theorem flat_app (l r : List Cx) : flat (l ++ r) = flat l ++ flat r := by simp [flat]
theorem flat_len (l : List Cx) : (flat l).length = l.length * 18 := by
 induction l with
 | nil => rfl
 | cons x l ih =>
   show (encX x ++ flat l).length = _
   rw [List.length_append, ih, List.length_cons, encX_len]
   omega
theorem flat_one (l : List Cx) : ∀ v ∈ flat l, v.oneCell' = true := fun v hv => by
 unfold flat at hv
 obtain ⟨x, _, h⟩ := List.mem_flatMap.1 hv
 exact encX_one x v h
theorem flat_cut (l : List Cx) {i : Nat} (hi : i < l.length) : flat l = flat (l.take i) ++ (encX l[i] ++ flat (l.drop (i + 1))) := by
 have e : l = l.take i ++ l[i] :: l.drop (i + 1) := by rw [List.getElem_cons_drop, List.take_append_drop]
 have h : flat l = flat (l.take i ++ l[i] :: l.drop (i + 1)) := by rw [<- e]
 rw [h, flat_app]
 rfl
theorem flat_at (l : List Cx) {i : Nat} (hi : i < l.length) {j : Nat} (hj : j < 18) : (flat l)[i * 18 + j]? = (encX l[i])[j]? := by
 have hl : (flat (l.take i)).length = i * 18 := by rw [flat_len, List.length_take, Nat.min_eq_left (by omega)]
 rw [flat_cut l hi, List.getElem?_append_right (by omega), hl, Nat.add_sub_cancel_left, List.getElem?_append_left (by rw [encX_len]; exact hj)]
structure Cms (w : World) (lo : Nat) (a : Option Addr) (n : Nat) (X : List Cx) : Prop where
 len : n = X.length
 sz : n <= 764877654082
 row : n = 0 ∨ ∃ b off, a = some ⟨b, off, none⟩ /\ lo <= b /\ b < w.heap.size /\ w.rangeAt b off (flat X)
 ps : ∀ x ∈ X, Irow w lo x.pa x.pn x.cm.ps /\ (x.pa = none -> x.pc = 0)
 st : ∀ x ∈ X, x.cm.bu.size <= 281474976710656 /\ x.cm.ke.size <= 281474976710656 /\ x.cm.et.size <= 281474976710656
theorem Cms.keep {w w' : World} {lo : Nat} {a : Option Addr} {n : Nat} {X : List Cx} (h : Cms w lo a n X) (hs : w.heap.size <= w'.heap.size) (hb : ∀ q, lo <= q -> q < w.heap.size -> w'.heap[q]? = w.heap[q]?) : Cms w' lo a n X := by
 refine ⟨h.len, h.sz, h.row.imp id ?_, fun x hx => ⟨(h.ps x hx).1.keep hs hb, (h.ps x hx).2⟩, h.st⟩
 rintro ⟨b, off, h1, h2, h3, h4⟩
 exact ⟨b, off, h1, h2, Nat.lt_of_lt_of_le h3 hs, fun j v hv => (World.cell?_of_block (a := ⟨b, off + j, none⟩) (hb b h2 h3)).trans (h4 j v hv)⟩
theorem Cms.below {w w' : World} {lo : Nat} {a : Option Addr} {n : Nat} {X : List Cx} (h : Cms w lo a n X) (hb : Below w.heap.size w w') : Cms w' lo a n X := h.keep hb.size fun q _ hq => hb.block q hq
theorem Cms.mono {w : World} {lo lo' : Nat} {a : Option Addr} {n : Nat} {X : List Cx} (h : Cms w lo a n X) (hl : lo' <= lo) : Cms w lo' a n X := by
 refine ⟨h.len, h.sz, h.row.imp id ?_, fun x hx => ⟨(h.ps x hx).1.mono hl, (h.ps x hx).2⟩, h.st⟩
 rintro ⟨b, off, h1, h2, h3⟩
 exact ⟨b, off, h1, Nat.le_trans hl h2, h3⟩
theorem Cms.nil (w : World) (lo : Nat) (a : Option Addr) : Cms w lo a 0 [] := ⟨rfl, by omega, .inl rfl, (fun x hx => by cases hx), (fun x hx => by cases hx)⟩
theorem range_sub {w : World} {b off : Nat} {l r s : List Value} {k : Nat} (h : w.rangeAt b off (l ++ (r ++ s))) (hk : l.length = k) : w.rangeAt b (off + k) r := by
 intro j v hv
 have hj := (List.getElem?_eq_some_iff.1 hv).1
 have h1 := h (k + j) v (by rw [List.getElem?_append_right (by omega), hk, Nat.add_sub_cancel_left, List.getElem?_append_left hj]; exact hv)
 rw [Nat.add_assoc]
 exact h1
theorem Cms.at_ {w : World} {lo : Nat} {a : Option Addr} {n : Nat} {X : List Cx} (h : Cms w lo a n X) {i : Nat} (hi : i < X.length) : ∃ b off, a = some ⟨b, off, none⟩ /\ w.rangeAt b (off + i * 18) (encX X[i]) := by
 rcases h.row with h0 | ⟨b, off, h1, _, _, h4⟩
 . have := h.len; omega
 . refine ⟨b, off, h1, ?_⟩
   rw [flat_cut X hi] at h4
   exact range_sub h4 (by rw [flat_len, List.length_take, Nat.min_eq_left (by omega)])
theorem Below.range {w w' : World} {b off : Nat} {cs : List Value} (h : w.rangeAt b off cs) (hb : Below w.heap.size w w') : w'.rangeAt b off cs := fun j v hv => (hb.cell (p := ⟨b, off + j, none⟩) (cell_lt (h j v hv))).trans (h j v hv)
def led (X : List Cx) : List Cm := X.map Cx.cm
theorem row81 : ∃ d, Tryd.prog.underlying 60 = some d /\ d.isRow = true := ⟨_, Tryd.underlying60, rfl⟩
theorem sz81 (x : Cx) : (Tryd.prog.info? 60).map (·.size) = some (encX x).length := by rw [encX_len]; kernel_rfl
structure Two (W : World) (b1 o1 b2 o2 : Nat) (x y : Cx) : Prop where
 p : W.rangeAt b1 o1 (encX x)
 q : W.rangeAt b2 o2 (encX y)
theorem y81 {ops : Array Oper} {S : World -> Prop} {op : Oper} {a : Act} (hw : Region.wanted op (yielded ops a.tmps) = true) (t : Operand) (ho : op.op = .load 60 t) (b o : Nat) (hx : a.eval t = .pointer (some ⟨b, o, none⟩)) (x : Cx) (hS : ∀ w, S w -> w.rangeAt b o (encX x)) : YieldsIf Tryd.prog ops S op (.agg (encX x).toArray) a := by
 obtain ⟨d, h1, h2⟩ := row81
 exact yieldsIf_load_mid hw 60 t ho b o hx (encX x) d hS h1 h2 (sz81 x)
set_option maxHeartbeats 4000000 in
theorem same_n {w : World} {lo lo2 : Nat} {a b : Option Addr} {n m c d : Nat} {X Y : List Cx} (hA : Hid (Cms w lo a n X)) (hB : Hid (Cms w lo2 b m Y)) :
  Calls Tryd.prog 19 #[.slice a n c,.slice b m d] w fun e w' => e = .returned (.bool (decide (led X = led Y))) /\ Hid (Below w.heap.size w w') := by
 have hsz := hA.out.sz
 have hsz2 := hB.out.sz
 by_cases hnm : n = m
 . subst hnm
   have LL : Hid (X.length = n /\ Y.length = n) := ⟨hA.out.len.symm, hB.out.len.symm⟩
   go_enter Tryd.func19, Tryd.ntmps19
   go_wp2
   go_loopw [13] (fun ti wr => ∃ k : Nat, k <= n /\ ti = .int .i64 k /\ Hid (∀ j, j < k -> (led X)[j]? = (led Y)[j]?) /\ Hid (Below w.heap.size w wr)) (fun ti _ => n - (intOf ti).toNat)
   case atStart => exact ⟨0, by omega, rfl, fun j hj => by omega, Below.refl _ _⟩
   case round =>
    obtain ⟨k, hk, rfl, HK, HB⟩ := hrel
    by_cases hlt : k < n
    . have i3 : (k : Int) < (n : Int) := by omega
      have kx : k < X.length := by rw [LL.out.1]; exact hlt
      have ky : k < Y.length := by rw [LL.out.2]; exact hlt
      obtain ⟨b1, o1, rfl, e1⟩ := (hA.out.below HB.out).at_ kx
      obtain ⟨b2, o2, rfl, e2⟩ := (hB.out.below HB.out).at_ ky
      obtain ⟨x, Hx⟩ := nm (X[k])
      obtain ⟨y, Hy⟩ := nm (Y[k])
      rw [Hx.out] at e1
      rw [Hy.out] at e2
      have PX : Hid (Irow wr.drew lo x.pa x.pn x.cm.ps) := ((hA.out.below HB.out).ps x (by rw [<- Hx.out]; exact List.getElem_mem kx)).1.below (Ch.drew wr (fun _ => False) |>.toBelow (Nat.le_refl _) (fun _ _ h => h))
      have PY : Hid (Irow wr.drew lo2 y.pa y.pn y.cm.ps) := ((hB.out.below HB.out).ps y (by rw [<- Hy.out]; exact List.getElem_mem ky)).1.below (Ch.drew wr (fun _ => False) |>.toBelow (Nat.le_refl _) (fun _ _ h => h))
      have EX : Hid ((led X)[k]? = some x.cm) := by show _ = _; rw [<- Hx.out]; simp [led, kx]
      have EY : Hid ((led Y)[k]? = some y.cm) := by show _ = _; rw [<- Hy.out]; simp [led, ky]
      have K0 : Two wr.drew b1 (o1 + k * 18) b2 (o2 + k * 18) x y := ⟨e1, e2⟩
      clear e1 e2
      obtain ⟨r, Hr⟩ := nm (decide (x.cm = y.cm))
      go_upto_region 6 with (fail)
      refine wp_region_till (S := fun L W => Two W b1 (o1 + k * 18) b2 (o2 + k * 18) x y) (by kernel_rfl) K0 (fun hS => ?_)
      clear K0
      refine tkg (i := 0) (v := .slice (some ⟨b1, o1, none⟩) n c) rfl hS (fun hSb => ?_)
      simp only [pG,Act.put]
      clear hS
      refine tkg (i := 1) (v := .int .i64 k) rfl hSb (fun hS => ?_)
      simp only [pG,Act.put]
      clear hSb
      refine tkg (i := 2) (v := .pointer (some ⟨b1, o1 + k * 18, none⟩)) rfl hS (fun hSb => ?_)
      simp only [pG,Act.put]
      clear hS
      refine trx (i := 3) (c := 8) (v := .agg (encX x).toArray) rfl rfl (y81 (by rfl) (.tmp 18) (by rfl) b1 (o1 + k * 18) (by rfl) x (fun w h => h.p)) hSb (fun hS => ?_)
      simp only [pG,Act.put]
      clear hSb
      refine tkg (i := 4) (v := .slice (some ⟨b2, o2, none⟩) n d) rfl hS (fun hSb => ?_)
      simp only [pG,Act.put]
      clear hS
      refine tkg (i := 5) (v := .int .i64 k) rfl hSb (fun hS => ?_)
      simp only [pG,Act.put]
      clear hSb
      refine tkg (i := 6) (v := .pointer (some ⟨b2, o2 + k * 18, none⟩)) rfl hS (fun hSb => ?_)
      simp only [pG,Act.put]
      clear hS
      refine trx (i := 7) (c := 8) (v := .agg (encX y).toArray) rfl rfl (y81 (by rfl) (.tmp 22) (by rfl) b2 (o2 + k * 18) (by rfl) y (fun w h => h.q)) hSb (fun hS => ?_)
      simp only [pG,Act.put]
      clear hSb
      refine till_one (i := 8) (by kernel_rfl) rfl (fun K hK => ?_)
      simp only [pG]
      rw [if_pos (by rfl)]
      go_simp
      go_wp2_with (go_at_call 44; refine (sameCmd_n x y PX PY).mono ?_; rintro e w1 ⟨rfl, H1⟩; rw [Hr.out])
      have Z1 : Two w1 b1 (o1 + k * 18) b2 (o2 + k * 18) x y := ⟨Below.range hS.p H1.out, Below.range hS.q H1.out⟩
      refine hK.out _ _ (Z1) (fun hSb => ?_)
      clear hK K
      try simp only [pG,Act.put]
      clear hS
      refine till_one (i := 9) (by kernel_rfl) rfl (fun K hK => ?_)
      simp only [pG]
      rw [if_pos (by rfl)]
      go_simp
      refine hK.out _ _ (hSb) (fun hS => ?_)
      clear hK K
      try simp only [pG,Act.put]
      clear hSb
      refine till_done (by kernel_rfl) ?_ _
      clear hS
      have B1 : Hid (Below w.heap.size w w1) := HB.out.drew.trans (H1.out.mono HB.out.drew.size)
      cases r
      . have NE : Hid (decide (led X = led Y) = false) := decide_eq_false (fun h => by
         have h1 := EX.out
         rw [h, EY.out] at h1
         have h2 := of_decide_eq_false Hr.out
         exact h2 (Option.some.inj h1).symm)
        go_wp2
        go_ret
        exact ⟨retB NE.out, B1.out⟩
      . have NX : Hid (∀ j, j < k + 1 -> (led X)[j]? = (led Y)[j]?) := fun j hj => by
         by_cases hjk : j = k
         . subst hjk
           rw [EX.out, EY.out, of_decide_eq_true Hr.out]
         . exact HK.out j (by omega)
        go_wp2
        go_roundw
        case rel => exact ⟨k + 1, by omega, by go_num, NX.out, B1.out⟩
        case measure => simp [intOf]; omega
    . have EQ : Hid (decide (led X = led Y) = true) := decide_eq_true (List.ext_getElem? (fun i => by
       by_cases hi : i < n
       . exact HK.out i (by omega)
       . rw [List.getElem?_eq_none (by simp [led]; have := LL.out; omega), List.getElem?_eq_none (by simp [led]; have := LL.out; omega)]))
      go_wp2
      go_ret
      exact ⟨retB EQ.out, HB.out⟩
 . have NE : Hid (decide (led X = led Y) = false) := decide_eq_false (fun h => hnm (by
    have h2 := congrArg List.length h
    simp only [led, List.length_map] at h2
    rw [hA.out.len, hB.out.len, h2]))
   have i3 : ¬ ((n : Int) = (m : Int)) := by omega
   go_enter Tryd.func19, Tryd.ntmps19
   go_wp2
   go_ret
   exact ⟨retB NE.out, Below.refl _ _⟩
end Go.Proofs.YtppibcambhmomaaDoor
