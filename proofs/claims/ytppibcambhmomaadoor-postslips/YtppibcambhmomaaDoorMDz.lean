/- InForm of the document comes to frm. -/
import Derived.Test.YtppibcambhmomaaDoorMh
import Derived.Test.YtppibcambhmomaaDoorMD6
import Derived.Test.YtppibcambhmomaaDoorMD0
import Derived.Test.YtppibcambhmomaaDoorMD3
import Derived.Test.YtppibcambhmomaaDoorMD5
import Derived.Test.YtppibcambhmomaaDoorMD7
import Derived.Test.YtppibcambhmomaaDoorMD9
namespace Go.Proofs.YtppibcambhmomaaDoor
open Go.ChangeShapes Go.WideShapes Go.ChangeAt Go.RowKit
set_option linter.unusedVariables false
theorem refInForm_n {w : World} {k i0 i1 i2 : Int} {bu ke : ByteArray} {u0 u1 u2 b0 b1 b2 sz : Int} {et : ByteArray} {pt : Int} {ps : List Int} {pa : Option Addr} {pn pc : Nat} {tm dy : Int} (hI : Hid (Irow w 0 pa pn ps)) (hbu : bu.size ≤ 281474976710656) (hke : ke.size ≤ 281474976710656) (het : et.size ≤ 281474976710656) :
    Calls Tryd.prog 45 #[.agg #[.int .i64 k,.int .i64 i0,.int .i64 i1,.int .i64 i2,.string bu,.string ke,.int .i64 u0,.int .i64 u1,.int .i64 u2,.int .i64 b0,.int .i64 b1,.int .i64 b2,.int .i64 sz,.string et,.int .i64 pt,.slice pa pn pc,.int .i64 tm,.int .i64 dy]] w fun e w' => e = .returned (.bool (frm ⟨k, i0, i1, i2, bu, ke, u0, u1, u2, b0, b1, b2, sz, et, pt, ps, tm, dy⟩)) ∧ Hid (Below w.heap.size w w') := by
  rcases Bool.eq_false_or_eq_true (gdI i0 i1 i2) with hg | hg
  · by_cases hk : k < 1 ∨ 11 < k
    · exact inF_no hI hg hbu hke het hk
    · rcases (by omega : k = 1 ∨ k = 2 ∨ k = 3 ∨ k = 4 ∨ k = 5 ∨ k = 6 ∨ k = 7 ∨ k = 8 ∨ k = 9 ∨ k = 10 ∨ k = 11) with rfl | rfl | rfl | rfl | rfl | rfl | rfl | rfl | rfl | rfl | rfl
      · exact inF_1 hI hg hbu hke het
      · exact inF_2 hI hg hbu hke het
      · exact inF_3 hI hg hbu hke het
      · exact inF_4 hI hg hbu hke het
      · exact inF_5 hI hg hbu hke het
      · exact inF_6 hI hg hbu hke het
      · exact inF_7 hI hg hbu hke het
      · exact inF_8 hI hg hbu hke het
      · exact inF_9 hI hg hbu hke het
      · exact inF_10 hI hg hbu hke het
      · exact inF_11 hI hg hbu hke het
  · exact inF_bad hg
end Go.Proofs.YtppibcambhmomaaDoor
