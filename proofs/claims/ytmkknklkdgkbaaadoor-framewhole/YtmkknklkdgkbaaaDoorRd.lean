/- What the document's own constants do to a machine. -/
import Derived.Test.YtmkknklkdgkbaaaDoorSb
import Derived.Deep.Cut
namespace Go.Proofs.YtmkknklkdgkbaaaDoor
open Go.ChangeShapes Go.WideShapes Go.ChangeAt Go.RowKit
set_option linter.unusedVariables false
set_option linter.unusedSimpArgs false
set_option maxRecDepth 20000 in
set_option maxHeartbeats 1000000 in
theorem refk_n (t : Nat) (ht : t < 64) (w : World) :
    Calls Tryd.prog 54 #[.int .i64 (t : Int)] w fun e w' => e = .returned (.int .u32 (Gs.K.getD t 0 : Nat)) ∧ Hid (Below w.heap.size w w') := by
  have i1 : (0 : Int) ≤ (t : Int) := by omega
  have i2 : (t : Int) < 64 := by omega
  obtain ⟨x, X⟩ : ∃ x, Hid (Gs.K.getD t 0 = x) := ⟨_, rfl⟩
  have C : Hid ((w.alloc (.cells (cs .u32 Gs.K) 91)).cell? ⟨w.heap.size, t, none⟩ = some (.int .u32 (x : Nat))) := by rw [← X.out]; exact (Arr.new w .u32 91 Gs.K).cell ht
  rw [X.out]
  have B : Hid (Below w.heap.size w (w.alloc (.cells (cs .u32 Gs.K) 91))) := (Below.refl _ _).alloc (Nat.le_refl _) _
  obtain ⟨w2, W2⟩ : ∃ w2, Hid (w.alloc (.cells (cs .u32 Gs.K) 91) = w2) := ⟨_, rfl⟩
  rw [W2.out] at C B
  go_enter Tryd.func54, Tryd.ntmps54
  go_upto_region 2 with (fail)
  refine (show _ = w2 from W2.out) ▸ ?_
  have c := C.out
  clear C
  go_wp2
  go_ret
  exact ⟨rfl, B.out⟩
end Go.Proofs.YtmkknklkdgkbaaaDoor
