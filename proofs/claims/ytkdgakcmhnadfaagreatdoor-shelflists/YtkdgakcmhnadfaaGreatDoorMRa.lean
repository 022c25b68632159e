import Derived.Test.YtkdgakcmhnadfaaGreatDoorMSa
import Derived.Deep.Cut
/- Ra -/
/- What the document's own turning of a word does to a machine. -/
namespace Go.Proofs.YtkdgakcmhnadfaaGreatDoor
open Go.ChangeShapes Go.WideShapes Go.ChangeAt Go.RowKit
set_option linter.unusedVariables false
set_option linter.unusedSimpArgs false
theorem refrot_z (x n : Nat) (z : Int) (hz : z = (n : Int)) (hx : x < 4294967296) (hn0 : 0 < n) (hn : n < 32) (w : World) :
    Calls Tryz.prog 85 #[.int .u32 (x : Int), .int .u64 z] w fun e w' => e = .returned (.int .u32 (Gs.rot n x : Nat)) ∧ w' = w := by
  subst hz
  go_enter Tryz.func85, Tryz.ntmps85
  go_wp2
  go_ret
  refine ⟨ret_int ?_, rfl⟩
  have h1 := u32_or_nat (x / 2 ^ n) (x * 2 ^ (32 - n) % 4294967296) (Nat.lt_of_le_of_lt (Nat.div_le_self _ _) hx) (Nat.mod_lt _ (by decide))
  unfold Gs.rot
  have e1 : ((x * 2 ^ (32 - n) % 4294967296 : Nat) : Int) = (x : Int) * 2 ^ (32 - n) % 4294967296 := by simp
  have e2 : ((x / 2 ^ n : Nat) : Int) = (x : Int) / 2 ^ n := by simp
  rw [e1, e2, Nat.or_comm] at h1
  exact h1
end Go.Proofs.YtkdgakcmhnadfaaGreatDoor

/- Rd -/
/- What the document's own constants do to a machine. -/
namespace Go.Proofs.YtkdgakcmhnadfaaGreatDoor
open Go.ChangeShapes Go.WideShapes Go.ChangeAt Go.RowKit
set_option linter.unusedVariables false
set_option linter.unusedSimpArgs false
set_option maxRecDepth 20000 in
set_option maxHeartbeats 1000000 in
theorem refk_n (t : Nat) (ht : t < 64) (w : World) :
    Calls Tryz.prog 86 #[.int .i64 (t : Int)] w fun e w' => e = .returned (.int .u32 (Gs.K.getD t 0 : Nat)) ∧ Hid (Below w.heap.size w w') := by
  have i1 : (0 : Int) ≤ (t : Int) := by omega
  have i2 : (t : Int) < 64 := by omega
  obtain ⟨x, X⟩ : ∃ x, Hid (Gs.K.getD t 0 = x) := ⟨_, rfl⟩
  have C : Hid ((w.alloc (.cells (cs .u32 Gs.K) 131)).cell? ⟨w.heap.size, t, none⟩ = some (.int .u32 (x : Nat))) := by rw [← X.out]; exact (Arr.new w .u32 131 Gs.K).cell ht
  rw [X.out]
  have B : Hid (Below w.heap.size w (w.alloc (.cells (cs .u32 Gs.K) 131))) := (Below.refl _ _).alloc (Nat.le_refl _) _
  obtain ⟨w2, W2⟩ : ∃ w2, Hid (w.alloc (.cells (cs .u32 Gs.K) 131) = w2) := ⟨_, rfl⟩
  rw [W2.out] at C B
  go_enter Tryz.func86, Tryz.ntmps86
  go_upto_region 2 with (fail)
  refine (show _ = w2 from W2.out) ▸ ?_
  have c := C.out
  clear C
  go_wp2
  go_ret
  exact ⟨rfl, B.out⟩
end Go.Proofs.YtkdgakcmhnadfaaGreatDoor
