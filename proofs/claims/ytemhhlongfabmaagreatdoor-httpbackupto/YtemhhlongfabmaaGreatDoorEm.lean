/- What the laws' own Num (an error's number) does. -/
import Derived.Test.YtemhhlongfabmaaGreatDoorVs
import Derived.Deep.DeepCutAuto
namespace Go.Proofs.YtemhhlongfabmaaGreatDoor
open Go.ChangeShapes Go.WideShapes Go.ChangeAt Go.RowKit
set_option linter.unusedVariables false
set_option linter.unusedSimpArgs false
def ordL : List Nat := [1, 2, 3, 4, 5, 6, 7, 8, 9, 10, 0, 11, 12, 13, 14, 15, 16, 17]
theorem bnum_nil (w : World) : Calls Tryz.prog 14 #[.nilIface] w fun e w' => e = .returned (.int .i64 (0 : Int)) ∧ w' = w := by
  go_enter Tryz.func14, Tryz.ntmps14
  go_wp2
  go_ret
  exact ⟨rfl, rfl⟩
theorem ordL_lt : ∀ i, i < 18 → ordL.getD i 0 < 18 := by decide
set_option maxRecDepth 20000 in
set_option maxHeartbeats 1000000 in
theorem bnum_err (g p : Nat) (E : Nat → Addr) (w : World) (hp : p < 18) (ho : ordL.getD p 0 = g) (hf : ∀ i, i < p → ordL.getD i 0 ≠ g) (hS : Hid (Sent w (fun g => g < 18) E)) :
    Calls Tryz.prog 14 #[.iface 151 (.pointer (some (E g)))] w fun e w' => e = .returned (.int .i64 ((p : Int) + 1)) ∧ Hid (Below w.heap.size w w') := by
  have cs : ∀ g, g < 18 → w.cell? ⟨g, 0, none⟩ = some (.iface 151 (.pointer (some (E g)))) := hS.out.c
  have c0 := cs 0 (by omega)
  have c1 := cs 1 (by omega)
  have c2 := cs 2 (by omega)
  have c3 := cs 3 (by omega)
  have c4 := cs 4 (by omega)
  have c5 := cs 5 (by omega)
  have c6 := cs 6 (by omega)
  have c7 := cs 7 (by omega)
  have c8 := cs 8 (by omega)
  have c9 := cs 9 (by omega)
  have c10 := cs 10 (by omega)
  have c11 := cs 11 (by omega)
  have c12 := cs 12 (by omega)
  have c13 := cs 13 (by omega)
  have c14 := cs 14 (by omega)
  have c15 := cs 15 (by omega)
  have c16 := cs 16 (by omega)
  have c17 := cs 17 (by omega)
  clear cs
  obtain ⟨w1, hw1⟩ : ∃ w1, w1 = w.alloc (.cells #[er (E 1), er (E 2), er (E 3), er (E 4), er (E 5), er (E 6), er (E 7), er (E 8), er (E 9), er (E 10), er (E 0), er (E 11), er (E 12), er (E 13), er (E 14), er (E 15), er (E 16), er (E 17)] 29) := ⟨_, rfl⟩
  have CC : Hid (∀ i, i < 18 → w1.cell? ⟨w.heap.size, i, none⟩ = some (er (E (ordL.getD i 0)))) := by
    intro i hi
    have e : (#[er (E 1), er (E 2), er (E 3), er (E 4), er (E 5), er (E 6), er (E 7), er (E 8), er (E 9), er (E 10), er (E 0), er (E 11), er (E 12), er (E 13), er (E 14), er (E 15), er (E 16), er (E 17)] : Array Value) = (ordL.map fun g => er (E g)).toArray := rfl
    rw [hw1, e]
    have hl : i < ordL.length := hi
    simp [hl, List.getD]
  have LB : Hid (Below w.heap.size w w1) := by rw [hw1]; exact (Below.refl _ _).alloc (Nat.le_refl _) _
  have S1 : Hid (Sent w1 (fun g => g < 18) E) := hS.out.below LB.out
  have HO : Hid (ordL.getD p 0 = g ∧ ∀ i, i < p → ordL.getD i 0 ≠ g) := ⟨ho, hf⟩
  have hg : g < 18 := by rw [← ho]; exact ordL_lt p hp
  clear ho hf
  go_enter Tryz.func14, Tryz.ntmps14
  go_upto_region 4 with (fail)
  unfold er at hw1
  rw [← hw1]
  clear hw1 c0 c1 c2 c3 c4 c5 c6 c7 c8 c9 c10 c11 c12 c13 c14 c15 c16 c17
  obtain ⟨q, Hq⟩ : ∃ q, Hid (w.heap.size = q) := ⟨_, rfl⟩
  rw [Hq.out] at CC ⊢
  go_wp2
  go_loop [29] (fun ti => ∃ i : Nat, i ≤ p ∧ ti = .int .i64 (i : Int)) (fun ti => 18 - (intOf ti).toNat)
  case atStart => exact ⟨0, by omega, rfl⟩
  case round =>
    obtain ⟨i, hi, rfl⟩ := hrel
    have ci := CC.out i (by omega)
    unfold er at ci
    have i1 : (i : Int) < 18 := by omega
    by_cases hip : i = p
    · subst hip
      rw [HO.out.1] at ci
      have eq := eql_same w1 (E g)
      go_wp2
      go_ret
      exact ⟨rfl, LB.out⟩
    · have hne := HO.out.2 i (by omega)
      have eq := eql_other S1.out hg (ordL_lt i (by omega)) (fun e => hne e.symm)
      obtain ⟨o, Ho⟩ : ∃ o, Hid (ordL.getD i 0 = o) := ⟨_, rfl⟩
      rw [Ho.out] at ci eq
      clear hne
      go_wp2
      go_round
      case rel => exact ⟨i + 1, by omega, by go_num⟩
      case measure => simp [intOf]; omega
end Go.Proofs.YtemhhlongfabmaaGreatDoor
