/- What numbersOf, inForm, bodySize and headOf of package frame do to a machine, for all stamps. -/
import Derived.Test.YtmkknklkdgkbaaaDoorVh
namespace Go.Proofs.YtmkknklkdgkbaaaDoor
open Go.ChangeShapes Go.WideShapes Go.ChangeAt Go.RowKit
set_option maxRecDepth 20000
set_option linter.unusedVariables false
set_option linter.unusedSimpArgs false
/- the cells of numbers -/
def si (l : List Int) : Array Value := (l.map (Value.int .i64)).toArray
theorem index64 (l : List Int) (hl : l.length = 7) (k : Nat) (hk : k < 7) (w : World) : (Instr.index 64 (.agg (si l)) (.int .i64 (k : Int))).run Tryd.prog w = .ok (.int .i64 (l.getD k 0)) w := by
  have h1 : ((k : Int)).toNat = k := by omega
  have h3 : k < l.length := by omega
  have h2 : (si l)[k]? = some (.int .i64 (l.getD k 0)) := by
    simp [si, h3]
  have h4 : (si l).size = 7 := by simp [si, hl]
  simp [Instr.index, run_underlying Tryd.underlying64, asIntOf, part, go_sem, h1, h2, h4, hk]
  simp [si, List.getD, h3]
set_option maxHeartbeats 1000000 in
theorem numbersOf_n (a b c d e z : Int) (w : World) :
    Calls Tryd.prog 44 #[.agg #[.int .i64 a, .int .i64 b, .int .i64 c, .int .i64 d, .int .i64 e], .int .i64 z] w fun en w' => en = .returned (.agg (si [1, a, b, c, d, e, z])) ∧ Hid (Below w.heap.size w w') := by
  go_enter Tryd.func44, Tryd.ntmps44
  go_wp2
  refine bodyPost_ret (v := .agg (si [1, a, b, c, d, e, z])) (by simp [results, Tryd.results44, go_sem, si]) rfl ⟨rfl, ?_⟩
  exact ((Below.refl _ w).alloc (Nat.le_refl _) _).alloc (by simp) _
def mostL : List Int := [1, 15, 1099511627776, 1099511627776, 15, 1024, 1024]
/- the variable most reads as it was laid -/
def Mst (w : World) : Prop := ∀ i, i < 7 → w.cell? ⟨18, i, none⟩ = some (.int .i64 (mostL.getD i 0))
theorem Mst.below {B : Nat} {w wr : World} (h : Mst w) (hb : Below B w wr) (h0 : 18 < B) : Mst wr := fun i hi => (hb.cell (p := ⟨18, i, none⟩) h0).trans (h i hi)
theorem Mst.lt {w : World} (h : Mst w) : 18 < w.heap.size := cell_lt (h 0 (by omega))
def okAt (l : List Int) (i : Nat) : Bool := decide (0 ≤ l.getD i 0 ∧ l.getD i 0 ≤ mostL.getD i 0)
def okN (l : List Int) : Bool := (List.range 7).all (okAt l)
theorem okN_no {l : List Int} {k : Nat} (hk : k < 7) (h : okAt l k = false) : okN l = false := by
  unfold okN
  rw [List.all_eq_false]
  exact ⟨k, by simpa using hk, by simp [h]⟩
theorem okN_yes {l : List Int} (h : ∀ i, i < 7 → okAt l i = true) : okN l = true := by
  unfold okN
  rw [List.all_eq_true]
  exact fun i hi => h i (by simpa using hi)
set_option maxHeartbeats 1000000 in
theorem inForm_n (a b c d e : Int) (w : World) (hM : Hid (Mst w)) :
    Calls Tryd.prog 25 #[.agg #[.int .i64 a, .int .i64 b, .int .i64 c, .int .i64 d, .int .i64 e]] w fun en w' => en = .returned (.bool (okN [1, a, b, c, d, e, 0])) ∧ Hid (Below w.heap.size w w') := by
  obtain ⟨l, HL⟩ : ∃ l, Hid ([1, a, b, c, d, e, 0] = l) := ⟨_, rfl⟩
  have LL : Hid (l.length = 7) := by rw [← HL.out]; rfl
  rw [HL.out]
  have b0 : Hid (Below w.heap.size w (w.alloc (.cells #[.int .i64 a, .int .i64 b, .int .i64 c, .int .i64 d, .int .i64 e] 25))) := (Below.refl _ w).alloc (Nat.le_refl _) _
  go_enter Tryd.func25, Tryd.ntmps25
  go_wp2_with (go_at_call 44; refine (numbersOf_n a b c d e 0 _).mono ?_; rintro en w1 ⟨rfl, H1⟩
               rw [HL.out]
               have B1 : Hid (Below w.heap.size w w1) := b0.out.trans (H1.out.mono b0.out.size)
               have M1 : Hid (Mst w1) := hM.out.below B1.out hM.out.lt)
  go_loop [7] (fun t => ∃ k : Nat, k ≤ 7 ∧ t = .int .i64 k ∧ Hid (∀ i, i < k → okAt l i = true)) (fun t => 7 - (intOf t).toNat)
  case atStart => exact ⟨0, by omega, rfl, fun i hi => by omega⟩
  case round =>
    obtain ⟨k, hk, rfl, HK⟩ := hrel
    by_cases hlt : k < 7
    · have i1 : (k : Int) < 7 := by omega
      have cm := M1.out k hlt
      have IX := fun w' => index64 l LL.out k hlt w'
      obtain ⟨x, Hx⟩ : ∃ x, Hid (l.getD k 0 = x) := ⟨_, rfl⟩
      obtain ⟨m, Hm⟩ : ∃ m, Hid (mostL.getD k 0 = m) := ⟨_, rfl⟩
      rw [Hx.out] at IX
      rw [Hm.out] at cm
      by_cases h1 : x < 0
      · have F : Hid (okN l = false) := okN_no hlt (by unfold okAt; rw [Hx.out]; simp; omega)
        go_wp2
        go_ret
        exact ⟨by rw [F.out]; rfl, B1.out⟩
      · by_cases h2 : m < x
        · have F : Hid (okN l = false) := okN_no hlt (by unfold okAt; rw [Hx.out, Hm.out]; simp; omega)
          go_wp2
          go_ret
          exact ⟨by rw [F.out]; rfl, B1.out⟩
        · have F : Hid (okAt l k = true) := by unfold okAt; rw [Hx.out, Hm.out]; simp; show _ ∧ _; omega
          go_wp2
          go_round
          case rel => exact ⟨k + 1, by omega, by go_num, fun i hi => by
            by_cases e : i = k
            · rw [e]; exact F.out
            · exact HK.out i (by omega)⟩
          case measure => simp [intOf]; omega
    · have F : Hid (okN l = true) := okN_yes (fun i hi => HK.out i (by omega))
      go_wp2
      go_ret
      exact ⟨by rw [F.out]; rfl, B1.out⟩
theorem bodySize_n (n : Nat) (h : n ≤ 70368744177664) (w : World) : Calls Tryd.prog 34 #[.int .i64 (n : Int)] w fun e w' => e = .returned (.int .i64 ((n + (n + 31) / 32 * 32 : Nat) : Int)) ∧ w' = w := by
  have h1 : ((n : Int) + 32 - 1) = ((n + 31 : Nat) : Int) := by omega
  have h2 : ((n + 31 : Nat) : Int) / 32 = (((n + 31) / 32 : Nat) : Int) := by omega
  go_enter Tryd.func34, Tryd.ntmps34
  go_wp2
  go_ret
  exact ⟨ret_int (by omega), rfl⟩
end Go.Proofs.YtmkknklkdgkbaaaDoor
