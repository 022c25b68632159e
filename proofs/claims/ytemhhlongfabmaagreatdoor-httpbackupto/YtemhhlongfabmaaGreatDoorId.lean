/- Where a head ends, by the document. -/
import Derived.Test.YtemhhlongfabmaaGreatDoorHk
import Derived.Lib.IndexLaws
namespace Go.Proofs.YtemhhlongfabmaaGreatDoor
open Go.ChangeShapes Go.WideShapes Go.ChangeAt Go.RowKit
set_option maxRecDepth 20000
set_option linter.unusedVariables false
set_option linter.unusedSimpArgs false
def enO (l : List Nat) : Nat := if ixH (l.take 2048) < 0 then 0 else (ixH (l.take 2048)).toNat + 4
def enL (l : List Nat) : List UInt8 := (l.take 2048).map UInt8.ofNat
theorem ofn_beq {a k : Nat} (ha : a < 256) (hk : k < 256) : (UInt8.ofNat k == UInt8.ofNat a) = decide (a = k) := by
  by_cases h : a = k
  · subst h; simp
  · rw [decide_eq_false h]
    apply beq_eq_false_iff_ne.2
    intro e
    apply h
    have e2 := congrArg UInt8.toNat e
    rw [UInt8.toNat_ofNat', UInt8.toNat_ofNat'] at e2
    omega
theorem four_of {α : Type} : ∀ {l : List α}, 4 ≤ l.length → ∃ a b c d r, l = a :: b :: c :: d :: r
  | a :: b :: c :: d :: r, _ => ⟨a, b, c, d, r, rfl⟩
theorem occ_at {l : List Nat} (hl : ∀ x ∈ l, x < 256) {i : Nat} (h : i + 4 ≤ l.length) (h2 : i + 4 ≤ 2048) : Lib.occAt (enL l) [13, 10, 13, 10] i = decide ((l.drop i).take 4 = [13, 10, 13, 10]) := by
  obtain ⟨a, b, c, d, r, e⟩ := four_of (l := l.drop i) (by rw [List.length_drop]; omega)
  have hm : ∀ x ∈ l.drop i, x < 256 := fun x hx => hl x (List.mem_of_mem_drop hx)
  rw [e] at hm
  obtain ⟨k, hk⟩ : ∃ k, 2048 - i = k + 4 := ⟨2048 - i - 4, by omega⟩
  have e1 : (enL l).drop i = UInt8.ofNat a :: UInt8.ofNat b :: UInt8.ofNat c :: UInt8.ofNat d :: (r.take k).map UInt8.ofNat := by
    unfold enL
    rw [← List.map_drop, List.drop_take, e, hk]
    simp
  unfold Lib.occAt
  rw [e1, e]
  have q13 : ∀ x, x < 256 → ((13 : UInt8) == UInt8.ofNat x) = decide (x = 13) := fun x hx => ofn_beq (k := 13) hx (by omega)
  have q10 : ∀ x, x < 256 → ((10 : UInt8) == UInt8.ofNat x) = decide (x = 10) := fun x hx => ofn_beq (k := 10) hx (by omega)
  simp only [List.isPrefixOf]
  rw [q13 a (hm a (by simp)), q10 b (hm b (by simp)), q13 c (hm c (by simp)), q10 d (hm d (by simp))]
  simp
theorem enO_at {l : List Nat} (hl : ∀ x ∈ l, x < 256) {i : Nat} (h : i + 4 ≤ l.length) (h2 : i + 4 ≤ 2048) (hn : Lib.NoOcc (enL l) [13, 10, 13, 10] i) (he : (l.drop i).take 4 = [13, 10, 13, 10]) : enO l = i + 4 := by
  have hx : ixH (l.take 2048) = (i : Int) := by
    have ho := occ_at hl h h2
    rw [decide_eq_true he] at ho
    exact Lib.index_hit (s := enL l) hn (by unfold enL; simp; omega) ho
  unfold enO
  rw [hx, if_neg (by omega)]
  simp
theorem enO_no {l : List Nat} {i : Nat} (h : ¬ (i + 4 ≤ l.length ∧ i + 4 ≤ 2048)) (hn : Lib.NoOcc (enL l) [13, 10, 13, 10] i) : enO l = 0 := by
  have hx : ixH (l.take 2048) = -1 := Lib.index_past (s := enL l) (by decide) hn (by
    unfold enL
    simp only [List.length_map, List.length_take, List.length_cons, List.length_nil]
    omega)
  unfold enO
  rw [hx]
  rfl
set_option maxHeartbeats 2000000 in
theorem endOf_n {a : Option Addr} {n c : Nat} {l : List Nat} {w : World} (hS : Hid (Sln w a n l)) (hnc : n ≤ c) :
    Calls Tryz.prog 30 #[.slice a n c] w fun e w' => e = .returned (.int .i64 (enO l : Nat)) ∧ Hid (Below w.heap.size w w') := by
  have nz : n ≤ 140737488354304 := by have h := hS.out.len; rw [h]; exact hS.out.sli.2.1
  have NL : Hid (n = l.length) := hS.out.len
  have HL : Hid (∀ x ∈ l, x < 256) := hS.out.lt
  go_enter Tryz.func30, Tryz.ntmps30
  go_wp2
  go_loopw [3] (fun ti wr => ∃ i : Nat, i ≤ 2048 ∧ i ≤ n ∧ ti = .int .i64 (i : Int) ∧ Hid (Lib.NoOcc (enL l) [13, 10, 13, 10] i) ∧ Hid (Below w.heap.size w wr)) (fun ti _ => 2049 - (intOf ti).toNat)
  case atStart => exact ⟨0, by omega, by omega, rfl, Lib.NoOcc.zero _ _, Below.refl _ _⟩
  case round =>
    obtain ⟨i, hi, hin, rfl, HN, HB⟩ := hrel
    by_cases h1 : i + 4 ≤ n
    · have i1 : (i : Int) + 4 ≤ (n : Int) := by omega
      by_cases h2 : i + 4 ≤ 2048
      · have i2 : (i : Int) + 4 ≤ 2048 := by omega
        obtain ⟨a2, A2⟩ : ∃ x, Hid (adr a c i = x) := ⟨_, rfl⟩
        have R2 : ∀ W, (Instr.sliceAt 22 (.slice a n c) (some (.int .i64 (i : Int))) (some (.int .i64 ((i : Int) + 4))) none).run Tryz.prog W = .ok (.slice a2 4 (c - i)) W := fun W => by
          have h := mid_run (a := a) (n := n) (c := c) (lo := i) (hi := i + 4) (by omega) (by omega) W
          rw [A2.out, Nat.add_sub_cancel_left] at h
          exact h
        obtain ⟨L4, H4⟩ : ∃ x, Hid ((l.drop i).take 4 = x) := ⟨_, rfl⟩
        have S2 : Hid (Sln wr a2 4 L4) := by
          have h := slice_mid (m := c) (lo := i) (hi := i + 4) (hS.out.below HB.out) (by omega) (by omega) (by omega)
          rw [Nat.add_sub_cancel_left, H4.out] at h
          rw [← A2.out]
          exact h
        have C2 := fun q => conv_n (k := q) S2
        obtain ⟨bq, Eq⟩ : ∃ b, Hid (decide (L4 = [13, 10, 13, 10]) = b) := ⟨_, rfl⟩
        have q2 : ((spell L4).toList == [13, 10, 13, 10]) = bq := by
          refine beq_lit (t := spell [13, 10, 13, 10]) ?_ (by kernel_rfl)
          rw [← Eq.out]
          have h := spell_beq (a := L4) (b := [13, 10, 13, 10]) S2.out.lt (by decide)
          rw [beq_ba] at h
          exact h
        cases bq with
        | true =>
          have EV : Hid (enO l = i + 4) := enO_at HL.out (by rw [← NL.out]; exact h1) h2 HN.out (by rw [H4.out]; exact of_decide_eq_true Eq.out)
          go_wp2
          go_ret
          rw [EV.out]
          exact ⟨by go_num, HB.out⟩
        | false =>
          have NX : Hid (Lib.NoOcc (enL l) [13, 10, 13, 10] (i + 1)) := HN.out.succ (by rw [occ_at HL.out (by rw [← NL.out]; exact h1) h2, H4.out]; exact Eq.out)
          go_wp2
          go_roundw
          case rel => exact ⟨i + 1, by omega, by omega, by go_num, NX.out, HB.out⟩
          case measure => simp [intOf]; omega
      · have i2 : ¬ ((i : Int) + 4 ≤ 2048) := by omega
        have EV : Hid (enO l = 0) := enO_no (fun h => h2 h.2) HN.out
        go_wp2
        go_ret
        rw [EV.out]
        exact ⟨rfl, HB.out⟩
    · have i1 : ¬ ((i : Int) + 4 ≤ (n : Int)) := by omega
      have EV : Hid (enO l = 0) := enO_no (fun h => h1 (by rw [NL.out]; exact h.1)) HN.out
      go_wp2
      go_ret
      rw [EV.out]
      exact ⟨rfl, HB.out⟩
end Go.Proofs.YtemhhlongfabmaaGreatDoor
