/- LedgerBegins' walk (f4). -/
import Derived.Test.YtfabnnbljkkihaaGreatDoorLk
namespace Go.Proofs.YtfabnnbljkkihaaGreatDoor
open Go.ChangeShapes Go.WideShapes Go.ChangeAt Go.RowKit
set_option maxRecDepth 20000
set_option linter.unusedVariables false
set_option linter.unusedSimpArgs false
theorem pick_in (k : Int) (n : Nat) : ∃ (r : Int) (s p : Nat), k.tmod ((n : Int) + 1) = r ∧ -(n : Int) - 1 < r ∧ r < (n : Int) + 1 ∧ r + (n : Int) + 1 = (s : Int) ∧ (s : Int).tmod ((n : Int) + 1) = (p : Int) ∧ p ≤ n ∧ s ≤ 2 * n + 1 := by
  have h1 : (0 : Int) < (n : Int) + 1 := by omega
  have h2 := Int.tmod_lt_of_pos k h1
  have h3 : -((n : Int) + 1) < k.tmod ((n : Int) + 1) := Int.lt_tmod_of_pos k h1
  refine ⟨_, (k.tmod ((n : Int) + 1) + (n : Int) + 1).toNat, ((k.tmod ((n : Int) + 1) + (n : Int) + 1).toNat) % (n + 1), rfl, by omega, h2, by omega, ?_, ?_, by omega⟩
  · rw [show ((n : Int) + 1) = ((n + 1 : Nat) : Int) by omega]
    exact (Int.ofNat_tmod _ _).symm
  · exact Nat.le_of_lt_succ (Nat.mod_lt _ (Nat.succ_pos n))
set_option maxHeartbeats 8000000 in
theorem begins_law {w : World} {a b : Option Addr} {n m c d : Nat} {X Y : List Cx} (k : Int) (hA : Hid (Cms w 0 a n X)) (hB : Hid (Cms w 0 b m Y)) (hc : Hid (n ≤ c)) (hd : Hid (m ≤ d)) (za : Hid (a = none → c = 0)) (zb : Hid (b = none → d = 0)) :
    Calls Tryz.prog 4 #[.slice a n c, .slice b m d, .int .i64 k] w fun e w' => e = .returned (.bool true) ∧ Hid (Below w.heap.size w w') := by
  have hsz := hA.out.sz
  have LX : Hid (X.length = n) := hA.out.len.symm
  obtain ⟨r, Hr⟩ : ∃ r, Hid (decide (led X <+: led Y) = r) := ⟨_, rfl⟩
  have HX : Hid (decide (led X <+: led X) = true) := decide_eq_true (List.prefix_refl _)
  have HN : Hid (decide (led [] <+: led X) = true) := decide_eq_true (by simp [led])
  obtain ⟨r1, s1, p, q1, q2, q3, q4, q5, hp, hs⟩ := pick_in k n
  have Q1 : Hid (k.tmod ((n : Int) + 1) = r1) := q1
  have Q4 : Hid (r1 + (n : Int) + 1 = (s1 : Int)) := q4
  have Q5 : Hid ((s1 : Int).tmod ((n : Int) + 1) = (p : Int)) := q5
  clear q1 q4 q5
  have HP : Hid (decide (led (X.take p) <+: led X) = true) := decide_eq_true (by rw [led_take]; exact List.take_prefix _ _)
  have HQ : Hid (decide (led X <+: led (X.take p)) = decide (p = n)) := by
    show _ = _
    refine decide_eq_decide.2 ⟨fun h => ?_, fun h => ?_⟩
    · have h1 := h.length_le
      rw [led_len, led_len, List.length_take, LX.out] at h1
      omega
    · subst h
      rw [List.take_of_length_le (by rw [LX.out]; exact Nat.le_refl _)]
      exact List.prefix_refl _
  go_enter Tryz.func4, Tryz.ntmps4
  go_upto_region 3 with (go_at_call 9; refine (alive_n _).mono ?_; rintro e w1 ⟨rfl, H1⟩)
  have A1 : Hid (Cms w1 0 a n X) := hA.out.below H1.out
  have B1 : Hid (Cms w1 0 b m Y) := hB.out.below H1.out
  go_upto_region 5 with (first
    | (go_at_call 18; refine (begins_l N4 A4 hc.out za).mono ?_; rintro e w5 ⟨rfl, H5⟩; rw [HN.out])
    | (go_at_call 18; refine (begins_l A3 A3 hc.out za).mono ?_; rintro e w4 ⟨rfl, H4⟩; rw [HX.out]
       have A4 : Hid (Cms w4 0 a n X) := A3.out.below H4.out
       have N4 : Hid (Cms w4 0 none 0 []) := Cms.nil _ _ _)
    | (go_at_call 19; refine (begins_n A2 B2 hd.out zb.out).mono ?_; rintro e w3 ⟨rfl, H3⟩; rw [Hr.out]
       have A3 : Hid (Cms w3 0 a n X) := A2.out.below H3.out)
    | (go_at_call 18; refine (begins_l A1 B1 hd.out zb).mono ?_; rintro e w2 ⟨rfl, H2⟩; rw [Hr.out]
       have A2 : Hid (Cms w2 0 a n X) := A1.out.below H2.out
       have B2 : Hid (Cms w2 0 b m Y) := B1.out.below H2.out))
  have BL : Hid (Below w.heap.size w w5) := (((H1.out.trans (H2.out.mono H1.out.size)).trans (H3.out.mono (Nat.le_trans H1.out.size H2.out.size))).trans (H4.out.mono (Nat.le_trans (Nat.le_trans H1.out.size H2.out.size) H3.out.size))).trans (H5.out.mono (Nat.le_trans (Nat.le_trans (Nat.le_trans H1.out.size H2.out.size) H3.out.size) H4.out.size))
  have A5 : Hid (Cms w5 0 a n X) := A4.out.below H5.out
  have T5 : Hid (Cms w5 0 a p (X.take p)) := A5.out.take hp
  have zp : Hid (a = none → p = 0) := fun e => by
    have h1 := za.out e
    have h2 := hc.out
    omega
  clear H1 H2 H3 H4 H5 A1 A2 A3 A4 B1 B2 N4 hA hB HN HX Hr
  have q1 := Q1.out
  have q4 := Q4.out
  have q5 := Q5.out
  have i1 : ¬ ((n : Int) + 1 = 0) := by omega
  have i2 : p ≤ c := Nat.le_trans hp hc.out
  go_upto_region 6 with (fail)
  clear q1 q4 q5 i1
  go_wp2_with (first
    | (go_at_call 18; refine (begins_l A6 T6 (Nat.le_refl p) zp).mono ?_; rintro e w7 ⟨rfl, H7⟩; rw [HQ.out])
    | (go_at_call 18; refine (begins_l T5 A5 hc.out za).mono ?_; rintro e w6 ⟨rfl, H6⟩; rw [HP.out]
       have A6 : Hid (Cms w6 0 a n X) := A5.out.below H6.out
       have T6 : Hid (Cms w6 0 a p (X.take p)) := T5.out.below H6.out))
  go_ret
  refine ⟨?_, (BL.out.trans (H6.out.mono BL.out.size)).trans (H7.out.mono (Nat.le_trans BL.out.size H6.out.size))⟩
  have e : (decide (p = n) == ((p : Int) == (n : Int))) = true := by
    by_cases h : p = n
    · subst h; simp
    · have h2 : ¬ ((p : Int) = (n : Int)) := by omega
      simp [h, h2]
  exact congrArg (fun b => Ending.returned (Value.bool b)) e
end Go.Proofs.YtfabnnbljkkihaaGreatDoor
