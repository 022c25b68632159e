/- The document's InForm of any message; the laws' own alive answers true. -/
import Derived.Test.YtppibcambhmomaaDoorMh
import Derived.Test.YtppibcambhmomaaDoorMQ0
import Derived.Test.YtppibcambhmomaaDoorMQ2
import Derived.Test.YtppibcambhmomaaDoorMQ4
import Derived.Test.YtppibcambhmomaaDoorMQ6
import Derived.Test.YtppibcambhmomaaDoorMQ8
namespace Go.Proofs.YtppibcambhmomaaDoor
open Go.ChangeShapes Go.WideShapes Go.ChangeAt Go.RowKit
set_option maxRecDepth 20000
set_option linter.unusedVariables false
set_option linter.unusedSimpArgs false
theorem inFmM_n {w : World} {x : Mc} {X : List Cx} {L : List Nat} {A : Array Value} (hA : Hid (A = (encM x).toArray)) (hm : Hid (Ms w x X L)) :
    Calls Tryd.prog 11 #[.agg A] w fun e w' => e = .returned (.bool (mf x (led X))) ∧ Hid (Below w.heap.size w w') := by
  obtain rfl := hA.out
  obtain ⟨k, f, t, t0, t1, t2, p0, p1, q0, q1, la, ln, lc, u0, u1, u2, vk, fa, fn, fc⟩ := x
  by_cases hp : ndT f = true ∧ ndT t = true ∧ gdI t0 t1 t2 = true
  · by_cases hk : 1 ≤ k ∧ k ≤ 9
    · rcases (show k = 1 ∨ k = 2 ∨ k = 3 ∨ k = 4 ∨ k = 5 ∨ k = 6 ∨ k = 7 ∨ k = 8 ∨ k = 9 by omega) with rfl | rfl | rfl | rfl | rfl | rfl | rfl | rfl | rfl
      · exact inFm_1 hm hp
      · exact inFm_2 hm hp
      · exact inFm_3 hm hp
      · exact inFm_4 hm hp
      · exact inFm_5 hm hp
      · exact inFm_6 hm hp
      · exact inFm_7 hm hp
      · exact inFm_8 hm hp
      · exact inFm_9 hm hp
    · exact inFm_0 hk hm hp
  · refine inFm_bad (L := L) ?_
    rcases Bool.eq_false_or_eq_true (ndT f) with h1 | h1
    · rcases Bool.eq_false_or_eq_true (ndT t) with h2 | h2
      · rcases Bool.eq_false_or_eq_true (gdI t0 t1 t2) with h3 | h3
        · exact absurd ⟨h1, h2, h3⟩ hp
        · exact .inr (.inr h3)
      · exact .inr (.inl h2)
    · exact .inl h1
def al1 : Nmg := ⟨1, 0, 0, 0, 0, 0, 1, 0, 0, 0, 0, 0, 0, false⟩
def al0 : Nmg := ⟨1, 0, 0, 0, 0, 0, 0, 0, 0, 0, 0, 0, 0, false⟩
theorem al_len : 14 < (pmL al1 [] []).length := by
  simp only [pmL, seal_len, mbL, List.length_append, al1]
  have h : ∀ n, n < 128 → (enc n).length = 1 := fun n hn => by rw [enc_lt hn]; rfl
  rw [h 1 (by omega), h 0 (by omega)]
  omega
theorem al_fst : (pmL al1 [] []).getD 0 0 = 1 := by
  simp only [pmL, sealL, mbL, al1]
  rw [enc_lt (n := 1) (by omega)]
  rfl
set_option maxHeartbeats 2000000 in
theorem aliveM_n {w : World} {M : Nat → Prop} {E : Nat → Addr} (hE : Hid (Sent w M E)) (hM0 : M 0) : Calls Tryd.prog 6 #[] w fun e w' => e = .returned (.bool true) ∧ Hid (Below w.heap.size w w') := by
  have PO : Hid (Calls Tryd.prog 9 #[.agg #[.int .i64 1,.int .i64 0,.int .i64 0,.int .i64 0,.int .i64 0,.int .i64 0,.int .i64 1,.int .i64 0,.int .i64 0,.int .i64 0,.slice none 0 0,.int .i64 0,.int .i64 0,.int .i64 0, .bool false,.slice none 0 0]] w fun e w' => ∃ g N, e = .returned (.tuple #[.slice (some ⟨g, 0, none⟩) N N, .nilIface]) ∧ Hid (Blk w' g (pmL al1 [] []) ∧ N = (pmL al1 [] []).length ∧ N ≤ 60000000 ∧ w.heap.size ≤ g ∧ Below w.heap.size w w')) :=
    putM_yes (x := al1.mc none 0 0 none 0 0) (X := []) (R := []) (y := al1) (ys := []) (hidI rfl) hE hM0 (hidI ⟨Cms.nil _ _ _, sln_none _, (fun _ => rfl), (fun _ => rfl), Nat.le_refl _, (fun y hy => by cases hy)⟩) (hidI (by decide +kernel)) (hidI rfl) (hidI ⟨by decide, by decide, by decide, by decide, by decide, by decide, by decide, by decide, by decide, by decide, by decide, by decide, by decide⟩) (hidI rfl) (hidI (fun z hz => by cases hz)) (hidI (Nat.zero_le _)) (hidI (Nat.zero_le _))
  go_enter Tryd.func6, Tryd.ntmps6
  go_upto_region 2 with (go_at_call 9; refine PO.out.mono ?_; rintro e w1 ⟨g, n, rfl, H1⟩)
  have B1 : Hid (Below w.heap.size w w1) := H1.out.2.2.2.2
  have E1 : Hid (Sent w1 M E) := hE.out.below B1.out
  have PN : Hid (Calls Tryd.prog 9 #[.agg #[.int .i64 1,.int .i64 0,.int .i64 0,.int .i64 0,.int .i64 0,.int .i64 0,.int .i64 0,.int .i64 0,.int .i64 0,.int .i64 0,.slice none 0 0,.int .i64 0,.int .i64 0,.int .i64 0, .bool false,.slice none 0 0]] w1 fun e w' => e = .returned (.tuple #[.slice none 0 0, er (E 0)]) ∧ Hid (Below w1.heap.size w1 w')) :=
    putM_no (x := al0.mc none 0 0 none 0 0) (X := []) (hidI rfl) E1 hM0 (hidI (Cms.nil _ _ _)) (hidI (by decide +kernel))
  go_upto_region 3 with (go_at_call 9; refine PN.out.mono ?_; rintro e w2 ⟨rfl, h2⟩)
  have B2 : Hid (Below w.heap.size w w2) := B1.out.trans (h2.out.mono B1.out.size)
  have ce : w2.cell? ⟨0, 0, none⟩ = some (er (E 0)) := (hE.out.below B2.out).c 0 hM0
  have eq := eql_same w2 (E 0)
  have i1 : (14 : Int) < (n : Int) := by have := H1.out.2.1; have := al_len; omega
  have i2 : (0 : Int) < (n : Int) := by omega
  have x0 : w2.cell? ⟨g, 0, none⟩ = some (.int .u8 1) := by
    have h : w1.heap[g]? = some (.cells ((pmL al1 [] []).map bv).toArray 5 (0, 0)) := H1.out.1
    have h3 := (h2.out.block g (Array.getElem?_eq_some_iff.1 h).1).trans h
    have h4 : (pmL al1 [] [])[0]? = some 1 := by
      have a := al_fst
      have b := al_len
      rw [List.getD_eq_getElem?_getD] at a
      rw [List.getElem?_eq_getElem (by omega)] at a ⊢
      simp at a
      rw [a]
    simp [World.cell?, h3, h4, bv]
  clear H1 PO PN h2
  go_wp2
  go_ret
  exact ⟨rfl, B2.out⟩
end Go.Proofs.YtppibcambhmomaaDoor
