/- What the document's own Dot and the laws' own Kept do, for all slices. -/
import Derived.Test.YtokkjdgfhpocdaaDoorWn
namespace Go.Proofs.YtokkjdgfhpocdaaDoor
open Go.ChangeShapes Go.WideShapes Go.ChangeAt Go.RowKit
set_option linter.unusedVariables false
set_option linter.unusedSimpArgs false
theorem marks_cell {w : World} {g n : Nat} {l : List Nat} (h : Blk w g (l ++ marks)) (hn : n = l.length) (i : Nat) (hi : i < 6) : w.cell? ⟨g, n + i, none⟩ = some (.int .u8 ((201 + i : Nat) : Int)) := by
  have h1 := h.cell (i := n + i) (by simp [marks]; omega)
  rw [h1]
  have h2 : (l ++ marks).getD (n + i) 0 = 201 + i := by
    simp only [List.getD]
    rw [List.getElem?_append_right (by omega)]
    have : n + i - l.length = i := by omega
    rw [this]
    match i, hi with
    | 0, _ => rfl
    | 1, _ => rfl
    | 2, _ => rfl
    | 3, _ => rfl
    | 4, _ => rfl
    | 5, _ => rfl
  rw [h2]
theorem blk_begin {w : World} {g n : Nat} {l : List Nat} (h : Blk w g (l ++ marks)) (hn : n = l.length) (h1 : ∀ x ∈ l, x < 256) (h2 : l.length ≤ 140737488351232) : Sln w (some ⟨g, 0, none⟩) n l :=
  ⟨hn, h1, h2, .inr ⟨g, 0, rfl, h.lt, fun i hi => by
    have h3 := h.row i (by simp; omega)
    rw [h3]
    have : (l ++ marks).getD i 0 = l.getD i 0 := by simp only [List.getD]; rw [List.getElem?_append_left hi]
    rw [this]⟩⟩
set_option maxHeartbeats 1000000 in
theorem kept_n {g n N k : Nat} {a : Option Addr} {l : List Nat} {w : World} (hB : Hid (Blk w g (l ++ marks))) (hN : Hid (N = n + 6)) (h : Hid (Sln w a n l)) :
    Calls Tryd.prog 19 #[.slice (some ⟨g, 0, none⟩) n N, .slice a n k] w fun e w' => e = .returned (.bool true) ∧ Hid (∃ n, w' = w.drewN n) := by
  have m := h.out.sli.2.1
  have e := h.out.len
  rw [← e] at m
  have sx : Hid (Sln w (some ⟨g, 0, none⟩) n l) := blk_begin hB.out e h.out.lt h.out.sli.2.1
  have hN2 := hN.out
  subst hN2
  have c1 : ∀ j, (convert 33 9 (.slice (some ⟨g, 0, none⟩) n (n + 6))).run Tryd.prog (w.drewN j) = .ok (.string (spell l)) (w.drewN j) := fun j => conv_n (sx.out.drewN j)
  have c2 : ∀ j, (convert 33 9 (.slice a n k)).run Tryd.prog (w.drewN j) = .ok (.string (spell l)) (w.drewN j) := fun j => conv_n (h.out.drewN j)
  have E : Hid (n = l.length) := e
  clear e
  go_enter Tryd.func19, Tryd.ntmps19
  go_wp2
  go_quiet (fail)
  clear c1 c2
  go_wp2
  obtain ⟨w2, hw2⟩ : ∃ w2, w2 = w.drewN nq := ⟨_, rfl⟩
  have Q : Hid (∃ k, w2 = w.drewN k) := ⟨nq, hw2⟩
  have M : Hid (∀ i, i < 6 → w2.cell? ⟨g, n + i, none⟩ = some (.int .u8 ((201 + i : Nat) : Int))) := by rw [hw2]; exact fun i hi => marks_cell (hB.out.drewN nq) E.out i hi
  rw [← hw2]
  clear hw2
  go_loop [6] (fun ti => ∃ k : Nat, k ≤ 6 ∧ ti = .int .i64 k) (fun ti => 6 - (intOf ti).toNat)
  case atStart => exact ⟨0, by omega, rfl⟩
  case round =>
    obtain ⟨k, hk, rfl⟩ := hrel
    by_cases hlt : k < 6
    · have c3 := M.out k hlt
      have i1 : (k : Int) < 6 := by omega
      go_wp2
      go_round
      case rel => exact ⟨k + 1, by omega, by go_num⟩
      case measure => simp [intOf]; omega
    · go_wp2
      go_ret
      exact ⟨rfl, Q.out⟩
end Go.Proofs.YtokkjdgfhpocdaaDoor
