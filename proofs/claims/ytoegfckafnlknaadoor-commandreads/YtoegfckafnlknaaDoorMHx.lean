import Derived.Test.YtoegfckafnlknaaDoorMHd
import Derived.Test.YtoegfckafnlknaaDoorMGd
/- Hx -/
/- The document's Get by a command as a whole. -/
namespace Go.Proofs.YtoegfckafnlknaaDoor
open Go.ChangeShapes Go.WideShapes Go.ChangeAt Go.RowKit
set_option maxRecDepth 20000
set_option linter.unusedVariables false
set_option linter.unusedSimpArgs false
def zx : Cx := ⟨⟨0, 0, 0, 0, ⟨#[]⟩, ⟨#[]⟩, 0, 0, 0, 0, 0, 0, 0, ⟨#[]⟩, 0, [], 0, 0⟩, none, 0, 0⟩
theorem getDx_no {w : World} {a : Option Addr} {n c : Nat} {l : List Nat} (hS : Hid (Sln w a n l)) (hc : Hid (a = none → c = 0)) (hnc : Hid (n ≤ c)) (hr : Hid (rdG l = none)) :
    Calls Tryd.prog 18 #[.slice a n c] w fun e w' => ∃ A, e = .returned (.tuple #[.agg A, .bool false]) ∧ Hid (A = (encX zx).toArray ∧ Below w.heap.size w w') := by
  refine (getD_n hS hc hnc).mono ?_
  rintro e w' (⟨_, h1, h2⟩ | ⟨x, pa, pn, pc, h, _⟩)
  · exact ⟨_, h1, rfl, h2⟩
  · rw [refG_eq hS.out.lt, hr.out] at h; cases h
theorem getDx_yesO {w : World} {a : Option Addr} {n c : Nat} {l : List Nat} {y : Nm} (hS : Hid (Sln w a n l)) (hc : Hid (a = none → c = 0)) (hnc : Hid (n ≤ c)) (hr : Hid (rdG l = some y)) :
    Calls Tryd.prog 18 #[.slice a n c] w fun e w' => ∃ A, e = .returned (.tuple #[.agg A, .bool true]) ∧ Hid (∃ x : Cx, A = (encX x).toArray ∧ x.cm = y.cm ∧ w'.ownsRow w.heap.size 3 1 (.slice x.pa x.pn x.pc) x.pn (x.cm.ps.map iv) ∧ x.pn ≤ 17592186043904 ∧ Below w.heap.size w w') := by
  refine (getD_n hS hc hnc).mono ?_
  rintro e w' (⟨h, _⟩ | ⟨x, pa, pn, pc, h, h1, h2, h3⟩)
  · rw [refG_eq hS.out.lt, hr.out] at h; cases h
  · rw [refG_eq hS.out.lt, hr.out] at h
    cases h
    exact ⟨_, h1, ⟨y.cm, pa, pn, pc⟩, rfl, rfl, h3.2, h3.1.sz, h2⟩
theorem blk_front {w : World} {g n : Nat} {l : List Nat} (hB : Blk w g (l ++ marks)) (hl : ∀ x ∈ l, x < 256) (hn : n = l.length) (hb : n ≤ 140737488351232) : Sln w (some ⟨g, 0, none⟩) n l := by
  have hm : ∀ x ∈ l ++ marks, x < 256 := fun x hx => by
    rcases List.mem_append.1 hx with h | h
    · exact hl x h
    · have e : ∀ x ∈ marks, x < 256 := by decide
      exact e x h
  have h6 : marks.length = 6 := rfl
  have h := (Blk.sln hB hm (by rw [List.length_append, h6]; omega)).take (k := n) (by rw [List.length_append]; omega)
  rwa [hn, List.take_left, ← hn] at h
end Go.Proofs.YtoegfckafnlknaaDoor
