/- Arguments of the laws: how much they hold. -/
import Derived.Test.YtalagagnolhppaaDoorVs
import Derived.Test.YtalagagnolhppaaDoorRows
namespace Go.Proofs.YtalagagnolhppaaDoor
open Go.ChangeShapes Go.WideShapes Go.ChangeAt Go.RowKit
set_option linter.unusedVariables false
set_option linter.unusedSimpArgs false
section
variable {H : Type} {enc : TypeId × Value → H} {W : World} {fuel : Nat} {y : DataW H × List MemPlace}
theorem bulk_str {s : ByteArray} (hf : DataW.trod enc Tryd.prog W 0 (fun _ => true) true fuel 9 [.string s] = some y) : s.size + 1 ≤ Rows.uptoBulk y.1 := by
  obtain ⟨z, h1, h2, _⟩ := DataW.trod_string Tryd.underlying9 hf
  simp at h1
  subst h1
  rw [h2]
  have e : s.data.toList.length = s.size := by rw [Array.length_toList]; rfl
  simp only [Rows.uptoBulk]
  omega
end
end Go.Proofs.YtalagagnolhppaaDoor
