/- A slice of bytes among the arguments, opened: what it reads as, and how long it can be. -/
import Derived.Test.YtokkjdgfhpocdaaDoorWk
import Derived.SizedLaws
import Derived.ChangeOld
import Derived.Below
import Derived.Lib.SmallJoins
namespace Go.Proofs.YtokkjdgfhpocdaaDoor
open Go.ChangeShapes Go.WideShapes Go.ChangeAt Go.RowKit
set_option linter.unusedVariables false
set_option linter.unusedSimpArgs false
theorem bytes5 : Tryd.prog.bytesOf 5 = 1 := by kernel_rfl
theorem cells5 : Tryd.prog.cellsOf 5 = 1 := by kernel_rfl
theorem cell_lt {w : World} {b off : Nat} {v : Value} (h : w.cell? ⟨b, off, none⟩ = some v) : b < w.heap.size := by
  unfold World.cell? at h
  rcases hb : w.heap[b]? with _ | o
  · simp [hb] at h
  · exact (Array.getElem?_eq_some_iff.1 hb).1
theorem open_bytes {H : Type} {enc : TypeId × Value → H} {W : World} {fuel : Nat} {v : Value} {y : DataW H × List MemPlace} (hf : DataW.trod enc Tryd.prog W 0 (fun _ => true) true fuel 33 [v] = some y) (hsz : ∀ n ∈ y.1.weights Tryd.prog 33, n ≤ reachBytes) :
    ∃ a n k l, v = .slice a n k ∧ Hid (Sln W a n l) ∧ n ≤ k ∧ k ≤ 140737488351232 := by
  rcases open_ints Tryd.underlying33 Tryd.underlying5 cells5 hf with ⟨hcs, _⟩ | ⟨x, n, k, zs, hcs, _, hl, _, hz, hx, hcell, hwz⟩
  · simp at hcs
    exact ⟨none, 0, 0, [], hcs, ⟨rfl, by simp, by simp, .inl rfl⟩, by omega, by omega⟩
  · simp at hcs
    have hz : zs.length = k := by simpa using hz
    have hk : k ≤ 140737488351232 := by
      have h := hsz ((lits (H := H) .u8 (zs.take n)).length + (lits (H := H) .u8 (zs.drop n)).length) (by
        rw [hx]; simp only [DataW.weights, Tryd.underlying33, bytes5]; simp)
      simp only [lits, List.length_map, List.length_take, List.length_drop, reachBytes] at h
      omega
    refine ⟨some x, n, k, (zs.take n).map Int.toNat, hcs, ⟨by simp; omega, ?_, by simp; omega, ?_⟩, hl, hk⟩
    · intro z hzm
      obtain ⟨q, hq, rfl⟩ := List.mem_map.1 hzm
      have := bounds_u8 (hwz q (List.mem_of_mem_take hq))
      omega
    · by_cases h0 : n = 0
      · subst h0; exact .inl (by simp)
      · right
        obtain ⟨b, off, spot⟩ := x
        have hc := hcell 0 (by omega)
        have hspot : spot = none := by simpa [Addr.add] using World.cell?_spot hc
        subst hspot
        refine ⟨b, off, rfl, cell_lt (by simpa [Addr.add] using hc), fun i hi => ?_⟩
        have hi2 : i < n := by simp at hi; omega
        have h1 := hcell i (by omega)
        have h2 : (⟨b, off, none⟩ : Addr).add i = ⟨b, off + i, none⟩ := by simp [Addr.add]
        rw [h2] at h1
        rw [h1]
        have h3 : i < zs.length := by omega
        have h4 : zs.getD i 0 = zs[i] := by simp [List.getD, h3]
        have h5 : ((zs.take n).map Int.toNat).getD i 0 = (zs[i]).toNat := by simp [List.getD, h3, hi2]
        have h6 := bounds_u8 (hwz zs[i] (List.getElem_mem h3))
        rw [h4, h5, Int.toNat_of_nonneg h6.1]
end Go.Proofs.YtokkjdgfhpocdaaDoor
