/- How many ops a script that fits has; two lists of bytes in an array among the arguments, opened. -/
import Derived.Test.YtnhnpkedkdefnaaDoorZf
import Derived.Test.YtnhnpkedkdefnaaDoorRa
namespace Go.Proofs.YtnhnpkedkdefnaaDoor
open Go.ChangeShapes Go.WideShapes Go.ChangeAt Go.RowKit Go.Deep
set_option linter.unusedVariables false
theorem bytes31 : Tryd.prog.bytesOf 31 = 48 := by kernel_rfl
theorem ops_len {H : Type} {enc : TypeId × Value → H} {W : World} {fuel : Nat} {a : Option Addr} {n k : Nat} {y : DataW H × List MemPlace} (hf : DataW.trod enc Tryd.prog W 0 (fun _ => true) true fuel 22 [.slice a n k] = some y) (hsz : ∀ n ∈ y.1.weights Tryd.prog 22, n ≤ reachBytes) : n * 48 ≤ 140737488351232 := by
  rcases open_slice Tryd.underlying22 hf with ⟨hcs, _⟩ | ⟨x, len, cap, m, fu, D, Pl, hcs, _, hl, hm, hmm, hx, hc⟩
  · simp at hcs
    omega
  · simp at hcs
    have h := hsz ((((List.range len).map D).length + ((List.range (m - len)).map fun j => D (len + j)).length) * 48) (by
      rw [hx]
      simp only [DataW.weights, Tryd.underlying22, bytes31]
      simp)
    simp only [List.length_map, List.length_range, reachBytes] at h
    have e := hcs.2.1
    have : n * 48 ≤ (len + (m - len)) * 48 := Nat.mul_le_mul_right _ (by omega)
    omega
theorem cells28 : Tryd.prog.cellsOf 28 = 2 := by kernel_rfl
theorem open_arr2 {H : Type} {enc : TypeId × Value → H} {W : World} {b0 : Nat} {v : Value} {d : DataW H} {p : List MemPlace} (hv : Value.okWide Tryd.prog W .any b0 28 v) (h : DataW.Trod enc Tryd.prog W 0 (fun _ => true) true 28 v d p) (hsz : ∀ n ∈ d.weights Tryd.prog 28, n ≤ reachBytes) :
    ∃ B : Nat → Bs, v = .agg #[.slice (B 0).a (B 0).n (B 0).c, .slice (B 1).a (B 1).n (B 1).c] ∧ Hid (∀ j, j < 2 → (B j).ok W) := by
  unfold Value.okWide at hv
  rw [Tryd.underlying28] at hv
  obtain ⟨cs, rfl, hs, _⟩ := hv
  rw [cells28] at hs
  obtain ⟨c0, c1, rfl⟩ := Joins.array2 hs
  obtain ⟨fuel, hf⟩ := h
  obtain ⟨xs, m, _, hx, _, hl, hall⟩ := DataW.trod_array Tryd.underlying28 hf
  match xs, hl with
  | [y0, y1], _ =>
    have h0 := hall 0 (by omega)
    have h1 := hall 1 (by omega)
    simp [Value.cells, cells27] at h0 h1
    simp only [Prod.mk.injEq] at hx
    have hd : d = .agg [y0.1, y1.1] := by simpa using hx.1
    have w0 : ∀ n ∈ y0.1.weights Tryd.prog 27, n ≤ reachBytes := fun n hn => hsz n (by rw [hd]; simp only [DataW.weights, Tryd.underlying28, DataW.weightsAll]; simp [hn])
    have w1 : ∀ n ∈ y1.1.weights Tryd.prog 27, n ≤ reachBytes := fun n hn => hsz n (by rw [hd]; simp only [DataW.weights, Tryd.underlying28, DataW.weightsAll]; simp [hn])
    obtain ⟨a0, n0, k0, l0, rfl, S0, hk0, hm0⟩ := open_bytes h0 w0
    obtain ⟨a1, n1, k1, l1, rfl, S1, hk1, hm1⟩ := open_bytes h1 w1
    refine ⟨fun j => if j = 0 then ⟨a0, n0, k0, l0⟩ else ⟨a1, n1, k1, l1⟩, rfl, fun j hj => ?_⟩
    have hj2 : j = 0 ∨ j = 1 := by omega
    rcases hj2 with rfl | rfl
    · exact ⟨S0.out, hk0, nil_cap27 h0, Nat.le_trans hk0 hm0⟩
    · exact ⟨S1.out, hk1, nil_cap27 h1, Nat.le_trans hk1 hm1⟩
end Go.Proofs.YtnhnpkedkdefnaaDoor
