import Derived.Test.YtkdgakcmhnadfaaGreatDoorMKl
import Derived.Test.YtkdgakcmhnadfaaGreatDoorMNl
import Derived.Deep.SlicePairs
/- Nm -/
/- A row of ids and a row of bools among the arguments. -/
namespace Go.Proofs.YtkdgakcmhnadfaaGreatDoor
open Go.ChangeShapes Go.WideShapes Go.ChangeAt Go.RowKit Go.Deep
set_option maxRecDepth 20000
set_option linter.unusedVariables false
set_option linter.unusedSimpArgs false
theorem cells3_ : Tryz.prog.cellsOf 3 = 1 := by kernel_rfl
theorem cells4_ : Tryz.prog.cellsOf 4 = 1 := by kernel_rfl
theorem bytes32 : Tryz.prog.bytesOf 32 = 24 := by kernel_rfl
theorem bytes4 : Tryz.prog.bytesOf 4 = 1 := by kernel_rfl
theorem open53 {H : Type} {enc : TypeId × Value → H} {W : World} {b0 : Nat} {v : Value} {d : DataW H} {p : List MemPlace} (hv : Value.okWide Tryz.prog W .any b0 53 v) (h : DataW.Trod enc Tryz.prog W 0 (fun _ => true) true 53 v d p) (hsz : ∀ n ∈ d.weights Tryz.prog 53, n ≤ reachBytes) :
    ∃ a n k L, v = .slice a n k ∧ Hid (Idg W a n L) ∧ n ≤ 140737488351232 := by
  obtain ⟨aa, la, ca, rfl⟩ := okWide_slice Tryz.underlying53 hv
  obtain ⟨fuel, hf⟩ := h
  simp only [Value.cells] at hf
  rcases open_slice Tryz.underlying53 hf with ⟨hcs, _⟩ | ⟨x, len, cap, m, fu, D, Pl, hcs, _, hl, hm, hmm, hx, hc⟩
  · simp at hcs
    exact ⟨none, 0, 0, [], by simp [hcs], ⟨rfl, .inl rfl⟩, by omega⟩
  · have hcs' : Value.slice aa la ca = .slice (some x) len cap := by simpa using hcs
    simp only [if_true] at hmm
    subst hmm
    simp only [Prod.mk.injEq] at hx
    rw [hx.1] at hsz
    have hlen8 : len ≤ 140737488351232 := by
      have h := hsz ((((List.range len).map D).length + ((List.range (m - len)).map fun j => D (len + j)).length) * 24) (by
        simp only [DataW.weights, Tryz.underlying53, bytes32]
        simp)
      simp only [List.length_map, List.length_range, reachBytes] at h
      omega
    have each : ∀ i, i < len → ∃ q : I3, W.cell? (x.add (i * 3)) = some (.int .i64 q.1) ∧ W.cell? (x.add (i * 3 + 1)) = some (.int .i64 q.2.1) ∧ W.cell? (x.add (i * 3 + 2)) = some (.int .i64 q.2.2) := by
      intro i hi
      obtain ⟨cs', h1, h2⟩ := hc i (by omega)
      rw [cells32] at h1
      obtain ⟨_, hlen, hcell⟩ := World.cells?_some h1
      obtain ⟨xs, k, hk, hxy, _, hxl, hfl⟩ := DataW.trod_struct Tryz.underlying32 h2
      match xs, hxl, cs', hlen with
      | [y0, y1, y2], _, [v0, v1, v2], _ =>
        have g0 := hfl 0 _ rfl
        have g1 := hfl 1 _ rfl
        have g2 := hfl 2 _ rfl
        simp [cells3_] at g0 g1 g2
        have e0 := hcell 0 (by omega)
        have e1 := hcell 1 (by omega)
        have e2 := hcell 2 (by omega)
        rw [add_add] at e0 e1 e2
        simp at e0 e1 e2
        obtain ⟨z0, rfl0, _, wz0⟩ := DataW.trod_int Tryz.underlying3 g0
        obtain ⟨z1, rfl1, _, wz1⟩ := DataW.trod_int Tryz.underlying3 g1
        obtain ⟨z2, rfl2, _, wz2⟩ := DataW.trod_int Tryz.underlying3 g2
        simp at rfl0 rfl1 rfl2
        subst rfl0 rfl1 rfl2
        exact ⟨(z0, z1, z2), e0, e1, e2⟩
    obtain ⟨q, hq⟩ := choose_lt each
    refine ⟨some x, len, m, (List.range len).map fun i => q i, hcs', ⟨by simp, ?_⟩, hlen8⟩
    by_cases h0 : len = 0
    · exact .inl h0
    · right
      obtain ⟨b, off, spot⟩ := x
      have h10 := (hq 0 (by omega)).1
      have hspot : spot = none := by simpa [Addr.add] using World.cell?_spot h10
      subst hspot
      refine ⟨b, off, rfl, fun i hi => ?_⟩
      obtain ⟨d0, d1, d2⟩ := hq i hi
      have n0 : ((List.range len).map fun i => q i).getD i (0, 0, 0) = q i := by simp [List.getD, hi]
      rw [n0]
      have ad : ∀ j, (⟨b, off, none⟩ : Addr).add j = ⟨b, off + j, none⟩ := by intro j; simp [Addr.add]
      rw [ad] at d0 d1 d2
      exact ⟨d0, by rw [Nat.add_assoc]; exact d1, by rw [Nat.add_assoc]; exact d2⟩
theorem open60 {H : Type} {enc : TypeId × Value → H} {W : World} {b0 : Nat} {v : Value} {d : DataW H} {p : List MemPlace} (hv : Value.okWide Tryz.prog W .any b0 60 v) (h : DataW.Trod enc Tryz.prog W 0 (fun _ => true) true 60 v d p) (hsz : ∀ n ∈ d.weights Tryz.prog 60, n ≤ reachBytes) :
    ∃ a n k L, v = .slice a n k ∧ Hid (Blg W a n L) ∧ n ≤ 140737488351232 := by
  obtain ⟨aa, la, ca, rfl⟩ := okWide_slice Tryz.underlying60 hv
  obtain ⟨fuel, hf⟩ := h
  simp only [Value.cells] at hf
  rcases open_slice Tryz.underlying60 hf with ⟨hcs, _⟩ | ⟨x, len, cap, m, fu, D, Pl, hcs, _, hl, hm, hmm, hx, hc⟩
  · simp at hcs
    exact ⟨none, 0, 0, [], by simp [hcs], ⟨rfl, .inl rfl⟩, by omega⟩
  · have hcs' : Value.slice aa la ca = .slice (some x) len cap := by simpa using hcs
    simp only [if_true] at hmm
    subst hmm
    simp only [Prod.mk.injEq] at hx
    rw [hx.1] at hsz
    have hlen8 : len ≤ 140737488351232 := by
      have h := hsz ((((List.range len).map D).length + ((List.range (m - len)).map fun j => D (len + j)).length) * 1) (by
        simp only [DataW.weights, Tryz.underlying60, bytes4]
        simp)
      simp only [List.length_map, List.length_range, reachBytes] at h
      omega
    have each : ∀ i, i < len → ∃ q : Bool, W.cell? (x.add i) = some (.bool q) := by
      intro i hi
      obtain ⟨cs', h1, h2⟩ := hc i (by omega)
      rw [cells4_] at h1
      obtain ⟨_, hlen, hcell⟩ := World.cells?_some h1
      match cs', hlen with
      | [v0], _ =>
        have e0 := hcell 0 (by omega)
        rw [add_add] at e0
        simp at e0
        obtain ⟨z0, rfl0, _⟩ := DataW.trod_bool Tryz.underlying4 h2
        simp at rfl0
        subst rfl0
        exact ⟨z0, e0⟩
    obtain ⟨q, hq⟩ := choose_lt each
    refine ⟨some x, len, m, (List.range len).map fun i => q i, hcs', ⟨by simp, ?_⟩, hlen8⟩
    by_cases h0 : len = 0
    · exact .inl h0
    · right
      obtain ⟨b, off, spot⟩ := x
      have h10 := hq 0 (by omega)
      have hspot : spot = none := by simpa [Addr.add] using World.cell?_spot h10
      subst hspot
      refine ⟨b, off, rfl, fun i hi => ?_⟩
      have d0 := hq i hi
      have n0 : ((List.range len).map fun i => q i).getD i false = q i := by simp [List.getD, hi]
      rw [n0]
      have ad : ∀ j, (⟨b, off, none⟩ : Addr).add j = ⟨b, off + j, none⟩ := by intro j; simp [Addr.add]
      rw [ad] at d0
      exact d0
end Go.Proofs.YtkdgakcmhnadfaaGreatDoor
