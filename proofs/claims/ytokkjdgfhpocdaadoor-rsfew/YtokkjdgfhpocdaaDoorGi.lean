/- A slice of shards among the arguments, opened. -/
import Derived.Test.YtokkjdgfhpocdaaDoorWm
import Derived.Test.YtokkjdgfhpocdaaDoorEd
import Derived.Test.YtokkjdgfhpocdaaDoorFo
import Derived.Deep.SlicePairs
namespace Go.Proofs.YtokkjdgfhpocdaaDoor
open Go.ChangeShapes Go.WideShapes Go.ChangeAt Go.RowKit Go.Deep
set_option linter.unusedVariables false
set_option linter.unusedSimpArgs false
theorem cells33 : Tryd.prog.cellsOf 33 = 1 := by kernel_rfl
theorem cells54 : Tryd.prog.cellsOf 54 = 2 := by kernel_rfl
theorem bytes54 : Tryd.prog.bytesOf 54 = 32 := by kernel_rfl
theorem weightsAll_mem {H : Type} {P : Program} {e : TypeId} : ∀ {ds : List (DataW H)} {d : DataW H}, d ∈ ds → ∀ n ∈ d.weights P e, n ∈ DataW.weightsAll P e ds
  | [], d, h, n, hn => by cases h
  | d' :: r, d, h, n, hn => by
    simp only [DataW.weightsAll, List.mem_append]
    rcases List.mem_cons.1 h with rfl | h
    · exact .inl hn
    · exact .inr (weightsAll_mem h n hn)
theorem nil_cap33 {H : Type} {enc : TypeId × Value → H} {W : World} {fuel : Nat} {a : Option Addr} {n k : Nat} {y : DataW H × List MemPlace} (hf : DataW.trod enc Tryd.prog W 0 (fun _ => true) true fuel 33 [.slice a n k] = some y) : a = none → k = 0 := by
  rcases open_ints Tryd.underlying33 Tryd.underlying5 cells5 hf with ⟨hcs, _⟩ | ⟨x, l, c, zs, hcs, _⟩
  · simp at hcs
    exact fun _ => hcs.2.2
  · simp at hcs
    intro h
    rw [h] at hcs
    simp at hcs
theorem open_shards {H : Type} {enc : TypeId × Value → H} {W : World} {fuel : Nat} {v : Value} {y : DataW H × List MemPlace} (hf : DataW.trod enc Tryd.prog W 0 (fun _ => true) true fuel 43 [v] = some y) (hsz : ∀ n ∈ y.1.weights Tryd.prog 43, n ≤ reachBytes) :
    ∃ a n k L, v = .slice a n k ∧ Hid (Shd W a n L) ∧ n ≤ k ∧ k ≤ 140737488351232 := by
  rcases open_slice_pairs Tryd.underlying43 Tryd.underlying54 cells54 rfl rfl cells3 cells33 hf with ⟨hcs, _⟩ | ⟨x, len, cap, m, fu, V0, V1, D0, D1, P0, P1, hcs, _, hl, hm, hmm, hx, hc⟩
  · simp at hcs
    exact ⟨none, 0, 0, [], hcs, ⟨rfl, by omega, .inl rfl, fun i hi => by omega⟩, by omega, by omega⟩
  · simp at hcs
    simp only [if_true] at hmm
    subst hmm
    rw [hx] at hsz
    simp only [DataW.weights, Tryd.underlying43, bytes54] at hsz
    have hk : m ≤ 140737488351232 := by
      have h := hsz _ (List.mem_cons_self ..)
      simp only [List.length_map, List.length_range, reachBytes] at h
      omega
    have each : ∀ i, i < len → ∃ q : Int × List Nat × Option Addr × Nat × Nat, V0 i = .int .i64 q.1 ∧ (Lit.int .i64 q.1).wf = true ∧ V1 i = .slice q.2.2.1 q.2.2.2.1 q.2.2.2.2 ∧ Sln W q.2.2.1 q.2.2.2.1 q.2.1 ∧ q.2.2.2.1 ≤ q.2.2.2.2 ∧ q.2.2.2.2 ≤ 140737488351232 ∧ (q.2.2.1 = none → q.2.2.2.2 = 0) := by
      intro i hi
      obtain ⟨_, _, t0, t1⟩ := hc i (by omega)
      obtain ⟨z, e0, _, wz⟩ := DataW.trod_int Tryd.underlying3 t0
      simp at e0
      have hmem : (.agg [D0 i, D1 i] : DataW H) ∈ (List.range len).map fun i => (.agg [D0 i, D1 i] : DataW H) := List.mem_map.2 ⟨i, List.mem_range.2 hi, rfl⟩
      obtain ⟨a, n, k, l, e1, S, h1, h2⟩ := open_bytes t1 (fun n hn => hsz n (by
        refine List.mem_cons_of_mem _ (List.mem_append_left _ (weightsAll_mem hmem _ ?_))
        simp only [DataW.weights, Tryd.underlying54]
        simp [DataW.weightsEach, hn]))
      rw [e1] at t1
      exact ⟨(z, l, a, n, k), e0, wz, e1, S.out, h1, h2, nil_cap33 t1⟩
    obtain ⟨q, hq⟩ := choose_lt each
    refine ⟨some x, len, m, (List.range len).map fun i => ((q i).1, (q i).2.1), hcs, ⟨by simp, by omega, ?_, ?_⟩, hl, hk⟩
    · by_cases h0 : len = 0
      · exact .inl h0
      · right
        obtain ⟨b, off, spot⟩ := x
        have h10 := (hc 0 (by omega)).1
        have hspot : spot = none := by simpa [Addr.add] using World.cell?_spot h10
        subst hspot
        refine ⟨b, off, rfl, fun i hi => ?_⟩
        obtain ⟨c0, c1, _⟩ := hc i (by omega)
        obtain ⟨e0, _, e1, S, h1, h2, h3⟩ := hq i hi
        have n0 : nu ((List.range len).map fun i => ((q i).1, (q i).2.1)) i = (q i).1 := by simp [nu, List.getD, hi]
        have n1 : by_ ((List.range len).map fun i => ((q i).1, (q i).2.1)) i = (q i).2.1 := by simp [by_, List.getD, hi]
        rw [n0, n1]
        have a0 : (⟨b, off, none⟩ : Addr).add (i * 2) = ⟨b, off + i * 2, none⟩ := by simp [Addr.add]
        have a1 : (⟨b, off, none⟩ : Addr).add (i * 2 + 1) = ⟨b, off + i * 2 + 1, none⟩ := by simp [Addr.add, Nat.add_assoc]
        rw [a0, e0] at c0
        rw [a1, e1] at c1
        exact ⟨c0, _, _, _, c1, S, h1, h2, h3⟩
    · intro i hi
      have n0 : nu ((List.range len).map fun i => ((q i).1, (q i).2.1)) i = (q i).1 := by simp [nu, List.getD, hi]
      rw [n0]
      exact (hq i hi).2.1
end Go.Proofs.YtokkjdgfhpocdaaDoor
