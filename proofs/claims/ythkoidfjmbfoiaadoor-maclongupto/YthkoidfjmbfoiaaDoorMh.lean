/- Appends onto a row of the call's own: a slice's content, and a number of noughts. -/
import Derived.Test.YthkoidfjmbfoiaaDoorMf
import Derived.Lib.AppendZerosOnto
namespace Go.Proofs.YthkoidfjmbfoiaaDoor
open Go.ChangeShapes Go.WideShapes Go.ChangeAt Go.RowKit
set_option linter.unusedVariables false
set_option linter.unusedSimpArgs false
theorem own_cap {w : World} {B g k cap : Nat} {xs : List Value} (own : w.ownsRow B 5 1 (.slice (some ⟨g, 0, none⟩) k cap) k xs) : k ≤ cap := by
  rcases own.2 with ⟨h1, _⟩ | ⟨g', cap', cur, h1, _, _, h5, _⟩
  · simp at h1
  · simp only [Value.slice.injEq] at h1
    omega
theorem own_lt2 {w : World} {B g k cap : Nat} {xs : List Value} (own : w.ownsRow B 5 1 (.slice (some ⟨g, 0, none⟩) k cap) k xs) : g < w.heap.size := (own.lt g rfl).2
theorem app_own {wr : World} {B g k cap : Nat} {L l : List Nat} {a : Option Addr} {n c : Nat} (own : wr.ownsRow B 5 1 (.slice (some ⟨g, 0, none⟩) k cap) k (L.map bv)) (hS : Sln wr a n l) (hc : a = none → c = 0) (hb : k + n ≤ 140737488355328) (hB : B ≤ wr.heap.size) :
    ∃ g' cap' w', (Builtin.append_ #[22, 22] 22 #[.slice (some ⟨g, 0, none⟩) k cap, .slice a n c]).run Tryd.prog wr = .ok (.slice (some ⟨g', 0, none⟩) (k + n) cap') w' ∧ w'.ownsRow B 5 1 (.slice (some ⟨g', 0, none⟩) (k + n) cap') (k + n) ((L ++ l).map bv) ∧ wr.grownBy w' (some g) := by
  obtain ⟨i, hi, hz0, hz1, hz2⟩ := info_parts info5
  have e := hS.len
  by_cases hl : l = []
  · subst hl
    have e0 : n = 0 := e
    subst e0
    obtain ⟨w', hr, ho, hg⟩ := app_fits own hS hc (by have := own_cap own; omega)
    exact ⟨g, cap, w', hr, by simpa using ho, hg⟩
  · obtain ⟨b, off, rfl, _, r⟩ := hS.sli.2.2.resolve_left hl
    obtain ⟨v', w', hrun, hown, hgr, _⟩ := run_append_own (P := Tryd.prog) wr B 22 22 5 i (.int .u8 0) 1 1 Tryd.underlying22 hi hz0 hz1 hz2 rfl (by decide) _ k (L.map bv) own ⟨b, off, none⟩ n c (l.map bv) (by simp [e]) (map_cells r) (map_one _) (by unfold maxLen; omega) (by omega) hB
    have hpos : 0 < n := by rw [e]; exact List.length_pos_iff.2 hl
    rcases hown.2 with ⟨_, h0⟩ | ⟨g', cap', cur, rfl, _⟩
    · omega
    · exact ⟨g', cap', w', hrun, by rw [List.map_append]; exact hown, hgr⟩
theorem zeroCells_bytes (m : Nat) : Builtin.zeroCells #[Value.int .u8 0] m = ((List.replicate m 0).map bv).toArray := by
  apply Array.ext
  · simp [Builtin.zeroCells]
  · intro i h1 h2
    simp [Builtin.zeroCells, Nat.mod_one, bv]
theorem app_zer {wr : World} {B g k cap m : Nat} {L : List Nat} (own : wr.ownsRow B 5 1 (.slice (some ⟨g, 0, none⟩) k cap) k (L.map bv)) (hb : k + m ≤ 140737488355328) (hB : B ≤ wr.heap.size) :
    ∃ g' cap' w', (Builtin.append_ #[22, 3] 22 #[.slice (some ⟨g, 0, none⟩) k cap, .int .i64 (m : Int)]).run Tryd.prog wr = .ok (.slice (some ⟨g', 0, none⟩) (k + m) cap') w' ∧ w'.ownsRow B 5 1 (.slice (some ⟨g', 0, none⟩) (k + m) cap') (k + m) ((L ++ List.replicate m 0).map bv) ∧ wr.grownBy w' (some g) := by
  obtain ⟨i, hi, hz0, hz1, hz2⟩ := info_parts info5
  have hkc := own_cap own
  have hw : IntKind.i64.wrap (m : Int) = m := by rw [IntKind.wrap_i64]; omega
  have hneg : ¬ ((m : Int) < 0) := by omega
  have h48i : ¬ (281474976710656 < (m : Int) * 1) := by omega
  have hL : (L.map bv).length = k * 1 := own.1
  have hL2 : L.length = k := by simpa using hL
  by_cases h0 : m = 0
  · subst h0
    have h9 : k + 0 ≤ cap := hkc
    have hw0 : IntKind.i64.wrap (0 : Int) = 0 := by rw [IntKind.wrap_i64]; rfl
    refine ⟨g, cap, wr, ?_, by simpa using own, World.grownBy.refl _ _⟩
    simp [Builtin.append_, run_underlying Tryd.underlying22, run_underlying Tryd.underlying3, sizeOf, typeInfo, zeroValue, hi, hz0, hz1, hz2, asInt, asIntOf, hw0, h9, hkc, storeCells]
  · have hns : ¬ (m * 1 = 0) := by omega
    rcases own.2 with ⟨h1, _⟩ | ⟨g1, cap1, cur, h1, hbg, hg, _, hcm, hcs, htake⟩
    · simp at h1
    · simp only [Value.slice.injEq, Option.some.injEq, Addr.mk.injEq, and_true, true_and] at h1
      obtain ⟨rfl, rfl⟩ := h1
      by_cases hroom : k + m ≤ cap
      · have hst := run_storeCells_at Tryd.prog g (k * 1) 5 ((List.replicate m 0).map bv) 0 cur wr hg (by simp [hcs]; omega) (map_one _)
        simp only [Nat.add_zero] at hst
        have hz : (Value.int IntKind.u8 0).cells = #[Value.int .u8 0] := rfl
        refine ⟨g, cap, _, ?_, ⟨by simp [hL2], .inr ⟨g, cap, _, rfl, hbg, setRow_heap wr g cur ((cur.toList.take (k * 1) ++ (List.replicate m 0).map bv ++ cur.toList.drop (k * 1 + ((List.replicate m 0).map bv).length)).toArray) 5 _ hg, hroom, hcm, ?_, ?_⟩⟩, ⟨rfl, rfl, rfl, by simp, fun j _ hj => setRow_other wr g j _ (fun e => hj (by simp [e]))⟩⟩
        · have hst2 := hst
          rw [Nat.mul_one] at hst2
          simp [Builtin.append_, run_underlying Tryd.underlying22, run_underlying Tryd.underlying3, sizeOf, typeInfo, zeroValue, hi, hz0, hz1, hz2, asInt, asIntOf, hw, hroom, hneg, h0, h48i, hz, zeroCells_bytes, Addr.add_lit]
          rw [if_neg (by omega)]
          simp at hst2
          rw [hst2]
          rfl
        · simp [hcs]; omega
        · have hh : (cur.toList.take (k * 1) ++ (List.replicate m 0).map bv).length = (k + m) * 1 := by rw [htake]; simp [hL2]
          simp only []
          rw [← hh, List.take_left, htake, List.map_append]
      · have hg0 : wr.grownBy wr.drew (some g) := ⟨rfl, rfl, rfl, Nat.le_refl _, fun _ _ _ => rfl⟩
        have holds : ∀ j u, (L.map bv)[j]? = some u → wr.drew.cell? ((⟨g, 0, none⟩ : Addr).add j) = some u := fun j u hu => own.cells (g := g) rfl j u hu
        have hf := run_firstCells_some (P := Tryd.prog) wr.drew 1 k ⟨g, 0, none⟩ k cap (L.map bv) hL holds
        rw [← hz1] at hf
        have hr := Lib.run_append_grow_zeros (P := Tryd.prog) wr 22 3 22 5 i (.int .u8 0) .i64 .i64 Tryd.underlying22 Tryd.underlying3 hi hz0 (some ⟨g, 0, none⟩) k cap (L.map bv) hf m (by omega) (by rw [hz1]; omega) (by omega) (by omega) (by rw [hz2]; omega) (growslice_fits (by omega) (by rw [hz2]; omega))
        have hge := grownCap_ge wr (k + m) cap 5
        have hcm2 : grownCap wr (k + m) cap 5 ≤ maxLen := grownCap_le_maxLen wr (k + m) cap 5 (by unfold maxLen; omega)
        have hz : (Value.int IntKind.u8 0).cells = #[Value.int .u8 0] := rfl
        rw [hz, zeroCells_bytes, zeroCells_bytes] at hr
        refine ⟨wr.heap.size, grownCap wr (k + m) cap 5, _, hr, ⟨by simp [hL2], .inr ⟨wr.heap.size, _, _, rfl, hB, heap_alloc_new wr.drew _, hge, hcm2, ?_, ?_⟩⟩, ⟨rfl, rfl, rfl, by simp, fun j hj _ => Below.heap_alloc wr.drew _ j hj⟩⟩
        · simp [hL2]; omega
        · simp only [Array.toList_append, List.append_assoc]
          rw [← List.append_assoc, ← List.map_append]
          have hh : ((L ++ List.replicate m 0).map bv).length = (k + m) * 1 := by simp [hL2]
          rw [← hh]
          exact List.take_left
end Go.Proofs.YthkoidfjmbfoiaaDoor
