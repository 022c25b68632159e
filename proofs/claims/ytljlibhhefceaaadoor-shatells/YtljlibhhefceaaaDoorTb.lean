/- A slice of slices of bytes among the arguments, opened: what each row reads as, and how long it can be. -/
import Derived.Test.YtljlibhhefceaaaDoorBa
import Derived.Deep.Matrix
namespace Go.Proofs.YtljlibhhefceaaaDoor
open Go.ChangeShapes Go.WideShapes Go.ChangeAt Go.RowKit Go.Deep
set_option linter.unusedVariables false
set_option linter.unusedSimpArgs false
/- a slice of n slices of bytes that reads as R -/
structure Pcs (w : World) (a : Option Addr) (n : Nat) (R : List (List Nat)) : Prop where
  len : n = R.length
  at_ : ∀ r, r < n → ∃ b off x m c, a = some ⟨b, off, none⟩ ∧ b < w.heap.size ∧ w.cell? ⟨b, off + r, none⟩ = some (.slice x m c) ∧ Sln w x m (R.getD r []) ∧ m ≤ c
theorem cells22 : Tryd.prog.cellsOf 22 = 1 := by kernel_rfl
theorem bytes22 : Tryd.prog.bytesOf 22 = 24 := by kernel_rfl
theorem weightsAll_mem {H : Type} {P : Program} {e : TypeId} : ∀ {ds : List (DataW H)} {d : DataW H}, d ∈ ds → ∀ n ∈ d.weights P e, n ∈ DataW.weightsAll P e ds
  | [], d, h, n, hn => by cases h
  | d' :: r, d, h, n, hn => by
    simp only [DataW.weightsAll, List.mem_append]
    rcases List.mem_cons.1 h with rfl | h
    · exact .inl hn
    · exact .inr (weightsAll_mem h n hn)
theorem open_pieces {H : Type} {enc : TypeId × Value → H} {W : World} {fuel : Nat} {v : Value} {y : DataW H × List MemPlace} (hf : DataW.trod enc Tryd.prog W 0 (fun _ => true) true fuel 45 [v] = some y) (hsz : ∀ n ∈ y.1.weights Tryd.prog 45, n ≤ reachBytes) :
    ∃ a n k R, v = .slice a n k ∧ Hid (Pcs W a n R) ∧ n ≤ k ∧ k ≤ 140737488351232 := by
  rcases open_int_rows Tryd.underlying45 Tryd.underlying22 Tryd.underlying5 cells22 cells5 hf with ⟨hcs, _⟩ | ⟨x, n, k, A, L, C, Z, hcs, _, hl, hm, hx, hrow⟩
  · simp at hcs
    exact ⟨none, 0, 0, [], hcs, ⟨rfl, fun r hr => by omega⟩, by omega, by omega⟩
  · simp at hcs
    rw [hx] at hsz
    simp only [DataW.weights, Tryd.underlying45, bytes22] at hsz
    have hk : k ≤ 140737488351232 := by
      have h := hsz _ (List.mem_cons_self ..)
      simp only [List.length_map, List.length_range, reachBytes] at h
      omega
    refine ⟨some x, n, k, (List.range n).map fun r => ((Z r).take (L r)).map Int.toNat, hcs, ⟨by simp, ?_⟩, hl, hk⟩
    intro r hr
    obtain ⟨h1, h2, h3, h4, h5, h6, h7⟩ := hrow r (by omega)
    obtain ⟨b, off, spot⟩ := x
    have h10 := (hrow 0 (by omega)).1
    have hspot : spot = none := by simpa [Addr.add] using World.cell?_spot h10
    subst hspot
    have hadd : (⟨b, off, none⟩ : Addr).add r = ⟨b, off + r, none⟩ := by simp [Addr.add]
    rw [hadd] at h1
    have hR : ((List.range n).map fun r => ((Z r).take (L r)).map Int.toNat).getD r [] = ((Z r).take (L r)).map Int.toNat := by simp [List.getD, hr]
    refine ⟨b, off, A r, L r, C r, rfl, cell_lt h1, h1, ?_, h2⟩
    rw [hR]
    have hC : C r ≤ 140737488351232 := by
      by_cases hA : A r = none
      · rw [h6 hA]; omega
      · obtain ⟨a', ha'⟩ := Option.ne_none_iff_exists'.1 hA
        have hmem : intRow (H := H) .u8 (A r) (L r) (Z r) ∈ (List.range n).map fun r => intRow (H := H) .u8 (A r) (L r) (Z r) := List.mem_map.2 ⟨r, List.mem_range.2 hr, rfl⟩
        have h := hsz ((lits (H := H) .u8 ((Z r).take (L r))).length + (lits (H := H) .u8 ((Z r).drop (L r))).length) (by
          refine List.mem_cons_of_mem _ (List.mem_append_left _ (weightsAll_mem hmem _ ?_))
          rw [ha']
          simp only [intRow, DataW.weights, Tryd.underlying22, bytes5]
          simp)
        simp only [lits, List.length_map, List.length_take, List.length_drop, reachBytes] at h
        omega
    refine ⟨by simp; omega, ?_, by simp; omega, ?_⟩
    · intro z hzm
      obtain ⟨q, hq, rfl⟩ := List.mem_map.1 hzm
      have := bounds_u8 (h5 q (List.mem_of_mem_take hq))
      omega
    · by_cases hL0 : L r = 0
      · exact .inl (by rw [hL0]; simp)
      · right
        have hA : A r ≠ none := fun hA => by have := h6 hA; omega
        obtain ⟨a', ha'⟩ := Option.ne_none_iff_exists'.1 hA
        obtain ⟨_, hcell⟩ := h7 a' ha'
        obtain ⟨b', off', spot'⟩ := a'
        have hc0 := hcell 0 (by omega)
        have hs' : spot' = none := by simpa [Addr.add] using World.cell?_spot hc0
        subst hs'
        refine ⟨b', off', ha', cell_lt (by simpa [Addr.add] using hc0), fun i hi => ?_⟩
        have hi2 : i < L r := by simp at hi; omega
        have h1' := hcell i (by omega)
        have hadd' : (⟨b', off', none⟩ : Addr).add i = ⟨b', off' + i, none⟩ := by simp [Addr.add]
        rw [hadd'] at h1'
        rw [h1']
        have h3' : i < (Z r).length := by omega
        have h4' : (Z r).getD i 0 = (Z r)[i] := by simp [List.getD, h3']
        have h5' : (((Z r).take (L r)).map Int.toNat).getD i 0 = ((Z r)[i]).toNat := by simp [List.getD, h3', hi2]
        have h6' := bounds_u8 (h5 (Z r)[i] (List.getElem_mem h3'))
        rw [h4', h5', Int.toNat_of_nonneg h6'.1]
end Go.Proofs.YtljlibhhefceaaaDoor
