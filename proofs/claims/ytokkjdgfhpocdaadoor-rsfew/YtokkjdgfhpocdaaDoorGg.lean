/- A shard of a copied list made one byte longer. -/
import Derived.Test.YtokkjdgfhpocdaaDoorGf
namespace Go.Proofs.YtokkjdgfhpocdaaDoor
open Go.ChangeShapes Go.WideShapes Go.ChangeAt Go.RowKit
set_option linter.unusedVariables false
set_option linter.unusedSimpArgs false
theorem cel_set (T : List Tr) (d : Nat) (z : Int) (v v2 : Value) (l l2 : List Nat) (h : T[d]? = some (z, v, l)) : cel (T.set d (z, v2, l2)) = (cel T).set (d * 2 + 1) v2 := by
  induction T generalizing d with
  | nil => simp at h
  | cons e T ih =>
    cases d with
    | zero =>
      simp at h
      subst h
      simp [cel_cons]
    | succ d =>
      simp at h
      have e1 : (d + 1) * 2 + 1 = d * 2 + 1 + 1 + 1 := by omega
      rw [List.set_cons_succ, cel_cons, cel_cons, ih d h, e1]
      simp
theorem own_slnb {w : World} {B b n cap : Nat} {l : List Nat} (h : w.ownsRow B 5 1 (.slice (some ⟨b, 0, none⟩) n cap) n (l.map bv)) (hn : n = l.length) (hl : ∀ x ∈ l, x < 256) (hb : l.length ≤ 140737488351232) : Sln w (some ⟨b, 0, none⟩) n l := by
  refine ⟨hn, hl, hb, .inr ⟨b, 0, rfl, (h.lt b rfl).2, fun i hi => ?_⟩⟩
  have := h.cells (g := b) rfl i (bv (l.getD i 0)) (by
    rw [List.getElem?_map, List.getElem?_eq_getElem hi]
    simp [List.getD, hi])
  rw [Addr.add_mid] at this
  exact this
theorem long_T {B : Nat} {w0 w : World} {g cap s d : Nat} {T : List Tr} {z : Int} {v : Value} {l : List Nat} (CP : Cp B w0 w g cap s T) (he : T[d]? = some (z, v, l)) (hs : s ≤ 1100) :
    ∃ b w2, v = .slice (some ⟨b, 0, none⟩) s (s + 6) ∧ (Builtin.append_ #[33, 33] 33 #[.slice (some ⟨b, 0, none⟩) s (s + 6), .slice (some ⟨w.heap.size, 0, none⟩) 1 1]).run Tryd.prog (w.alloc (.cells #[.int .u8 0] 5)) = .ok (.slice (some ⟨b, 0, none⟩) (s + 1) (s + 6)) w2 ∧
      w2.cell? ⟨g, d * 2 + 1, none⟩ = some (.slice (some ⟨b, 0, none⟩) s (s + 6)) ∧ w2.frozen? ⟨g, d * 2 + 1, none⟩ = false ∧ Below B w0 w2 ∧ Below B w0 (w2.setCell ⟨g, d * 2 + 1, none⟩ (.slice (some ⟨b, 0, none⟩) (s + 1) (s + 6))) ∧
      Lie (w2.setCell ⟨g, d * 2 + 1, none⟩ (.slice (some ⟨b, 0, none⟩) (s + 1) (s + 6))) g 0 (T.set d (z, .slice (some ⟨b, 0, none⟩) (s + 1) (s + 6), l ++ [0])) ∧ Ok (w2.setCell ⟨g, d * 2 + 1, none⟩ (.slice (some ⟨b, 0, none⟩) (s + 1) (s + 6))) (T.set d (z, .slice (some ⟨b, 0, none⟩) (s + 1) (s + 6), l ++ [0])) := by
  have hdl : d < T.length := (List.getElem?_eq_some_iff.1 he).1
  have hmem : (z, v, l) ∈ T := List.mem_of_getElem? he
  have EL := CP.el _ hmem
  obtain ⟨b, hv, hblk, hBb⟩ := EL.ex
  simp only at hv hblk
  have hbg : b ≠ g := CP.apart hmem hv
  have hll : l.length = s := EL.len
  have hlt : ∀ x ∈ l, x < 256 := EL.lt
  have bw : Below w.heap.size w (w.alloc (.cells #[.int .u8 0] 5)) := (Below.refl _ _).alloc (Nat.le_refl _) _
  have blk1 := hblk.below bw hblk.lt
  have own1 : (w.alloc (.cells #[.int .u8 0] 5)).ownsRow B 5 1 (.slice (some ⟨b, 0, none⟩) s (s + 6)) s (l.map bv) := by
    refine ⟨by simp [hll], .inr ⟨b, s + 6, _, rfl, hBb, blk1, by omega, by unfold maxLen; omega, by simp [marks, hll], ?_⟩⟩
    simp [hll, List.map_append]
  have b0 : Blk (w.alloc (.cells #[.int .u8 0] 5)) w.heap.size [0] := by
    show (w.heap.push _)[w.heap.size]? = _
    simp [bv]
  have s0 := b0.sln (by intro y hy; simp at hy; omega) (by simp)
  obtain ⟨w2, hrun, own2, gr⟩ := app_fits (c := 1) own1 s0 (by simp) (by simp)
  have e1 : [0].length = 1 := rfl
  rw [e1] at hrun own2
  have e3 : l.map bv ++ [0].map bv = (l ++ [0]).map bv := by simp
  rw [e3] at own2
  have S2 : Sln w2 (some ⟨b, 0, none⟩) (s + 1) (l ++ [0]) := own_slnb own2 (by simp [hll]) (by
    intro x hx
    rcases List.mem_append.1 hx with h | h
    · exact hlt x h
    · simp at h; omega) (by simp [hll]; omega)
  have hgw := CP.own.lt
  obtain ⟨cur, hcur⟩ := CP.own.blk
  have hg2 : w2.heap[g]? = w.heap[g]? := (gr.block g (by simp; omega) (by intro e; simp at e; exact hbg e.symm)).trans (bw.block g hgw.2)
  have C2 : ∀ j u, (cel T)[j]? = some u → w2.cell? ⟨g, j, none⟩ = some u := fun j u hu => by
    have := CP.own.lie j u hu
    rw [Nat.zero_add] at this
    exact (World.cell?_of_block (w := w) (a := ⟨g, j, none⟩) hg2).trans this
  have F2 : ∀ j, w2.frozen? ⟨g, j, none⟩ = false := fun j => by simp [World.frozen?, hg2, hcur]
  have cd := (cel_at T d _ he).2
  simp only at cd
  rw [hv] at cd
  have O3 : Oth g w2 (w2.setCell ⟨g, d * 2 + 1, none⟩ (.slice (some ⟨b, 0, none⟩) (s + 1) (s + 6))) := (Oth.refl g w2).setCell _ _
  have hBw : B ≤ w.heap.size := by omega
  have bel1 : Below B w0 w2 := (CP.bel.alloc hBw (.cells #[.int .u8 0] 5)).grown gr (by simp; omega) (fun y e => by simp at e; omega)
  have hsame : w2.setCell ⟨g, d * 2 + 1, none⟩ (.slice (some ⟨b, 0, none⟩) (s + 1) (s + 6)) = w2.setCells g (d * 2 + 1) [.slice (some ⟨b, 0, none⟩) (s + 1) (s + 6)] := rfl
  refine ⟨b, w2, hv, hrun, C2 _ _ cd, F2 _, bel1, O3.below bel1 hgw.1, ?_, ?_⟩
  · intro j u hu
    rw [cel_set T d z v _ l _ he, List.getElem?_set] at hu
    rw [hsame, Nat.zero_add]
    by_cases hj : d * 2 + 1 = j
    · subst hj
      rw [if_pos rfl] at hu
      split at hu
      · simp only [Option.some.injEq] at hu
        subst hu
        have := World.rangeAt_setCells_same w2 g (d * 2 + 1) [.slice (some ⟨b, 0, none⟩) (s + 1) (s + 6)] (fun i hi => by
          have : i = 0 := by simpa using hi
          subst this
          exact ⟨by rw [C2 _ _ cd]; rfl, F2 _⟩) 0 _ rfl
        simpa using this
      · cases hu
    · rw [if_neg hj] at hu
      rw [World.cell?_setCells_out g _ _ w2 ⟨g, j, none⟩ (fun _ _ => by simp; omega)]
      exact C2 j u hu
  · intro e9 he9
    obtain ⟨i, hi, hi2⟩ := List.getElem_of_mem he9
    have hi3 : i < T.length := by simpa using hi
    rw [List.getElem_set] at hi2
    by_cases hid : d = i
    · rw [if_pos hid] at hi2
      subst hi2
      refine ⟨EL.wf, _, _, _, rfl, ⟨S2.len, S2.lt, S2.sli.2.1, ?_⟩, by omega, by omega, by simp⟩
      rcases S2.sli.2.2 with h | ⟨b', off', h1, h2, h5⟩
      · exact .inl h
      · simp at h1
        obtain ⟨rfl, rfl⟩ := h1
        exact .inr ⟨b, 0, rfl, by rw [O3.size]; exact h2, fun i hi => (O3.cell (p := ⟨b, 0 + i, none⟩) hbg).trans (h5 i hi)⟩
    · rw [if_neg hid] at hi2
      have hm9 : e9 ∈ T := by rw [← hi2]; exact List.getElem_mem hi3
      have EL9 := CP.el e9 hm9
      refine El.vs (B := B) (s := s) (EL9.to fun b9 hb9 hlt9 => ?_) hs
      have n1 : b9 ≠ g := CP.apart hm9 hb9
      have n2 : b9 ≠ b := by
        intro e
        subst e
        have hdd : T[d] = (z, v, l) := by
          have := List.getElem?_eq_getElem hdl
          rw [this] at he
          simpa using he
        have hpw := List.pairwise_iff_getElem.1 CP.pw
        rcases Nat.lt_or_gt_of_ne hid with h | h
        · have := hpw d i hdl hi3 h
          rw [hi2, hdd] at this
          exact this (by rw [hv, hb9])
        · have := hpw i d hi3 hdl h
          rw [hi2, hdd] at this
          exact this (by rw [hv, hb9])
      exact (O3.block b9 n1).trans ((gr.block b9 (by simp; omega) (by intro e; simp at e; exact n2 e)).trans (bw.block b9 hlt9))
end Go.Proofs.YtokkjdgfhpocdaaDoor
