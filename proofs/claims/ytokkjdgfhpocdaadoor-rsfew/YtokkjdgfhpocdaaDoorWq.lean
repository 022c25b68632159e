/- What the document's own AddScaled does, for all slices: it returns a new row with the sum place by place, and changes nothing that was there. -/
import Derived.Test.YtokkjdgfhpocdaaDoorWp
namespace Go.Proofs.YtokkjdgfhpocdaaDoor
open Go.ChangeShapes Go.WideShapes Go.ChangeAt Go.RowKit
set_option linter.unusedVariables false
set_option linter.unusedSimpArgs false
theorem app_one (w : World) (B g k cap x : Nat) (l : List Nat) (own : w.ownsRow B 5 1 (.slice (some ⟨g, 0, none⟩) k cap) k (l.map bv)) (hB : B ≤ w.heap.size) (hk : k + 1 ≤ 140737488351232) :
    ∃ g' cap' w', (Builtin.append_ #[33, 33] 33 #[.slice (some ⟨g, 0, none⟩) k cap, .slice (some ⟨w.heap.size, 0, none⟩) 1 1]).run Tryd.prog (w.alloc (.cells #[.int .u8 (x : Int)] 5)) = .ok (.slice (some ⟨g', 0, none⟩) (k + 1) cap') w' ∧ w'.ownsRow B 5 1 (.slice (some ⟨g', 0, none⟩) (k + 1) cap') (k + 1) ((l ++ [x]).map bv) ∧ (w.alloc (.cells #[.int .u8 (x : Int)] 5)).grownBy w' (some g) := by
  obtain ⟨i, hi, hz0, hz1, hz2⟩ := info_parts info5
  have b1 : Blk (w.alloc (.cells #[.int .u8 (x : Int)] 5)) w.heap.size [x] := by
    show (w.heap.push _)[w.heap.size]? = _
    simp [bv]
  obtain ⟨v', w', hrun, hown, hgr, _⟩ := run_append_own (P := Tryd.prog) (w.alloc (.cells #[.int .u8 (x : Int)] 5)) B 33 33 5 i (.int .u8 0) 1 1 Tryd.underlying33 hi hz0 hz1 hz2 rfl (by decide) _ k (l.map bv) (own.alloc _) ⟨w.heap.size, 0, none⟩ 1 1 ([x].map bv) rfl (map_cells b1.row) (map_one _) (by unfold maxLen; omega) (by omega) (by simp; omega)
  rcases hown.2 with ⟨_, h0⟩ | ⟨g', cap', cur, rfl, _⟩
  · omega
  · refine ⟨g', cap', w', hrun, ?_, hgr⟩
    rw [List.map_append]
    exact hown
theorem own_lt {w : World} {B g k cap : Nat} {xs : List Value} (own : w.ownsRow B 5 1 (.slice (some ⟨g, 0, none⟩) k cap) k xs) : B ≤ g := (own.lt g rfl).1
theorem own_sln {w : World} {B g k cap : Nat} {l : List Nat} (own : w.ownsRow B 5 1 (.slice (some ⟨g, 0, none⟩) k cap) k (l.map bv)) (h1 : ∀ x ∈ l, x < 256) (h2 : l.length ≤ 140737488351232) : Sln w (some ⟨g, 0, none⟩) k l := by
  have hk : k = l.length := by have := own.1; simp at this; omega
  refine ⟨hk, h1, h2, .inr ⟨g, 0, rfl, (own.lt g rfl).2, fun i hi => ?_⟩⟩
  have h3 := own.cells (g := g) rfl i (bv (l.getD i 0)) (by
    rw [List.getElem?_map, List.getElem?_eq_getElem hi]
    simp [List.getD, hi])
  have h4 : (⟨g, 0, none⟩ : Addr).add i = ⟨g, 0 + i, none⟩ := by
    by_cases hi0 : i = 0
    · subst hi0; simp [Addr.add]
    · simp [Addr.add, hi0]
  rw [h4] at h3
  exact h3
theorem take_succ_getD {l : List Nat} {k : Nat} (h : k < l.length) : l.take (k + 1) = l.take k ++ [l.getD k 0] := by
  rw [List.take_succ_eq_append_getElem h]
  simp [List.getD, h]
theorem row_at {w : World} {a : Option Addr} {n : Nat} {l : List Nat} (h : Sln w a n l) {i : Nat} (hi : i < n) : ∃ b off, a = some ⟨b, off, none⟩ ∧ w.cell? ⟨b, off + i, none⟩ = some (.int .u8 (l.getD i 0 : Nat)) := by
  have e := h.len
  have hne : l ≠ [] := by intro h0; rw [h0] at e; simp at e; omega
  obtain ⟨b, off, h1, _, r⟩ := h.sli.2.2.resolve_left hne
  exact ⟨b, off, h1, r i (by omega)⟩
/- the row gathered so far -/
def Gath (w wr : World) (v : Value) (k : Nat) (L : List Nat) : Prop := ∃ g cap, v = .slice (some ⟨g, 0, none⟩) k cap ∧ wr.ownsRow w.heap.size 5 1 v k ((L.take k).map bv) ∧ Below w.heap.size w wr
set_option maxRecDepth 20000 in
set_option maxHeartbeats 2000000 in
theorem refadd_n {a1 a2 : Option Addr} {n1 n2 k1 k2 c : Nat} {l1 l2 : List Nat} {w : World} (hc : c < 256) (h1 : Hid (Sln w a1 n1 l1)) (h2 : Hid (Sln w a2 n2 l2)) :
    Calls Tryd.prog 41 #[.slice a1 n1 k1, .int .u8 (c : Int), .slice a2 n2 k2] w fun e w' => ∃ g n cap, e = .returned (.slice (some ⟨g, 0, none⟩) n cap) ∧ Hid (w.heap.size ≤ g ∧ Sln w' (some ⟨g, 0, none⟩) n (addSc l1 c l2) ∧ Below w.heap.size w w') := by
  have m1 := h1.out.sli.2.1
  have m2 := h2.out.sli.2.1
  rw [← h1.out.len] at m1
  rw [← h2.out.len] at m2
  obtain ⟨L, HL⟩ : ∃ L, Hid (addSc l1 c l2 = L) := ⟨_, rfl⟩
  obtain ⟨N, HN⟩ : ∃ N : Nat, Hid (N = max n1 n2) := ⟨_, rfl⟩
  have hLen : Hid (L.length = N) := by rw [← HL.out, HN.out, addSc_length, h1.out.len, h2.out.len]; exact rfl
  have hLb : Hid (∀ x ∈ L, x < 256) := by rw [← HL.out]; exact addSc_lt hc h1.out.lt
  have hLg : Hid (∀ i, L.getD i 0 = l1.getD i 0 ^^^ Gm.mul c (l2.getD i 0)) := by rw [← HL.out]; exact addSc_getD l1 c l2
  rw [HL.out]
  go_enter Tryd.func41, Tryd.ntmps41
  go_wp2
  go_loopw [7, 8] (fun tv ti wr => ∃ k : Nat, k ≤ N ∧ ti = .int .i64 k ∧ Hid (Gath w wr tv k L)) (fun _ ti _ => N - (intOf ti).toNat)
  case atStart => exact ⟨0, by omega, rfl, w.heap.size, 0, rfl, World.ownsRow_made w _ 0 (Nat.le_refl _) (by unfold maxLen; omega) rfl, (Below.refl _ _).alloc (Nat.le_refl _) _⟩
  case round =>
    obtain ⟨k, hk, rfl, HG⟩ := hrel
    obtain ⟨g, cap, rfl, own, bel⟩ := HG.out
    have hnn := HN.out
    by_cases hlt : k < N
    · have S1 := h1.out.below bel
      have S2 := h2.out.below bel
      have hg := hLg.out k
      have NX : ∀ x : Nat, x = L.getD k 0 → ∃ g' cap' w', (Builtin.append_ #[33, 33] 33 #[.slice (some ⟨g, 0, none⟩) k cap, .slice (some ⟨wr.heap.size, 0, none⟩) 1 1]).run Tryd.prog (wr.alloc (.cells #[.int .u8 (x : Int)] 5)) = .ok (.slice (some ⟨g', 0, none⟩) (k + 1) cap') w' ∧ Gath w w' (.slice (some ⟨g', 0, none⟩) (k + 1) cap') (k + 1) L := by
        intro x hx
        obtain ⟨g', cap', w', hrun, hown, hgr⟩ := app_one wr w.heap.size g k cap x (L.take k) own bel.size (by omega)
        refine ⟨g', cap', w', hrun, g', cap', rfl, ?_, ?_⟩
        · rw [take_succ_getD (by rw [hLen.out]; exact hlt), ← hx]; exact hown
        · exact (bel.alloc bel.size _).grown hgr (by have := bel.size; simp; omega) (fun j e => by simp at e; have := own_lt own; omega)
      by_cases ha : k < n1
      · obtain ⟨b1, o1, rfl, c1⟩ := row_at S1 ha
        obtain ⟨x, Hx⟩ : ∃ x, Hid (l1.getD k 0 = x) := ⟨_, rfl⟩
        have hx : x < 256 := by rw [← Hx.out]; exact getD_lt h1.out.lt k
        rw [Hx.out] at c1 hg
        by_cases hb : k < n2
        · obtain ⟨b2, o2, rfl, c2⟩ := row_at S2 hb
          obtain ⟨y, Hy⟩ : ∃ y, Hid (l2.getD k 0 = y) := ⟨_, rfl⟩
          have hy : y < 256 := by rw [← Hy.out]; exact getD_lt h2.out.lt k
          rw [Hy.out] at c2 hg
          have e1 := u8_xor_nat x (Gm.mul c y) hx (Gm.mul_lt c y hc)
          obtain ⟨g', cap', w', hrun, hG⟩ := NX (x ^^^ Gm.mul c y) hg.symm
          have AP : Hid ((Builtin.append_ #[33, 33] 33 #[.slice (some ⟨g, 0, none⟩) k cap, .slice (some ⟨wr.heap.size, 0, none⟩) 1 1]).run Tryd.prog (wr.alloc (.cells #[.int .u8 ((x ^^^ Gm.mul c y : Nat) : Int)] 5)) = .ok (.slice (some ⟨g', 0, none⟩) (k + 1) cap') w') := hrun
          have GG : Hid (Gath w w' (.slice (some ⟨g', 0, none⟩) (k + 1) cap') (k + 1) L) := hG
          clear hrun hG NX hg S1 S2 HG own bel hnn
          go_wp2_with (first | (go_at_call 29; refine (refmul_any c y hc hy _).mono ?_; rintro e w' ⟨rfl, rfl⟩) | (at_builtin; refine wpList_app (by rfl) (.tmp 43) (.tmp 45) (by rfl) (by rfl) (by rfl) (by rfl) AP ?_))
          go_roundw
          case rel => exact ⟨k + 1, by omega, by go_num, GG.out⟩
          case measure => simp [intOf]; omega
        · rw [getD_out (l := l2) (by rw [← h2.out.len]; omega), Gm.mul_zero, Nat.xor_zero] at hg
          obtain ⟨g', cap', w', hrun, hG⟩ := NX x hg.symm
          have AP : Hid ((Builtin.append_ #[33, 33] 33 #[.slice (some ⟨g, 0, none⟩) k cap, .slice (some ⟨wr.heap.size, 0, none⟩) 1 1]).run Tryd.prog (wr.alloc (.cells #[.int .u8 (x : Int)] 5)) = .ok (.slice (some ⟨g', 0, none⟩) (k + 1) cap') w') := hrun
          have GG : Hid (Gath w w' (.slice (some ⟨g', 0, none⟩) (k + 1) cap') (k + 1) L) := hG
          clear hrun hG NX hg S1 S2 HG own bel hnn
          go_wp2_with (at_builtin; refine wpList_app (by rfl) (.tmp 43) (.tmp 45) (by rfl) (by rfl) (by rfl) (by rfl) AP ?_)
          go_roundw
          case rel => exact ⟨k + 1, by omega, by go_num, GG.out⟩
          case measure => simp [intOf]; omega
      · have hb : k < n2 := by omega
        obtain ⟨b2, o2, rfl, c2⟩ := row_at S2 hb
        obtain ⟨y, Hy⟩ : ∃ y, Hid (l2.getD k 0 = y) := ⟨_, rfl⟩
        have hy : y < 256 := by rw [← Hy.out]; exact getD_lt h2.out.lt k
        rw [Hy.out, getD_out (l := l1) (by rw [← h1.out.len]; omega), Nat.zero_xor] at hg
        rw [Hy.out] at c2
        have e1 : bits BinOp.xor IntKind.u8 0 ((Gm.mul c y : Nat) : Int) = ((Gm.mul c y : Nat) : Int) := by
          have := u8_xor_nat 0 (Gm.mul c y) (by omega) (Gm.mul_lt c y hc)
          rw [Nat.zero_xor] at this
          exact this
        obtain ⟨g', cap', w', hrun, hG⟩ := NX (Gm.mul c y) hg.symm
        have AP : Hid ((Builtin.append_ #[33, 33] 33 #[.slice (some ⟨g, 0, none⟩) k cap, .slice (some ⟨wr.heap.size, 0, none⟩) 1 1]).run Tryd.prog (wr.alloc (.cells #[.int .u8 ((Gm.mul c y : Nat) : Int)] 5)) = .ok (.slice (some ⟨g', 0, none⟩) (k + 1) cap') w') := hrun
        have GG : Hid (Gath w w' (.slice (some ⟨g', 0, none⟩) (k + 1) cap') (k + 1) L) := hG
        clear hrun hG NX hg S1 S2 HG own bel hnn
        go_wp2_with (first | (go_at_call 29; refine (refmul_any c y hc hy _).mono ?_; rintro e w' ⟨rfl, rfl⟩) | (at_builtin; refine wpList_app (by rfl) (.tmp 43) (.tmp 45) (by rfl) (by rfl) (by rfl) (by rfl) AP ?_))
        go_roundw
        case rel => exact ⟨k + 1, by omega, by go_num, GG.out⟩
        case measure => simp [intOf]; omega
    · have e : k = N := by omega
      have FIN : Hid (w.heap.size ≤ g ∧ Sln wr (some ⟨g, 0, none⟩) k L ∧ Below w.heap.size w wr) := by
        have ht : L.take k = L := List.take_of_length_le (by rw [hLen.out]; omega)
        rw [ht] at own
        exact ⟨own_lt own, own_sln own hLb.out (by rw [hLen.out]; omega), bel⟩
      have n1' : ¬ k < n1 := by omega
      have n2' : ¬ k < n2 := by omega
      clear own bel HG hnn e
      go_wp2
      go_ret
      exact ⟨g, k, cap, rfl, FIN.out⟩
end Go.Proofs.YtokkjdgfhpocdaaDoor
