/- The catalog's copies: copyPiece (f80), copyTexts (f48), copyAll of no buckets (f64), copyCatalog of the empty one (f46); find among none (f49, f81). -/
import Derived.Test.YtfabnnbljkkihaaGreatDoorLe
import Derived.Laws.MakeOwn
namespace Go.Proofs.YtfabnnbljkkihaaGreatDoor
open Go.ChangeShapes Go.WideShapes Go.ChangeAt Go.RowKit
set_option maxRecDepth 20000
set_option linter.unusedVariables false
set_option linter.unusedSimpArgs false
/- a box of type t with A in it, and an empty one behind it -/
structure Bz (t : TypeId) (Z : Array Value) (w W : World) (g : Nat) (A : Array Value) : Prop where
  b : W.heap[g]? = some (.cells A t (0, 0))
  z : W.heap[g + 1]? = some (.cells Z t (0, 0))
  f : Below w.heap.size w W
  e : w.heap.size ≤ g
section
variable {t : TypeId} {Z : Array Value} {w W W' : World} {g : Nat} {A : Array Value}
theorem Bz.below (h : Bz t Z w W g A) (hb : Below W.heap.size W W') : Bz t Z w W' g A :=
  ⟨(hb.block g (Array.getElem?_eq_some_iff.1 h.b).1).trans h.b, (hb.block (g + 1) (Array.getElem?_eq_some_iff.1 h.z).1).trans h.z, h.f.trans (hb.mono h.f.size), h.e⟩
theorem Bz.cell (h : Bz t Z w W g A) {i : Nat} {v : Value} (hv : A[i]? = some v) : W.cell? ⟨g, i, none⟩ = some v := by simp [World.cell?, h.b, hv]
theorem Bz.frz (h : Bz t Z w W g A) (i : Nat) : W.frozen? ⟨g, i, none⟩ = false := by simp [World.frozen?, h.b]
theorem Bz.set (h : Bz t Z w W g A) {i : Nat} {v : Value} (hv : A[i]? = some v) : Bz t Z w (W.setCell ⟨g, i, none⟩ v) g A :=
  ⟨by rw [set_blkf h.b, set_arr hv], (Below.heap_setCell _ _ _ _ (show g + 1 ≠ g by omega)).trans h.z, h.f.setCell h.e _, h.e⟩
theorem Bz.put (h : Bz t Z w W g A) (i : Nat) (v : Value) : Bz t Z w (W.setCell ⟨g, i, none⟩ v) g (A.setIfInBounds i v) :=
  ⟨by rw [set_blkf h.b], (Below.heap_setCell _ _ _ _ (show g + 1 ≠ g by omega)).trans h.z, h.f.setCell h.e _, h.e⟩
theorem Bz.new (w : World) (t : TypeId) (A Z : Array Value) : Bz t Z w ((w.alloc (.cells A t)).alloc (.cells Z t)) w.heap.size A := by
  refine ⟨((alloc1 (w.alloc (.cells A t)) _).block w.heap.size (by simp)).trans (heap_alloc_new w _), ?_, alloc2 w _ _, Nat.le_refl _⟩
  have e : (w.alloc (.cells A t)).heap.size = w.heap.size + 1 := by simp
  rw [← e]
  exact heap_alloc_new _ _
end
theorem pieceZ : (Tryz.prog.info? 26).map (·.size) = some 5 := by kernel_rfl
set_option maxHeartbeats 1000000 in
theorem copyPiece_n (b0 b1 b2 sz : Int) (et : ByteArray) (w : World) (hs : et.size ≤ 281474976710656) :
    Calls Tryz.prog 80 #[.agg #[.int .i64 b0, .int .i64 b1, .int .i64 b2, .int .i64 sz, .string et]] w fun e w' => e = .returned (.agg #[.int .i64 b0, .int .i64 b1, .int .i64 b2, .int .i64 sz, .string et]) ∧ Hid (Below w.heap.size w w') := by
  obtain ⟨w1, Hw1⟩ : ∃ w1, Hid ((w.alloc (.cells #[.int .i64 b0, .int .i64 b1, .int .i64 b2, .int .i64 sz, .string et] 26)).alloc (.cells #[.int .i64 0, .int .i64 0, .int .i64 0, .int .i64 0, .string ⟨#[]⟩] 26) = w1) := ⟨_, rfl⟩
  obtain ⟨g, Hg⟩ : ∃ g, Hid (w.heap.size = g) := ⟨_, rfl⟩
  have S1 : Hid (Bz 26 #[.int .i64 0, .int .i64 0, .int .i64 0, .int .i64 0, .string ⟨#[]⟩] w w1 g #[.int .i64 b0, .int .i64 b1, .int .i64 b2, .int .i64 sz, .string et]) := by rw [← Hw1.out, ← Hg.out]; exact Bz.new _ _ _ _
  have q9 : w1.cell? ⟨g, 4, none⟩ = some (.string et) := S1.out.cell rfl
  go_enter Tryz.func80, Tryz.ntmps80
  go_upto_region 1 with (fail)
  rw [Hw1.out, Hg.out]
  clear Hw1
  go_upto_region 2 with (go_at_call 79; refine (clone_n et _ hs).mono ?_; rintro e w2 ⟨rfl, H2⟩; have q7 : w2.cell? ⟨g, 4, none⟩ = some (.string et) := (S1.out.below H2.out).cell rfl; have q8 := (S1.out.below H2.out).frz 4)
  have S2 : Hid (Bz 26 #[.int .i64 0, .int .i64 0, .int .i64 0, .int .i64 0, .string ⟨#[]⟩] w (w2.setCell ⟨g, 4, none⟩ (.string et)) g #[.int .i64 b0, .int .i64 b1, .int .i64 b2, .int .i64 sz, .string et]) := (S1.out.below H2.out).set rfl
  obtain ⟨V2, HV2⟩ : ∃ V, Hid (w2.setCell ⟨g, 4, none⟩ (.string et) = V) := ⟨_, rfl⟩
  rw [HV2.out] at S2 ⊢
  clear HV2 q9 q7 q8 H2
  obtain ⟨A, HA⟩ : ∃ A, Hid ((#[.int .i64 b0, .int .i64 b1, .int .i64 b2, .int .i64 sz, .string et] : Array Value) = A) := ⟨_, rfl⟩
  have a5 : (Tryz.prog.info? 26).map (·.size) = some A.size := by rw [← HA.out]; exact pieceZ
  have AA : Hid (A.all (·.oneCell') = true) := (show A.all (·.oneCell') = true by rw [← HA.out]; kernel_rfl)
  have a6 : Hid (A.size = 5) := (show A.size = 5 by rw [← HA.out]; rfl)
  rw [HA.out] at S2
  go_wp2_with (first
    | (refine wpList_load_row (by rfl) 26 (.tmp 1) (by rfl) g (by rfl) 26 A (0, 0) _ S2.out.b Tryz.underlying26 rfl a5 ?_)
    | (refine wpList_store_row (by rfl) 26 (.tmp 2) (.tmp 7) (by rfl) (g + 1) A (by rfl) (by rfl) 26 _ S2.out.z a5 (by rw [a6.out]; rfl) AA.out ?_))
  refine bodyPost_ret (results_cell_row Tryz.results80 _ _ (g + 1) 26 A (0, 0) _ (by rfl) (setRow_heap _ _ _ _ _ _ S2.out.z) Tryz.underlying26 rfl a5) rfl ?_
  exact ⟨by rw [← HA.out], below_setRow S2.out.f (by have := S2.out.e; omega) _⟩
set_option maxHeartbeats 4000000 in
theorem copyTexts_n {w : World} {A : Array Value} {x : Cx} (hA : Hid (A = (encX x).toArray)) (hT : Hid (x.cm.bu.size ≤ 281474976710656 ∧ x.cm.ke.size ≤ 281474976710656 ∧ x.cm.et.size ≤ 281474976710656)) :
    Calls Tryz.prog 48 #[.agg A] w fun e w' => e = .returned (.agg A) ∧ Hid (Below w.heap.size w w') := by
  have a18 : A.size = 18 := encX_sz hA.out
  have AA : Hid (A.all (·.oneCell') = true) := encX_all hA.out
  have A4 : Hid (A[4]? = some (.string x.cm.bu)) := by rw [hA.out]; rfl
  have A5 : Hid (A[5]? = some (.string x.cm.ke)) := by rw [hA.out]; rfl
  have A9 : Hid (A[9]? = some (.int .i64 x.cm.b0)) := by rw [hA.out]; rfl
  have A10 : Hid (A[10]? = some (.int .i64 x.cm.b1)) := by rw [hA.out]; rfl
  have A11 : Hid (A[11]? = some (.int .i64 x.cm.b2)) := by rw [hA.out]; rfl
  have A12 : Hid (A[12]? = some (.int .i64 x.cm.sz)) := by rw [hA.out]; rfl
  have A13 : Hid (A[13]? = some (.string x.cm.et)) := by rw [hA.out]; rfl
  obtain ⟨w1, Hw1⟩ : ∃ w1, Hid ((w.alloc (.cells A 29)).alloc (.cells #[.int .i64 0, .int .i64 0, .int .i64 0, .int .i64 0, .string ⟨#[]⟩, .string ⟨#[]⟩, .int .i64 0, .int .i64 0, .int .i64 0, .int .i64 0, .int .i64 0, .int .i64 0, .int .i64 0, .string ⟨#[]⟩, .int .i64 0, .slice none 0 0, .int .i64 0, .int .i64 0] 29) = w1) := ⟨_, rfl⟩
  obtain ⟨g, Hg⟩ : ∃ g, Hid (w.heap.size = g) := ⟨_, rfl⟩
  have S1 : Cs w w1 g A := by
    rw [← Hw1.out, ← Hg.out]
    have h := Bz.new w 29 A #[.int .i64 0, .int .i64 0, .int .i64 0, .int .i64 0, .string ⟨#[]⟩, .string ⟨#[]⟩, .int .i64 0, .int .i64 0, .int .i64 0, .int .i64 0, .int .i64 0, .int .i64 0, .int .i64 0, .string ⟨#[]⟩, .int .i64 0, .slice none 0 0, .int .i64 0, .int .i64 0]
    exact ⟨h.b, h.z, h.f, h.e⟩
  have K0 : Cs w w1.drew g A := ⟨S1.b, S1.z, S1.f.drew, S1.e⟩
  clear S1
  go_enter Tryz.func48, Tryz.ntmps48
  go_upto_region 1 with (fail)
  rw [Hw1.out, Hg.out]
  clear Hw1
  refine wp_region_till (S := fun L W => Cs w W g A) (by kernel_rfl) K0 (fun hS => ?_)
  clear K0
  refine till_take (i := 0) (v := .pointer (some ⟨g, 4, none⟩)) rfl (by kernel_rfl) (by kernel_rfl) (by kernel_rfl) (fun _ _ _ h => h) (fun L w => Iff.rfl) (Or.inl ⟨by rfl, fun w => by go_simp⟩) hS (fun hSb => ?_)
  simp only [List.getElem_toArray, List.getElem_cons_zero, List.getElem_cons_succ, Act.put, List.setIfInBounds_toArray, List.set_cons_zero, List.set_cons_succ]
  clear hS
  refine till_read (i := 1) (c := 2) (v := .string x.cm.bu) (T := fun W => Cs w W g A) rfl rfl (by kernel_rfl) (by kernel_rfl) (by kernel_rfl) (by kernel_rfl) (by kernel_rfl) (fun _ _ _ h => h) (fun L w => Iff.rfl) (fun L w h1 h2 => h2) (Or.inl ⟨by rfl, fun w h => by have q9 := h.cell A4.out; go_simp⟩) hSb (fun hS => ?_)
  simp only [List.getElem_toArray, List.getElem_cons_zero, List.getElem_cons_succ, Act.put, List.setIfInBounds_toArray, List.set_cons_zero, List.set_cons_succ]
  clear hSb
  refine till_take (i := 3) (v := .pointer (some ⟨g, 5, none⟩)) rfl (by kernel_rfl) (by kernel_rfl) (by kernel_rfl) (fun _ _ _ h => h) (fun L w => Iff.rfl) (Or.inl ⟨by rfl, fun w => by go_simp⟩) hS (fun hSb => ?_)
  simp only [List.getElem_toArray, List.getElem_cons_zero, List.getElem_cons_succ, Act.put, List.setIfInBounds_toArray, List.set_cons_zero, List.set_cons_succ]
  clear hS
  refine till_read (i := 4) (c := 5) (v := .string x.cm.ke) (T := fun W => Cs w W g A) rfl rfl (by kernel_rfl) (by kernel_rfl) (by kernel_rfl) (by kernel_rfl) (by kernel_rfl) (fun _ _ _ h => h) (fun L w => Iff.rfl) (fun L w h1 h2 => h2) (Or.inl ⟨by rfl, fun w h => by have q9 := h.cell A5.out; go_simp⟩) hSb (fun hS => ?_)
  simp only [List.getElem_toArray, List.getElem_cons_zero, List.getElem_cons_succ, Act.put, List.setIfInBounds_toArray, List.set_cons_zero, List.set_cons_succ]
  clear hSb
  refine till_one (i := 2) (by kernel_rfl) rfl (fun K hK => ?_)
  simp only [List.getElem_toArray, List.getElem_cons_zero, List.getElem_cons_succ]
  rw [if_pos (by rfl)]
  go_simp
  go_wp2_with (go_at_call 79; refine (clone_n x.cm.bu _ hT.out.1).mono ?_; rintro e w2 ⟨rfl, H2⟩)
  refine hK.out _ _ (hS.below H2.out) (fun hSb => ?_)
  clear hK K
  try simp only [List.getElem_toArray, List.getElem_cons_zero, List.getElem_cons_succ, Act.put, List.setIfInBounds_toArray, List.set_cons_zero, List.set_cons_succ]
  clear hS
  refine till_take (i := 6) (v := .pointer (some ⟨g, 4, none⟩)) rfl (by kernel_rfl) (by kernel_rfl) (by kernel_rfl) (fun _ _ _ h => h) (fun L w => Iff.rfl) (Or.inl ⟨by rfl, fun w => by go_simp⟩) hSb (fun hS => ?_)
  simp only [List.getElem_toArray, List.getElem_cons_zero, List.getElem_cons_succ, Act.put, List.setIfInBounds_toArray, List.set_cons_zero, List.set_cons_succ]
  clear hSb
  refine till_one (i := 5) (by kernel_rfl) rfl (fun K hK => ?_)
  simp only [List.getElem_toArray, List.getElem_cons_zero, List.getElem_cons_succ]
  rw [if_pos (by rfl)]
  go_simp
  go_wp2_with (go_at_call 79; refine (clone_n x.cm.ke _ hT.out.2.1).mono ?_; rintro e w3 ⟨rfl, H3⟩)
  refine hK.out _ _ (hS.below H3.out) (fun hSb => ?_)
  clear hK K
  try simp only [List.getElem_toArray, List.getElem_cons_zero, List.getElem_cons_succ, Act.put, List.setIfInBounds_toArray, List.set_cons_zero, List.set_cons_succ]
  clear hS
  refine till_one (i := 7) (by kernel_rfl) rfl (fun K hK => ?_)
  simp only [List.getElem_toArray, List.getElem_cons_zero, List.getElem_cons_succ]
  rw [if_pos (by rfl)]
  have q9 := hSb.cell A4.out
  have q8 := hSb.frz 4
  go_simp
  refine hK.out _ _ (hSb.set A4.out) (fun hS => ?_)
  clear hK K
  try simp only [List.getElem_toArray, List.getElem_cons_zero, List.getElem_cons_succ, Act.put, List.setIfInBounds_toArray, List.set_cons_zero, List.set_cons_succ]
  clear hSb
  refine till_take (i := 8) (v := .pointer (some ⟨g, 5, none⟩)) rfl (by kernel_rfl) (by kernel_rfl) (by kernel_rfl) (fun _ _ _ h => h) (fun L w => Iff.rfl) (Or.inl ⟨by rfl, fun w => by go_simp⟩) hS (fun hSb => ?_)
  simp only [List.getElem_toArray, List.getElem_cons_zero, List.getElem_cons_succ, Act.put, List.setIfInBounds_toArray, List.set_cons_zero, List.set_cons_succ]
  clear hS
  refine till_one (i := 9) (by kernel_rfl) rfl (fun K hK => ?_)
  simp only [List.getElem_toArray, List.getElem_cons_zero, List.getElem_cons_succ]
  rw [if_pos (by rfl)]
  have q9 := hSb.cell A5.out
  have q8 := hSb.frz 5
  go_simp
  refine hK.out _ _ (hSb.set A5.out) (fun hS => ?_)
  clear hK K
  try simp only [List.getElem_toArray, List.getElem_cons_zero, List.getElem_cons_succ, Act.put, List.setIfInBounds_toArray, List.set_cons_zero, List.set_cons_succ]
  clear hSb
  have S4 := hS
  refine till_done (by kernel_rfl) ?_ _
  clear hS
  show (Exit.then _ _) .normal _ _
  obtain ⟨V1, HV1⟩ : ∃ V, Hid ((w3.setCell ⟨g, 4, none⟩ (.string x.cm.bu)).setCell ⟨g, 5, none⟩ (.string x.cm.ke) = V) := ⟨_, rfl⟩
  rw [HV1.out] at S4 ⊢
  clear HV1 H2 H3
  have S5 : Hid (Cs w V1 g A) := S4
  clear S4
  have c1 := S5.out.cell A9.out
  have c2 := S5.out.cell A10.out
  have c3 := S5.out.cell A11.out
  have c4 := S5.out.cell A12.out
  have c5 := S5.out.cell A13.out
  go_upto_region 3 with (go_at_call 80; refine (copyPiece_n _ _ _ _ _ _ hT.out.2.2).mono ?_; rintro e w4 ⟨rfl, H4⟩; have S6 := S5.out.below H4.out; have d1 := S6.cell A9.out; have d2 := S6.cell A10.out; have d3 := S6.cell A11.out; have d4 := S6.cell A12.out; have d5 := S6.cell A13.out; have f1 := S6.frz 9; have f2 := S6.frz 10; have f3 := S6.frz 11; have f4 := S6.frz 12; have f5 := S6.frz 13)
  have S7 : Hid (Cs w (((((w4.setCell ⟨g, 9, none⟩ (.int .i64 x.cm.b0)).setCell ⟨g, 10, none⟩ (.int .i64 x.cm.b1)).setCell ⟨g, 11, none⟩ (.int .i64 x.cm.b2)).setCell ⟨g, 12, none⟩ (.int .i64 x.cm.sz)).setCell ⟨g, 13, none⟩ (.string x.cm.et)) g A) := ((((S6.set A9.out).set A10.out).set A11.out).set A12.out).set A13.out
  obtain ⟨V2, HV2⟩ : ∃ V, Hid (((((w4.setCell ⟨g, 9, none⟩ (.int .i64 x.cm.b0)).setCell ⟨g, 10, none⟩ (.int .i64 x.cm.b1)).setCell ⟨g, 11, none⟩ (.int .i64 x.cm.b2)).setCell ⟨g, 12, none⟩ (.int .i64 x.cm.sz)).setCell ⟨g, 13, none⟩ (.string x.cm.et) = V) := ⟨_, rfl⟩
  rw [HV2.out] at S7 ⊢
  clear HV2 c1 c2 c3 c4 c5 d1 d2 d3 d4 d5 f1 f2 f3 f4 f5 S6 H4 S5
  go_wp2_with (first
    | (refine wpList_load_row (by rfl) 29 (.tmp 1) (by rfl) g (by rfl) 29 A (0, 0) _ S7.out.b Tryz.underlying29 rfl (info29 a18) ?_)
    | (refine wpList_store_row (by rfl) 29 (.tmp 2) (.tmp 15) (by rfl) (g + 1) A (by rfl) (by rfl) 29 _ S7.out.z (info29 a18) (by rw [a18]; rfl) AA.out ?_))
  refine bodyPost_ret (results_cell_row Tryz.results48 _ _ (g + 1) 29 A (0, 0) _ (by rfl) (setRow_heap _ _ _ _ _ _ S7.out.z) Tryz.underlying29 rfl (info29 a18)) rfl ?_
  exact ⟨rfl, below_setRow S7.out.f (by have := S7.out.e; omega) A⟩
theorem info65 : (Tryz.prog.info? 65).map (fun i => (i.zero, i.size, i.bytes)) = some (some (.agg #[.string ⟨#[]⟩, .int .i64 0, .int .i64 0, .slice none 0 0, .slice none 0 0]), 5, 80) := by kernel_rfl
/- copyAll of no buckets -/
theorem copyAll0 (w : World) : Calls Tryz.prog 64 #[.slice none 0 0, .func (.func 51) #[] #[]] w fun e w' => e = .returned (.slice (some ⟨w.heap.size, 0, none⟩) 0 0) ∧ Hid (w'.ownsRow w.heap.size 65 5 (.slice (some ⟨w.heap.size, 0, none⟩) 0 0) 0 [] ∧ Below w.heap.size w w') := by
  obtain ⟨w1, MK, O1⟩ : ∃ w1, Hid ((Instr.makeSlice 56 (.int .i64 0) (.int .i64 0)).run Tryz.prog w = .ok (.slice (some ⟨w.heap.size, 0, none⟩) 0 0) w1) ∧ Hid (w1.ownsRow w.heap.size 65 5 (.slice (some ⟨w.heap.size, 0, none⟩) 0 0) 0 [] ∧ Below w.heap.size w w1) := by
    obtain ⟨i, hi, hz0, hz1, hz2⟩ := info_parts info65
    obtain ⟨w1, h1, h2, h3⟩ := run_make_own (P := Tryz.prog) (w := w) w.heap.size 56 65 i _ 5 Tryz.underlying56 hi hz0 hz1 .i64 .i64 0 (by omega) (by unfold maxLen; omega) (Nat.le_refl _)
    exact ⟨w1, h1, h2, grown_below h3 (Nat.le_refl _) (fun q e => by cases e)⟩
  have mk := MK.out
  go_enter Tryz.func64, Tryz.ntmps64
  go_wp2
  clear mk MK
  obtain ⟨g0, Hg0⟩ : ∃ g, Hid (w.heap.size = g) := ⟨_, rfl⟩
  rw [Hg0.out]
  go_loopw [5, 13] (fun tl ti wr => tl = .slice (some ⟨g0, 0, none⟩) 0 0 ∧ ti = .int .i64 0 ∧ wr = w1) (fun _ ti _ => 0)
  case atStart => exact ⟨rfl, rfl, rfl⟩
  case round =>
    obtain ⟨rfl, rfl, rfl⟩ := hrel
    go_wp2
    go_ret
    rw [← Hg0.out]
    exact ⟨rfl, O1.out⟩
end Go.Proofs.YtfabnnbljkkihaaGreatDoor
