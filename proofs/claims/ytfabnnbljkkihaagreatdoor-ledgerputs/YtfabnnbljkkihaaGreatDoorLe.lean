/- A command's copy: copiedCommand (f60). -/
import Derived.Test.YtfabnnbljkkihaaGreatDoorLc
import Derived.Laws.Rows
namespace Go.Proofs.YtfabnnbljkkihaaGreatDoor
open Go.ChangeShapes Go.WideShapes Go.ChangeAt Go.RowKit
set_option maxRecDepth 20000
set_option linter.unusedVariables false
set_option linter.unusedSimpArgs false
/- a box with a command in it, and an empty one behind it -/
structure Cs (w W : World) (g : Nat) (A : Array Value) : Prop where
  b : W.heap[g]? = some (.cells A 29 (0, 0))
  z : W.heap[g + 1]? = some (.cells #[.int .i64 0, .int .i64 0, .int .i64 0, .int .i64 0, .string ⟨#[]⟩, .string ⟨#[]⟩, .int .i64 0, .int .i64 0, .int .i64 0, .int .i64 0, .int .i64 0, .int .i64 0, .int .i64 0, .string ⟨#[]⟩, .int .i64 0, .slice none 0 0, .int .i64 0, .int .i64 0] 29 (0, 0))
  f : Below w.heap.size w W
  e : w.heap.size ≤ g
theorem Cs.below {w W W' : World} {g : Nat} {A : Array Value} (h : Cs w W g A) (hb : Below W.heap.size W W') : Cs w W' g A :=
  ⟨(hb.block g (Array.getElem?_eq_some_iff.1 h.b).1).trans h.b, (hb.block (g + 1) (Array.getElem?_eq_some_iff.1 h.z).1).trans h.z, h.f.trans (hb.mono h.f.size), h.e⟩
theorem Cs.cell {w W : World} {g : Nat} {A : Array Value} (h : Cs w W g A) {i : Nat} {v : Value} (hv : A[i]? = some v) : W.cell? ⟨g, i, none⟩ = some v := by simp [World.cell?, h.b, hv]
theorem Cs.frz {w W : World} {g : Nat} {A : Array Value} (h : Cs w W g A) (i : Nat) : W.frozen? ⟨g, i, none⟩ = false := by simp [World.frozen?, h.b]
theorem set_arr {A : Array Value} {i : Nat} {v : Value} (hv : A[i]? = some v) : A.setIfInBounds i v = A := by
  obtain ⟨h1, h2⟩ := Array.getElem?_eq_some_iff.1 hv
  apply Array.ext
  · simp
  · intro j h3 h4
    rw [Array.getElem_setIfInBounds]
    split
    · rename_i e
      subst e
      exact h2.symm
    · rfl
theorem Cs.set {w W : World} {g : Nat} {A : Array Value} (h : Cs w W g A) {i : Nat} {v : Value} (hv : A[i]? = some v) : Cs w (W.setCell ⟨g, i, none⟩ v) g A :=
  ⟨by rw [set_blkf h.b, set_arr hv], (Below.heap_setCell _ _ _ _ (show g + 1 ≠ g by omega)).trans h.z, h.f.setCell h.e _, h.e⟩
theorem Cs.put {w W : World} {g : Nat} {A : Array Value} (h : Cs w W g A) (i : Nat) (v : Value) : Cs w (W.setCell ⟨g, i, none⟩ v) g (A.setIfInBounds i v) :=
  ⟨by rw [set_blkf h.b], (Below.heap_setCell _ _ _ _ (show g + 1 ≠ g by omega)).trans h.z, h.f.setCell h.e _, h.e⟩
theorem Cs.keep {w W W' : World} {g : Nat} {A : Array Value} (h : Cs w W g A) (hb : Below (g + 2) W W') : Cs w W' g A :=
  ⟨(hb.block g (by omega)).trans h.b, (hb.block (g + 1) (by omega)).trans h.z, h.f.trans (hb.mono (by have := h.e; omega)), h.e⟩
set_option maxHeartbeats 4000000 in
theorem copyCmd_n {w : World} {lo : Nat} {A : Array Value} {x : Cx} (hA : Hid (A = (encX x).toArray)) (hP : Hid (Irow w lo x.pa x.pn x.cm.ps)) (hz : Hid (x.pa = none → x.pc = 0)) (hT : Hid (x.cm.bu.size ≤ 281474976710656 ∧ x.cm.ke.size ≤ 281474976710656 ∧ x.cm.et.size ≤ 281474976710656)) :
    Calls Tryz.prog 60 #[.agg A] w fun e w' => ∃ B, e = .returned (.agg B) ∧ Hid (∃ y : Cx, B = (encX y).toArray ∧ y.cm = x.cm ∧ w'.ownsRow w.heap.size 3 1 (.slice y.pa y.pn y.pc) y.pn (y.cm.ps.map iv) ∧ y.pn ≤ 17592186043904 ∧ Below w.heap.size w w') := by
  have a18 : A.size = 18 := encX_sz hA.out
  have A4 : Hid (A[4]? = some (.string x.cm.bu)) := by rw [hA.out]; rfl
  have A5 : Hid (A[5]? = some (.string x.cm.ke)) := by rw [hA.out]; rfl
  have A13 : Hid (A[13]? = some (.string x.cm.et)) := by rw [hA.out]; rfl
  have A15 : Hid (A[15]? = some (.slice x.pa x.pn x.pc)) := by rw [hA.out]; rfl
  obtain ⟨w1, Hw1⟩ : ∃ w1, Hid ((w.alloc (.cells A 29)).alloc (.cells #[.int .i64 0, .int .i64 0, .int .i64 0, .int .i64 0, .string ⟨#[]⟩, .string ⟨#[]⟩, .int .i64 0, .int .i64 0, .int .i64 0, .int .i64 0, .int .i64 0, .int .i64 0, .int .i64 0, .string ⟨#[]⟩, .int .i64 0, .slice none 0 0, .int .i64 0, .int .i64 0] 29) = w1) := ⟨_, rfl⟩
  obtain ⟨g, Hg⟩ : ∃ g, Hid (w.heap.size = g) := ⟨_, rfl⟩
  have S1 : Cs w w1 g A := by
    rw [← Hw1.out, ← Hg.out]
    refine ⟨((alloc1 (w.alloc (.cells A 29)) _).block w.heap.size (by simp)).trans (heap_alloc_new w _), ?_, alloc2 w _ _, Nat.le_refl _⟩
    have e : (w.alloc (.cells A 29)).heap.size = w.heap.size + 1 := by simp
    rw [← e]
    exact heap_alloc_new _ _
  have K0 : Cs w w1.drew g A := ⟨S1.b, S1.z, S1.f.drew, S1.e⟩
  clear S1
  go_enter Tryz.func60, Tryz.ntmps60
  go_upto_region 1 with (fail)
  rw [Hw1.out, Hg.out]
  clear Hw1
  refine wp_region_till (S := fun L W => Cs w W g A) (by kernel_rfl) K0 (fun hS => ?_)
  clear K0
  refine till_take (i := 0) (v := .pointer (some ⟨g, 4, none⟩)) rfl (by kernel_rfl) (by kernel_rfl) (by kernel_rfl) (fun _ _ _ h => h) (fun L w => Iff.rfl) (Or.inl ⟨by rfl, fun w => by go_simp⟩) hS (fun hSb => ?_)
  simp only [List.getElem_toArray, List.getElem_cons_zero, List.getElem_cons_succ, Act.put, List.setIfInBounds_toArray, List.set_cons_zero, List.set_cons_succ]
  clear hS
  refine till_read (i := 1) (c := 2) (v := .string x.cm.bu) (T := fun W => Cs w W g A) rfl rfl (by kernel_rfl) (by kernel_rfl) (by kernel_rfl) (by kernel_rfl) (by kernel_rfl) (fun _ _ _ h => h) (fun L w => Iff.rfl) (fun L w h1 h2 => h2) (Or.inl ⟨by rfl, fun w h => by have q9 := h.cell A4.out; go_simp⟩) hSb (fun hS => ?_)
  simp only [List.getElem_toArray, List.getElem_cons_zero, List.getElem_cons_succ, Act.put, List.setIfInBounds_toArray, List.set_cons_zero, List.set_cons_succ]
  clear hSb
  refine till_take (i := 3) (v := .pointer (some ⟨g, 5, none⟩)) rfl (by kernel_rfl) (by kernel_rfl) (by kernel_rfl) (fun _ _ _ h => h) (fun L w => Iff.rfl) (Or.inl ⟨by rfl, fun w => by go_simp⟩) hS (fun hSb => ?_)
  simp only [List.getElem_toArray, List.getElem_cons_zero, List.getElem_cons_succ, Act.put, List.setIfInBounds_toArray, List.set_cons_zero, List.set_cons_succ]
  clear hS
  refine till_read (i := 4) (c := 5) (v := .string x.cm.ke) (T := fun W => Cs w W g A) rfl rfl (by kernel_rfl) (by kernel_rfl) (by kernel_rfl) (by kernel_rfl) (by kernel_rfl) (fun _ _ _ h => h) (fun L w => Iff.rfl) (fun L w h1 h2 => h2) (Or.inl ⟨by rfl, fun w h => by have q9 := h.cell A5.out; go_simp⟩) hSb (fun hS => ?_)
  simp only [List.getElem_toArray, List.getElem_cons_zero, List.getElem_cons_succ, Act.put, List.setIfInBounds_toArray, List.set_cons_zero, List.set_cons_succ]
  clear hSb
  refine till_one (i := 2) (by kernel_rfl) rfl (fun K hK => ?_)
  simp only [List.getElem_toArray, List.getElem_cons_zero, List.getElem_cons_succ]
  rw [if_pos (by rfl)]
  go_simp
  go_wp2_with (go_at_call 79; refine (clone_n x.cm.bu _ hT.out.1).mono ?_; rintro e w2 ⟨rfl, H2⟩)
  refine hK.out _ _ (hS.below H2.out) (fun hSb => ?_)
  clear hK K
  try simp only [List.getElem_toArray, List.getElem_cons_zero, List.getElem_cons_succ, Act.put, List.setIfInBounds_toArray, List.set_cons_zero, List.set_cons_succ]
  clear hS
  refine till_take (i := 6) (v := .pointer (some ⟨g, 4, none⟩)) rfl (by kernel_rfl) (by kernel_rfl) (by kernel_rfl) (fun _ _ _ h => h) (fun L w => Iff.rfl) (Or.inl ⟨by rfl, fun w => by go_simp⟩) hSb (fun hS => ?_)
  simp only [List.getElem_toArray, List.getElem_cons_zero, List.getElem_cons_succ, Act.put, List.setIfInBounds_toArray, List.set_cons_zero, List.set_cons_succ]
  clear hSb
  refine till_one (i := 5) (by kernel_rfl) rfl (fun K hK => ?_)
  simp only [List.getElem_toArray, List.getElem_cons_zero, List.getElem_cons_succ]
  rw [if_pos (by rfl)]
  go_simp
  go_wp2_with (go_at_call 79; refine (clone_n x.cm.ke _ hT.out.2.1).mono ?_; rintro e w3 ⟨rfl, H3⟩)
  refine hK.out _ _ (hS.below H3.out) (fun hSb => ?_)
  clear hK K
  try simp only [List.getElem_toArray, List.getElem_cons_zero, List.getElem_cons_succ, Act.put, List.setIfInBounds_toArray, List.set_cons_zero, List.set_cons_succ]
  clear hS
  refine till_one (i := 7) (by kernel_rfl) rfl (fun K hK => ?_)
  simp only [List.getElem_toArray, List.getElem_cons_zero, List.getElem_cons_succ]
  rw [if_pos (by rfl)]
  have q9 := hSb.cell A4.out
  have q8 := hSb.frz 4
  go_simp
  refine hK.out _ _ (hSb.set A4.out) (fun hS => ?_)
  clear hK K
  try simp only [List.getElem_toArray, List.getElem_cons_zero, List.getElem_cons_succ, Act.put, List.setIfInBounds_toArray, List.set_cons_zero, List.set_cons_succ]
  clear hSb
  refine till_take (i := 8) (v := .pointer (some ⟨g, 5, none⟩)) rfl (by kernel_rfl) (by kernel_rfl) (by kernel_rfl) (fun _ _ _ h => h) (fun L w => Iff.rfl) (Or.inl ⟨by rfl, fun w => by go_simp⟩) hS (fun hSb => ?_)
  simp only [List.getElem_toArray, List.getElem_cons_zero, List.getElem_cons_succ, Act.put, List.setIfInBounds_toArray, List.set_cons_zero, List.set_cons_succ]
  clear hS
  refine till_one (i := 9) (by kernel_rfl) rfl (fun K hK => ?_)
  simp only [List.getElem_toArray, List.getElem_cons_zero, List.getElem_cons_succ]
  rw [if_pos (by rfl)]
  have q9 := hSb.cell A5.out
  have q8 := hSb.frz 5
  go_simp
  refine hK.out _ _ (hSb.set A5.out) (fun hS => ?_)
  clear hK K
  try simp only [List.getElem_toArray, List.getElem_cons_zero, List.getElem_cons_succ, Act.put, List.setIfInBounds_toArray, List.set_cons_zero, List.set_cons_succ]
  clear hSb
  have S4 := hS
  refine till_done (by kernel_rfl) ?_ _
  clear hS
  show (Exit.then _ _) .normal _ _
  obtain ⟨V1, HV1⟩ : ∃ V, Hid ((w3.setCell ⟨g, 4, none⟩ (.string x.cm.bu)).setCell ⟨g, 5, none⟩ (.string x.cm.ke) = V) := ⟨_, rfl⟩
  rw [HV1.out] at S4 ⊢
  clear HV1 H2 H3
  have S5 : Hid (Cs w V1 g A) := S4
  clear S4
  have q9 := S5.out.cell A13.out
  go_upto_region 3 with (go_at_call 79; refine (clone_n x.cm.et _ hT.out.2.2).mono ?_; rintro e w4 ⟨rfl, H4⟩; have q7 := (S5.out.below H4.out).cell A13.out; have q8 := (S5.out.below H4.out).frz 13; have S6 : Hid (Cs w (w4.setCell ⟨g, 13, none⟩ (.string x.cm.et)) g A) := (S5.out.below H4.out).set A13.out)
  clear q9 q7 q8
  obtain ⟨V2, HV2⟩ : ∃ V, Hid (w4.setCell ⟨g, 13, none⟩ (.string x.cm.et) = V) := ⟨_, rfl⟩
  rw [HV2.out] at S6 ⊢
  clear HV2 H4
  have P2 : Irow V2 lo x.pa x.pn x.cm.ps := hP.out.below S6.out.f
  have s2 : g + 2 ≤ V2.heap.size := (Array.getElem?_eq_some_iff.1 S6.out.z).1
  obtain ⟨a3, c3, w5, AQ0, OQ0, GQ0⟩ := app_int (l0 := []) (v := .slice none 0 0) (m := 0) (World.ownsRow_nil V2 (g + 2) 3 1) P2 hz.out (by have := P2.sz; omega) s2
  rw [Nat.zero_add] at AQ0 OQ0
  rw [List.nil_append] at OQ0
  have AQ : Hid ((Builtin.append_ #[27, 27] 27 #[.slice none 0 0, .slice x.pa x.pn x.pc]).run Tryz.prog V2 = .ok (.slice a3 x.pn c3) w5) := AQ0
  have B5 : Hid (Below (g + 2) V2 w5) := grown_below GQ0 s2 (fun q e => by cases e)
  have S7 : Hid (Cs w w5 g A) := S6.out.keep B5.out
  have OQ : Hid (w5.ownsRow (g + 2) 3 1 (.slice a3 x.pn c3) x.pn (x.cm.ps.map iv)) := OQ0
  have PZ : Hid (x.pn ≤ 17592186043904) := P2.sz
  have q9 := S6.out.cell A15.out
  have q7 := S7.out.cell A15.out
  have q8 := S7.out.frz 15
  clear AQ0 OQ0 GQ0 P2 s2
  go_upto_region 4 with (at_builtin; refine wpList_appt (by rfl) (.const (.slice none 0 0)) (.tmp 18) (by rfl) (by rfl) (by rfl) (by rfl) AQ ?_)
  clear q9 q7 q8 AQ
  obtain ⟨B, HB⟩ : ∃ B, Hid (A.setIfInBounds 15 (.slice a3 x.pn c3) = B) := ⟨_, rfl⟩
  have S8 : Hid (Cs w (w5.setCell ⟨g, 15, none⟩ (.slice a3 x.pn c3)) g B) := by rw [← HB.out]; exact S7.out.put 15 _
  have OW : Hid ((w5.setCell ⟨g, 15, none⟩ (.slice a3 x.pn c3)).ownsRow (g + 2) 3 1 (.slice a3 x.pn c3) x.pn (x.cm.ps.map iv)) := rown_bel OQ.out (fun q e => Below.heap_setCell _ _ _ _ (show q ≠ g by have := (OQ.out.lt q e).1; omega))
  have BE : Hid (B = (encX { x with pa := a3, pc := c3 }).toArray) := (show B = (encX { x with pa := a3, pc := c3 }).toArray by rw [← HB.out, hA.out, set15])
  obtain ⟨V3, HV3⟩ : ∃ V, Hid (w5.setCell ⟨g, 15, none⟩ (.slice a3 x.pn c3) = V) := ⟨_, rfl⟩
  rw [HV3.out] at S8 OW ⊢
  clear HV3 HB S7 OQ B5 S6
  have b18 : B.size = 18 := encX_sz BE.out
  have BA : Hid (B.all (·.oneCell') = true) := encX_all BE.out
  go_wp2_with (first
    | (refine wpList_load_row (by rfl) 29 (.tmp 1) (by rfl) g (by rfl) 29 B (0, 0) _ S8.out.b Tryz.underlying29 rfl (info29 b18) ?_)
    | (refine wpList_store_row (by rfl) 29 (.tmp 2) (.tmp 21) (by rfl) (g + 1) B (by rfl) (by rfl) 29 _ S8.out.z (info29 b18) (by rw [b18]; rfl) BA.out ?_))
  refine bodyPost_ret (results_cell_row Tryz.results60 _ _ (g + 1) 29 B (0, 0) _ (by rfl) (setRow_heap _ _ _ _ _ _ S8.out.z) Tryz.underlying29 rfl (info29 b18)) rfl ?_
  refine ⟨B, rfl, { x with pa := a3, pc := c3 }, BE.out, rfl, ?_, PZ.out, below_setRow S8.out.f (by have := S8.out.e; omega) B⟩
  exact rown_mono (rown_bel OW.out (fun q e => setRow_other _ _ _ _ (by have := (OW.out.lt q e).1; omega))) (by have := S8.out.e; omega)
end Go.Proofs.YtfabnnbljkkihaaGreatDoor
