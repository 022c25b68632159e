/- Apply (f25), by the contracts of copyCatalog and change. -/
import Derived.Test.YtfabnnbljkkihaaGreatDoorKi
import Derived.Test.YtfabnnbljkkihaaGreatDoorLj
namespace Go.Proofs.YtfabnnbljkkihaaGreatDoor
open Go.ChangeShapes Go.WideShapes Go.ChangeAt Go.RowKit
set_option maxRecDepth 20000
set_option linter.unusedVariables false
set_option linter.unusedSimpArgs false
/- a load of a whole block in a region that draws -/
theorem yl_any {ops : Array Oper} {S : World → Prop} {op : Oper} {a : Act} {A : Array Value} {g : Nat} {x : Operand} {t : TypeId} (hw : Region.wanted op (yielded ops a.tmps) = true) (ho : op.op = .load t x) (hx : a.eval x = .pointer (some ⟨g, 0, none⟩)) (hS : ∀ W, S W → (loadVar t ⟨g, 0, none⟩).run Tryz.prog W = .ok (.agg A) W) : YieldsIf Tryz.prog ops S op (.agg A) a :=
  .inl ⟨hw, fun W hW => by
    unfold execOp
    simp only [ho, hx, Instr.loadAt, Instr.sureAddr, Sem.run_bind, Sem.run_pure, Result.andThen_ok, hS W hW]⟩
theorem four_new (w : World) (a b c d : Obj) : (((((w.alloc a).alloc b).alloc c).alloc d).heap[w.heap.size]? = some a) ∧ (((((w.alloc a).alloc b).alloc c).alloc d).heap[w.heap.size + 1]? = some b) ∧ (((((w.alloc a).alloc b).alloc c).alloc d).heap[w.heap.size + 2]? = some c) ∧ (((((w.alloc a).alloc b).alloc c).alloc d).heap[w.heap.size + 3]? = some d) := by
  have e1 : (w.alloc a).heap.size = w.heap.size + 1 := by simp
  have e2 : ((w.alloc a).alloc b).heap.size = w.heap.size + 2 := by simp
  have e3 : (((w.alloc a).alloc b).alloc c).heap.size = w.heap.size + 3 := by simp
  have b2 := alloc1 (w.alloc a) b
  have b3 := alloc1 ((w.alloc a).alloc b) c
  have b4 := alloc1 (((w.alloc a).alloc b).alloc c) d
  refine ⟨(b4.block _ (by omega)).trans ((b3.block _ (by omega)).trans ((b2.block _ (by omega)).trans (heap_alloc_new w a))), (b4.block _ (by omega)).trans ((b3.block _ (by omega)).trans ?_), (b4.block _ (by omega)).trans ?_, ?_⟩
  · rw [← e1]; exact heap_alloc_new _ _
  · rw [← e2]; exact heap_alloc_new _ _
  · rw [← e3]; exact heap_alloc_new _ _
structure ApS (W : World) (g gc g7 : Nat) (C R : Array Value) : Prop where
  c : W.heap[gc]? = some (.cells C 58 (0, 0))
  r : W.heap[g7]? = some (.cells R 51 (0, 0))
  y : ∃ C4, W.heap[g + 2]? = some (.cells C4 58 (0, 0)) ∧ 2 = C4.size
  z : ∃ R4, W.heap[g + 3]? = some (.cells R4 51 (0, 0)) ∧ 2 = R4.size
  n : gc ≠ g + 2 ∧ g7 ≠ g + 3
theorem ApS.sy {W : World} {g gc g7 : Nat} {C R : Array Value} (h : ApS W g gc g7 C R) (hc : C.size = 2) : ApS (W.setRow (g + 2) C) g gc g7 C R := by
  obtain ⟨C4, k4, z4⟩ := h.y
  obtain ⟨R4, k5, z5⟩ := h.z
  refine ⟨(setRow_other _ _ _ _ h.n.1).trans h.c, ?_, ⟨C, setRow_heap _ _ _ _ _ _ k4, hc.symm⟩, ⟨R4, (setRow_other _ _ _ _ (by omega)).trans k5, z5⟩, h.n⟩
  refine (setRow_other _ _ _ _ (fun e => ?_)).trans h.r
  have h1 := h.r
  rw [e, k4] at h1
  simp at h1
theorem ApS.sz {W : World} {g gc g7 : Nat} {C R : Array Value} (h : ApS W g gc g7 C R) (hr : R.size = 2) : ApS (W.setRow (g + 3) R) g gc g7 C R := by
  obtain ⟨C4, k4, z4⟩ := h.y
  obtain ⟨R4, k5, z5⟩ := h.z
  refine ⟨?_, (setRow_other _ _ _ _ h.n.2).trans h.r, ⟨C4, (setRow_other _ _ _ _ (by omega)).trans k4, z4⟩, ⟨R, setRow_heap _ _ _ _ _ _ k5, hr.symm⟩, h.n⟩
  refine (setRow_other _ _ _ _ (fun e => ?_)).trans h.c
  have h1 := h.c
  rw [e, k5] at h1
  simp at h1
theorem res25 (tmps : Array Value) (w : World) (g4 g5 : Nat) (C R : Array Value) (hp4 : tmps[4]?.getD undef = .pointer (some ⟨g4, 0, none⟩)) (hp5 : tmps[5]?.getD undef = .pointer (some ⟨g5, 0, none⟩)) (h4 : w.heap[g4]? = some (.cells C 58 (0, 0))) (h5 : w.heap[g5]? = some (.cells R 51 (0, 0))) (c2 : (Tryz.prog.info? 58).map (·.size) = some C.size) (r2 : (Tryz.prog.info? 51).map (·.size) = some R.size) : (results Tryz.f25 tmps).run Tryz.prog w = .ok (.tuple #[.agg C, .agg R]) w := by
  simp [results, Tryz.results25, hp4, hp5, asAddr, run_loadVar_row w g4 58 58 C (0, 0) _ h4 Tryz.underlying58 rfl c2, run_loadVar_row w g5 51 51 R (0, 0) _ h5 Tryz.underlying51 rfl r2]
/- an array that may stand in a box: n values of one cell each -/
def Arr (n : Nat) (A : Array Value) : Prop := A.size = n ∧ A.all (·.oneCell') = true
set_option maxHeartbeats 8000000 in
theorem apply_shell {w : World} {A C0 : Array Value} {x : Cx} {P : World → Array Value → Prop} {Q : World → Array Value → Array Value → Prop} (hA : Hid (A = (encX x).toArray))
    (hT : Hid (x.cm.bu.size ≤ 281474976710656 ∧ x.cm.ke.size ≤ 281474976710656 ∧ x.cm.et.size ≤ 281474976710656)) (h0 : Hid (Arr 2 C0))
    (s1 : ∀ W W' C, P W C → Below W.heap.size W W' → P W' C)
    (s2 : ∀ W W' C R, Q W C R → (∀ q, w.heap.size + 4 ≤ q → q < W.heap.size → W'.heap[q]? = W.heap[q]?) → W.heap.size ≤ W'.heap.size → Q W' C R)
    (h46 : ∀ W, Below w.heap.size w W → W.heap.size = w.heap.size + 4 → Calls Tryz.prog 46 #[.agg C0] W fun e w' => ∃ C1, e = .returned (.agg C1) ∧ Hid (Arr 2 C1 ∧ P w' C1 ∧ Below W.heap.size W w'))
    (h47 : ∀ W gc C1, w.heap.size + 4 ≤ gc → Hid (W.heap[gc]? = some (.cells C1 58 (0, 0))) → Hid (P W C1) → Below w.heap.size w W → w.heap.size + 4 ≤ W.heap.size → Calls Tryz.prog 47 #[.pointer (some ⟨gc, 0, none⟩), .agg A] W fun e w' => ∃ R, e = .returned (.agg R) ∧ Hid (Arr 2 R ∧ ∃ C2, w'.heap[gc]? = some (.cells C2 58 (0, 0)) ∧ Arr 2 C2 ∧ Q w' C2 R ∧ Below (w.heap.size + 4) W w')) :
    Calls Tryz.prog 25 #[.agg C0, .agg A] w fun e w' => ∃ C R, e = .returned (.tuple #[.agg C, .agg R]) ∧ Hid (Q w' C R ∧ Below w.heap.size w w') := by
  have a18 : A.size = 18 := encX_sz hA.out
  obtain ⟨w1, Hw1⟩ : ∃ w1, Hid ((((w.alloc (.cells C0 58)).alloc (.cells A 29)).alloc (.cells #[.slice none 0 0, .slice none 0 0] 58)).alloc (.cells #[.int .i64 0, .string ⟨#[]⟩] 51) = w1) := ⟨_, rfl⟩
  obtain ⟨g, Hg⟩ : ∃ g, Hid (w.heap.size = g) := ⟨_, rfl⟩
  have B1 : Hid (Below w.heap.size w w1) := by rw [← Hw1.out]; exact (((alloc1 w _).alloc (by simp) _).alloc (by simp; omega) _).alloc (by simp; omega) _
  have z1 : Hid (w1.heap.size = g + 4) := by rw [← Hw1.out, ← Hg.out]; show _ = _; simp
  have k1 : Hid (w1.heap[g]? = some (.cells C0 58 (0, 0)) ∧ w1.heap[g + 1]? = some (.cells A 29 (0, 0)) ∧ w1.heap[g + 2]? = some (.cells #[.slice none 0 0, .slice none 0 0] 58 (0, 0)) ∧ w1.heap[g + 3]? = some (.cells #[.int .i64 0, .string ⟨#[]⟩] 51 (0, 0))) := by
    rw [← Hw1.out, ← Hg.out]
    exact four_new w _ _ _ _
  have S1 : Hid _ := s1
  have S2 : Hid _ := s2
  have H46 : Hid _ := h46
  have H47 : Hid _ := h47
  clear s1 s2 h46 h47
  have c0 : (Tryz.prog.info? 58).map (·.size) = some C0.size := by rw [h0.out.1]; exact inz58
  go_enter Tryz.func25, Tryz.ntmps25
  go_upto_region 1 with (fail)
  rw [Hw1.out, Hg.out]
  clear Hw1
  go_upto_region 2 with (first
    | (refine wpList_load_row (by rfl) 58 (.tmp 2) (by rfl) g (by rfl) 58 C0 (0, 0) _ k1.out.1 Tryz.underlying58 rfl c0 ?_)
    | (go_at_call 46; refine (H46.out w1 B1.out (by rw [Hg.out]; exact z1.out)).mono ?_; rintro e w2 ⟨C1, rfl, H2⟩
       have c1 : (Tryz.prog.info? 58).map (·.size) = some C1.size := (by rw [H2.out.1.1]; exact inz58)
       have C1S : Hid (C1.size = 2) := H2.out.1.1
       have C1A : Hid (C1.all (·.oneCell') = true) := H2.out.1.2
       obtain ⟨w3, Hw3, K3⟩ := box_any w2 58 #[.slice none 0 0, .slice none 0 0] C1
       obtain ⟨gc, Hgc⟩ : ∃ g, Hid (w2.heap.size = g) := ⟨_, rfl⟩)
    | (refine wpList_store_row (by rfl) 58 (.tmp 6) (.tmp 9) (by rfl) w2.heap.size C1 (by rfl) (by rfl) 58 _ (heap_alloc_new w2 _) c1 (by rw [C1S.out]; rfl) C1A.out ?_))
  rw [Hw3.out, Hgc.out]
  have B3 : Hid (Below w1.heap.size w1 w3) := H2.out.2.2.trans (K3.out.2.1.mono H2.out.2.2.size)
  have kc3 : Hid (w3.heap[gc]? = some (.cells C1 58 (0, 0))) := by rw [← Hgc.out]; exact K3.out.1
  have P3 : Hid (P w3 C1) := S1.out _ _ _ H2.out.2.1 K3.out.2.1
  have lc : Hid (g + 4 ≤ gc) := by rw [← Hgc.out, ← z1.out]; exact H2.out.2.2.size
  have k3 : Hid (w3.heap[g + 1]? = some (.cells A 29 (0, 0)) ∧ w3.heap[g + 2]? = some (.cells #[.slice none 0 0, .slice none 0 0] 58 (0, 0)) ∧ w3.heap[g + 3]? = some (.cells #[.int .i64 0, .string ⟨#[]⟩] 51 (0, 0))) :=
    ⟨(B3.out.block _ (by rw [z1.out]; omega)).trans k1.out.2.1, (B3.out.block _ (by rw [z1.out]; omega)).trans k1.out.2.2.1, (B3.out.block _ (by rw [z1.out]; omega)).trans k1.out.2.2.2⟩
  have BW3 : Hid (Below w.heap.size w w3) := B1.out.trans (B3.out.mono B1.out.size)
  clear Hw3 Hgc K3 H2 k1
  go_upto_region 3 with (first
    | (refine wpList_load_row (by rfl) 29 (.tmp 3) (by rfl) (g + 1) (by rfl) 29 A (0, 0) _ k3.out.1 Tryz.underlying29 rfl (info29 a18) ?_)
    | (go_at_call 48; refine (copyTexts_n hA hT).mono ?_; rintro e w4 ⟨rfl, H4⟩
       have kc4 : Hid (w4.heap[gc]? = some (.cells C1 58 (0, 0))) := (H4.out.block gc (Array.getElem?_eq_some_iff.1 kc3.out).1).trans kc3.out
       have P4 : Hid (P w4 C1) := S1.out _ _ _ P3.out H4.out
       have B4 : Hid (Below w1.heap.size w1 w4) := B3.out.trans (H4.out.mono B3.out.size)
       have BW4 : Hid (Below w.heap.size w w4) := BW3.out.trans (H4.out.mono BW3.out.size))
    | (go_at_call 47; refine (H47.out w4 gc C1 (by rw [Hg.out]; exact lc.out) kc4 P4 BW4.out (by have h1 := B4.out.size; have h2 := z1.out; have h3 := Hg.out; omega)).mono ?_; rintro e w5 ⟨R, rfl, H5⟩
       have r2 : (Tryz.prog.info? 51).map (·.size) = some R.size := (by rw [H5.out.1.1]; exact outZ)
       have RS : Hid (R.size = 2) := H5.out.1.1
       have RA : Hid (R.all (·.oneCell') = true) := H5.out.1.2
       obtain ⟨w6, Hw6, K6⟩ := box_any w5 51 #[.int .i64 0, .string ⟨#[]⟩] R
       obtain ⟨g7, Hg7⟩ : ∃ g, Hid (w5.heap.size = g) := ⟨_, rfl⟩)
    | (refine wpList_store_row (by rfl) 51 (.tmp 7) (.tmp 12) (by rfl) w5.heap.size R (by rfl) (by rfl) 51 _ (heap_alloc_new w5 _) r2 (by rw [RS.out]; rfl) RA.out ?_))
  rw [Hw6.out, Hg7.out]
  obtain ⟨C, HC⟩ : ∃ C, Hid (w5.heap[gc]? = some (.cells C 58 (0, 0)) ∧ Arr 2 C ∧ Q w5 C R ∧ Below (w.heap.size + 4) w4 w5) := H5.out.2
  have c2 : (Tryz.prog.info? 58).map (·.size) = some C.size := by rw [HC.out.2.1.1]; exact inz58
  have c2s : C.size = 2 := HC.out.2.1.1
  have r2s : R.size = 2 := RS.out
  have CA : Hid (C.all (·.oneCell') = true) := HC.out.2.1.2
  have l5 : Hid (w4.heap.size ≤ w5.heap.size) := HC.out.2.2.2.size
  have l4 : Hid (g + 4 ≤ w4.heap.size) := by have h1 := B4.out.size; have h2 := z1.out; show _ ≤ _; omega
  have b5 : Hid (∀ q, q < g + 4 → w5.heap[q]? = w1.heap[q]?) := fun q hq => (HC.out.2.2.2.block q (by rw [Hg.out]; exact hq)).trans (B4.out.block q (by rw [z1.out]; exact hq))
  have A6 : Hid (ApS w6.drew g gc g7 C R) := by
    have b6 : ∀ q, q < w5.heap.size → w6.heap[q]? = w5.heap[q]? := fun q hq => K6.out.2.1.block q hq
    have kk : ∀ q, q < g + 4 → w6.heap[q]? = w3.heap[q]? := fun q hq => (b6 q (by have := l4.out; have := l5.out; omega)).trans ((b5.out q hq).trans (B3.out.block q (by rw [z1.out]; exact hq)).symm)
    exact ⟨(b6 gc (Array.getElem?_eq_some_iff.1 HC.out.1).1).trans HC.out.1, by rw [← Hg7.out]; exact K6.out.1, ⟨_, (kk _ (by omega)).trans k3.out.2.1, rfl⟩, ⟨_, (kk _ (by omega)).trans k3.out.2.2, rfl⟩, by have := lc.out; omega, by have := Hg7.out; have := l4.out; have := l5.out; omega⟩
  refine wp_region_till (S := fun L W => ApS W g gc g7 C R) (by kernel_rfl) A6.out (fun hS => ?_)
  refine till_read (i := 0) (c := 2) (v := .agg C) (T := fun W => ApS W g gc g7 C R) rfl rfl (by kernel_rfl) (by kernel_rfl) (by kernel_rfl) (by kernel_rfl) (by kernel_rfl) (fun _ _ _ h => h) (fun L w => Iff.rfl) (fun L w h1 h2 => h2) (yl_any (by rfl) (by rfl) (by rfl) (fun W h => run_loadVar_row W gc 58 58 C (0, 0) _ h.c Tryz.underlying58 rfl c2)) hS (fun hSb => ?_)
  simp only [List.getElem_toArray, List.getElem_cons_zero, List.getElem_cons_succ, Act.put, List.setIfInBounds_toArray, List.set_cons_zero, List.set_cons_succ]
  clear hS
  refine till_read (i := 1) (c := 3) (v := .agg R) (T := fun W => ApS W g gc g7 C R) rfl rfl (by kernel_rfl) (by kernel_rfl) (by kernel_rfl) (by kernel_rfl) (by kernel_rfl) (fun _ _ _ h => h) (fun L w => Iff.rfl) (fun L w h1 h2 => h2) (yl_any (by rfl) (by rfl) (by rfl) (fun W h => run_loadVar_row W g7 51 51 R (0, 0) _ h.r Tryz.underlying51 rfl r2)) hSb (fun hS => ?_)
  simp only [List.getElem_toArray, List.getElem_cons_zero, List.getElem_cons_succ, Act.put, List.setIfInBounds_toArray, List.set_cons_zero, List.set_cons_succ]
  clear hSb
  refine till_one (i := 2) (by kernel_rfl) rfl (fun K hK => ?_)
  simp only [List.getElem_toArray, List.getElem_cons_zero, List.getElem_cons_succ]
  rw [if_pos (by rfl)]
  obtain ⟨C4, k4, z4⟩ := hS.y
  refine wp_store_row 58 (.tmp 4) (.tmp 13) (by rfl) (g + 2) C (by rfl) (by rfl) 58 _ k4 c2 (by rw [c2s]; exact z4.symm) CA.out ?_
  refine hK.out _ _ (hS.sy c2s) (fun hSb => ?_)
  clear hK K
  try simp only [List.getElem_toArray, List.getElem_cons_zero, List.getElem_cons_succ, Act.put, List.setIfInBounds_toArray, List.set_cons_zero, List.set_cons_succ]
  clear hS
  refine till_one (i := 3) (by kernel_rfl) rfl (fun K hK => ?_)
  simp only [List.getElem_toArray, List.getElem_cons_zero, List.getElem_cons_succ]
  rw [if_pos (by rfl)]
  obtain ⟨R4, k5, z5⟩ := hSb.z
  refine wp_store_row 51 (.tmp 5) (.tmp 14) (by rfl) (g + 3) R (by rfl) (by rfl) 51 _ k5 r2 (by rw [r2s]; exact z5.symm) RA.out ?_
  refine hK.out _ _ (hSb.sz r2s) (fun hS => ?_)
  clear hK K
  try simp only [List.getElem_toArray, List.getElem_cons_zero, List.getElem_cons_succ, Act.put, List.setIfInBounds_toArray, List.set_cons_zero, List.set_cons_succ]
  clear hSb
  refine till_done (by kernel_rfl) ?_ _
  clear hS
  show (Exit.then _ _) .normal _ _
  go_wp2
  have e3 := A6.out.sy c2s
  have e4 := e3.sz r2s
  obtain ⟨C4, f1, f2⟩ := A6.out.y
  obtain ⟨R4, f3, f4⟩ := e3.z
  refine bodyPost_ret (res25 _ _ (g + 2) (g + 3) C R (by rfl) (by rfl) ((setRow_other _ _ _ _ (by omega)).trans (setRow_heap _ _ _ _ _ _ f1)) (setRow_heap _ _ _ _ _ _ f3) c2 r2) rfl ?_
  have hs : ∀ q, g + 4 ≤ q → q < w5.heap.size → ((w6.drew.setRow (g + 2) C).setRow (g + 3) R).heap[q]? = w5.heap[q]? := fun q h1 h2 => (setRow_other _ _ _ _ (by omega)).trans ((setRow_other _ _ _ _ (by omega)).trans (K6.out.2.1.block q h2))
  refine ⟨C, R, rfl, S2.out _ _ _ _ HC.out.2.2.1 (fun q h1 h2 => hs q (by rw [← Hg.out]; exact h1) h2) (by rw [setRow_size, setRow_size]; exact K6.out.2.1.size), ?_⟩
  have b0 : Below w.heap.size w w6 := (BW4.out.trans (HC.out.2.2.2.mono (by omega))).trans (K6.out.2.1.mono (Nat.le_trans BW4.out.size l5.out))
  exact below_setRow (below_setRow b0.drew (by have := Hg.out; omega) _) (by have := Hg.out; omega) _
end Go.Proofs.YtfabnnbljkkihaaGreatDoor
