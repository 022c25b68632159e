import Derived.Test.YtkdgakcmhnadfaaGreatDoorMNf
/- Nj -/
/- Delete of package shelf. -/
namespace Go.Proofs.YtkdgakcmhnadfaaGreatDoor
open Go.ChangeShapes Go.WideShapes Go.ChangeAt Go.RowKit
set_option maxRecDepth 20000
set_option linter.unusedVariables false
set_option linter.unusedSimpArgs false
set_option maxHeartbeats 2000000 in
theorem del_v {w0 w : World} {M : Nat} {E : Nat → Addr} {g d m s1 s2 s3 : Nat} {node : Int} {v : ByteArray → Option Fl} {k : Nat} {fu : Bool} (hF : Hid (Sf w0 w M E g d m node fu v k)) (GI : Hid (gdI s1 s2 s3)) {f : Fl} (hv : Hid (v (nmS 98 s1 s2 s3) = some f)) :
    Calls Tryz.prog 26 #[.pointer (some ⟨g, 0, none⟩), idv s1 s2 s3] w fun e w' => e = .returned .nilIface ∧ Hid (Sf w0 w' M E g d m node fu (upd v (nmS 98 s1 s2 s3) none) k ∧ ChD w w' d m) := by
  obtain ⟨fi, HI⟩ : ∃ fi, Hid (nmS 98 s1 s2 s3 = fi) := ⟨_, rfl⟩
  have N2 : Hid (nm fi = true) := by rw [← HI.out]; exact b_nm GI.out
  rw [HI.out] at hv
  try rw [HI.out]
  have I6 := gdI_64 GI.out
  have g1 : Hid (idOk s1 s2 s3 = true) := by
    have := GI.out
    unfold gdI at this
    show _ = _
    simp [idOk, this]
  obtain ⟨gb, HB⟩ : ∃ gb, Hid (w.heap.size = gb) := ⟨_, rfl⟩
  have NE : Hid ((g ≠ d ∧ g ≠ m) ∧ gb ≠ d ∧ gb ≠ m) := ⟨hF.out.ne, by have := hF.out.dv.lt; have := HB.out; omega⟩
  go_enter Tryz.func26, Tryz.ntmps26
  go_upto_region 3 with (first
    | (go_at_call 57; refine (isgood_n (s1 : Int) s2 s3 _).mono ?_; rintro e w1 ⟨rfl, H1⟩; rw [g1.out]))
  obtain ⟨V, HV⟩ : ∃ V, Hid (w1.drew = V) := ⟨_, rfl⟩
  have BV : Hid (Below w.heap.size w V) := by rw [← HV.out]; exact ((alloc1 w _).trans (H1.out.mono (by simp))).drew
  have K0 : Oq w1.drew g d gb (s1 : Int) (s2 : Int) (s3 : Int) := by
    have h1 := H1.out.drew
    refine ⟨?_, ?_, ?_, ?_⟩
    · rw [HV.out]; exact (hF.out.below BV.out).shl.c1
    · rw [← HB.out]; exact (h1.cell (p := ⟨w.heap.size, 0, none⟩) (by simp)).trans (by simp)
    · rw [← HB.out]; exact (h1.cell (p := ⟨w.heap.size, 1, none⟩) (by simp)).trans (by simp)
    · rw [← HB.out]; exact (h1.cell (p := ⟨w.heap.size, 2, none⟩) (by simp)).trans (by simp)
  have FV : Hid (Sf w0 V M E g d m node fu v k) := hF.out.below BV.out
  have T3 : Hid (Tab V) := FV.out.here.tab
  have DD : Hid (Dw V d m v k fu) := FV.out.dv
  refine wp_region_till (S := fun L W => Oq W g d gb (s1 : Int) (s2 : Int) (s3 : Int)) (by kernel_rfl) K0 (fun hS => ?_)
  rw [HB.out, HV.out]
  rw [HV.out] at hS
  clear K0 H1
  refine till_take (i := 0) (v := .pointer (some ⟨g, 0, none⟩)) rfl (by kernel_rfl) (by kernel_rfl) (by kernel_rfl) (fun _ _ _ h => h) (fun L w => Iff.rfl) (Or.inl ⟨by rfl, fun w => by go_simp⟩) hS (fun hSb => ?_)
  simp only [List.getElem_toArray, List.getElem_cons_zero, List.getElem_cons_succ, Act.put, List.setIfInBounds_toArray, List.set_cons_zero, List.set_cons_succ]
  clear hS
  refine till_take (i := 1) (v := .pointer (some ⟨g, 0, none⟩)) rfl (by kernel_rfl) (by kernel_rfl) (by kernel_rfl) (fun _ _ _ h => h) (fun L w => Iff.rfl) (Or.inl ⟨by rfl, fun w => by go_simp⟩) hSb (fun hS => ?_)
  simp only [List.getElem_toArray, List.getElem_cons_zero, List.getElem_cons_succ, Act.put, List.setIfInBounds_toArray, List.set_cons_zero, List.set_cons_succ]
  clear hSb
  refine till_take (i := 2) (v := .pointer (some ⟨g, 1, none⟩)) rfl (by kernel_rfl) (by kernel_rfl) (by kernel_rfl) (fun _ _ _ h => h) (fun L w => Iff.rfl) (Or.inl ⟨by rfl, fun w => by go_simp⟩) hS (fun hSb => ?_)
  simp only [List.getElem_toArray, List.getElem_cons_zero, List.getElem_cons_succ, Act.put, List.setIfInBounds_toArray, List.set_cons_zero, List.set_cons_succ]
  clear hS
  refine till_read (i := 3) (c := 6) (v := .pointer (some ⟨d, 0, none⟩)) (T := fun W => Oq W g d gb (s1 : Int) (s2 : Int) (s3 : Int)) rfl rfl (by kernel_rfl) (by kernel_rfl) (by kernel_rfl) (by kernel_rfl) (by kernel_rfl) (fun _ _ _ h => h) (fun L w => Iff.rfl) (fun L w h1 h2 => h2) (Or.inl ⟨by rfl, fun w h => by have qp := h.p; go_simp⟩) hSb (fun hS => ?_)
  simp only [List.getElem_toArray, List.getElem_cons_zero, List.getElem_cons_succ, Act.put, List.setIfInBounds_toArray, List.set_cons_zero, List.set_cons_succ]
  clear hSb
  refine till_read (i := 4) (c := 5) (v := .agg #[.int .i64 (s1 : Int), .int .i64 (s2 : Int), .int .i64 (s3 : Int)]) (T := fun W => Oq W g d gb (s1 : Int) (s2 : Int) (s3 : Int)) rfl rfl (by kernel_rfl) (by kernel_rfl) (by kernel_rfl) (by kernel_rfl) (by kernel_rfl) (fun _ _ _ h => h) (fun L w => Iff.rfl) (fun L w h1 h2 => h2) (Or.inl ⟨by rfl, fun w h => by have qx0 := h.x0; have qx1 := h.x1; have qx2 := h.x2; go_simp⟩) hS (fun hSb => ?_)
  simp only [List.getElem_toArray, List.getElem_cons_zero, List.getElem_cons_succ, Act.put, List.setIfInBounds_toArray, List.set_cons_zero, List.set_cons_succ]
  clear hS
  refine till_one (i := 5) (by kernel_rfl) rfl (fun K hK => ?_)
  simp only [List.getElem_toArray, List.getElem_cons_zero, List.getElem_cons_succ]
  rw [if_pos (by rfl)]
  go_simp
  go_wp2_with (go_at_call 59; refine (fileof_n s1 s2 s3 I6.1 I6.2.1 I6.2.2 T3).mono ?_; rintro e w2 ⟨rfl, H2⟩)
  rw [HI.out]
  refine hK.out _ _ (hSb.below H2.out) (fun hS => ?_)
  clear hK K
  try simp only [List.getElem_toArray, List.getElem_cons_zero, List.getElem_cons_succ, Act.put, List.setIfInBounds_toArray, List.set_cons_zero, List.set_cons_succ]
  clear hSb
  have D2 : Hid (Dw w2 d m v k fu) := DD.out.below H2.out
  have R2 : Hid (Er w2 E) := (FV.out.below H2.out).here.er
  refine till_one (i := 6) (by kernel_rfl) rfl (fun K hK => ?_)
  simp only [List.getElem_toArray, List.getElem_cons_zero, List.getElem_cons_succ]
  rw [if_pos (by rfl)]
  go_simp
  go_wp2_with (go_at_call 64; refine (delete_w D2 fi f N2 hv).mono ?_; rintro e w3 ⟨rfl, H3⟩)
  refine hK.out _ _ (hS.ch H3.out.2 NE.out) (fun hSb => ?_)
  clear hK K
  try simp only [List.getElem_toArray, List.getElem_cons_zero, List.getElem_cons_succ, Act.put, List.setIfInBounds_toArray, List.set_cons_zero, List.set_cons_succ]
  clear hS
  refine till_one (i := 7) (by kernel_rfl) rfl (fun K hK => ?_)
  simp only [List.getElem_toArray, List.getElem_cons_zero, List.getElem_cons_succ]
  rw [if_pos (by rfl)]
  go_simp
  refine hK.out _ _ (hSb) (fun hS => ?_)
  clear hK K
  try simp only [List.getElem_toArray, List.getElem_cons_zero, List.getElem_cons_succ, Act.put, List.setIfInBounds_toArray, List.set_cons_zero, List.set_cons_succ]
  clear hSb
  refine till_done (by kernel_rfl) ?_ _
  clear hS
  go_wp2
  go_ret
  have C3 := (ChD.of_below BV.out).trans ((ChD.of_below H2.out).trans H3.out.2)
  exact ⟨rfl, hF.out.ch C3 H3.out.1, C3⟩
set_option maxHeartbeats 2000000 in
theorem del_gone {w0 w : World} {M : Nat} {E : Nat → Addr} {g d m s1 s2 s3 : Nat} {node : Int} {v : ByteArray → Option Fl} {k : Nat} {fu : Bool} (hF : Hid (Sf w0 w M E g d m node fu v k)) (GI : Hid (gdI s1 s2 s3)) (hv : Hid (v (nmS 98 s1 s2 s3) = none)) :
    Calls Tryz.prog 26 #[.pointer (some ⟨g, 0, none⟩), idv s1 s2 s3] w fun e w' => e = .returned (er (E 3)) ∧ Hid (Sf w0 w' M E g d m node fu v k ∧ ChD w w' d m) := by
  obtain ⟨fi, HI⟩ : ∃ fi, Hid (nmS 98 s1 s2 s3 = fi) := ⟨_, rfl⟩
  have N2 : Hid (nm fi = true) := by rw [← HI.out]; exact b_nm GI.out
  rw [HI.out] at hv
  try rw [HI.out]
  have I6 := gdI_64 GI.out
  have g1 : Hid (idOk s1 s2 s3 = true) := by
    have := GI.out
    unfold gdI at this
    show _ = _
    simp [idOk, this]
  obtain ⟨gb, HB⟩ : ∃ gb, Hid (w.heap.size = gb) := ⟨_, rfl⟩
  have NE : Hid ((g ≠ d ∧ g ≠ m) ∧ gb ≠ d ∧ gb ≠ m) := ⟨hF.out.ne, by have := hF.out.dv.lt; have := HB.out; omega⟩
  go_enter Tryz.func26, Tryz.ntmps26
  go_upto_region 3 with (first
    | (go_at_call 57; refine (isgood_n (s1 : Int) s2 s3 _).mono ?_; rintro e w1 ⟨rfl, H1⟩; rw [g1.out]))
  obtain ⟨V, HV⟩ : ∃ V, Hid (w1.drew = V) := ⟨_, rfl⟩
  have BV : Hid (Below w.heap.size w V) := by rw [← HV.out]; exact ((alloc1 w _).trans (H1.out.mono (by simp))).drew
  have K0 : Oq w1.drew g d gb (s1 : Int) (s2 : Int) (s3 : Int) := by
    have h1 := H1.out.drew
    refine ⟨?_, ?_, ?_, ?_⟩
    · rw [HV.out]; exact (hF.out.below BV.out).shl.c1
    · rw [← HB.out]; exact (h1.cell (p := ⟨w.heap.size, 0, none⟩) (by simp)).trans (by simp)
    · rw [← HB.out]; exact (h1.cell (p := ⟨w.heap.size, 1, none⟩) (by simp)).trans (by simp)
    · rw [← HB.out]; exact (h1.cell (p := ⟨w.heap.size, 2, none⟩) (by simp)).trans (by simp)
  have FV : Hid (Sf w0 V M E g d m node fu v k) := hF.out.below BV.out
  have T3 : Hid (Tab V) := FV.out.here.tab
  have DD : Hid (Dw V d m v k fu) := FV.out.dv
  refine wp_region_till (S := fun L W => Oq W g d gb (s1 : Int) (s2 : Int) (s3 : Int)) (by kernel_rfl) K0 (fun hS => ?_)
  rw [HB.out, HV.out]
  rw [HV.out] at hS
  clear K0 H1
  refine till_take (i := 0) (v := .pointer (some ⟨g, 0, none⟩)) rfl (by kernel_rfl) (by kernel_rfl) (by kernel_rfl) (fun _ _ _ h => h) (fun L w => Iff.rfl) (Or.inl ⟨by rfl, fun w => by go_simp⟩) hS (fun hSb => ?_)
  simp only [List.getElem_toArray, List.getElem_cons_zero, List.getElem_cons_succ, Act.put, List.setIfInBounds_toArray, List.set_cons_zero, List.set_cons_succ]
  clear hS
  refine till_take (i := 1) (v := .pointer (some ⟨g, 0, none⟩)) rfl (by kernel_rfl) (by kernel_rfl) (by kernel_rfl) (fun _ _ _ h => h) (fun L w => Iff.rfl) (Or.inl ⟨by rfl, fun w => by go_simp⟩) hSb (fun hS => ?_)
  simp only [List.getElem_toArray, List.getElem_cons_zero, List.getElem_cons_succ, Act.put, List.setIfInBounds_toArray, List.set_cons_zero, List.set_cons_succ]
  clear hSb
  refine till_take (i := 2) (v := .pointer (some ⟨g, 1, none⟩)) rfl (by kernel_rfl) (by kernel_rfl) (by kernel_rfl) (fun _ _ _ h => h) (fun L w => Iff.rfl) (Or.inl ⟨by rfl, fun w => by go_simp⟩) hS (fun hSb => ?_)
  simp only [List.getElem_toArray, List.getElem_cons_zero, List.getElem_cons_succ, Act.put, List.setIfInBounds_toArray, List.set_cons_zero, List.set_cons_succ]
  clear hS
  refine till_read (i := 3) (c := 6) (v := .pointer (some ⟨d, 0, none⟩)) (T := fun W => Oq W g d gb (s1 : Int) (s2 : Int) (s3 : Int)) rfl rfl (by kernel_rfl) (by kernel_rfl) (by kernel_rfl) (by kernel_rfl) (by kernel_rfl) (fun _ _ _ h => h) (fun L w => Iff.rfl) (fun L w h1 h2 => h2) (Or.inl ⟨by rfl, fun w h => by have qp := h.p; go_simp⟩) hSb (fun hS => ?_)
  simp only [List.getElem_toArray, List.getElem_cons_zero, List.getElem_cons_succ, Act.put, List.setIfInBounds_toArray, List.set_cons_zero, List.set_cons_succ]
  clear hSb
  refine till_read (i := 4) (c := 5) (v := .agg #[.int .i64 (s1 : Int), .int .i64 (s2 : Int), .int .i64 (s3 : Int)]) (T := fun W => Oq W g d gb (s1 : Int) (s2 : Int) (s3 : Int)) rfl rfl (by kernel_rfl) (by kernel_rfl) (by kernel_rfl) (by kernel_rfl) (by kernel_rfl) (fun _ _ _ h => h) (fun L w => Iff.rfl) (fun L w h1 h2 => h2) (Or.inl ⟨by rfl, fun w h => by have qx0 := h.x0; have qx1 := h.x1; have qx2 := h.x2; go_simp⟩) hS (fun hSb => ?_)
  simp only [List.getElem_toArray, List.getElem_cons_zero, List.getElem_cons_succ, Act.put, List.setIfInBounds_toArray, List.set_cons_zero, List.set_cons_succ]
  clear hS
  refine till_one (i := 5) (by kernel_rfl) rfl (fun K hK => ?_)
  simp only [List.getElem_toArray, List.getElem_cons_zero, List.getElem_cons_succ]
  rw [if_pos (by rfl)]
  go_simp
  go_wp2_with (go_at_call 59; refine (fileof_n s1 s2 s3 I6.1 I6.2.1 I6.2.2 T3).mono ?_; rintro e w2 ⟨rfl, H2⟩)
  rw [HI.out]
  refine hK.out _ _ (hSb.below H2.out) (fun hS => ?_)
  clear hK K
  try simp only [List.getElem_toArray, List.getElem_cons_zero, List.getElem_cons_succ, Act.put, List.setIfInBounds_toArray, List.set_cons_zero, List.set_cons_succ]
  clear hSb
  have D2 : Hid (Dw w2 d m v k fu) := DD.out.below H2.out
  have R2 : Hid (Er w2 E) := (FV.out.below H2.out).here.er
  refine till_one (i := 6) (by kernel_rfl) rfl (fun K hK => ?_)
  simp only [List.getElem_toArray, List.getElem_cons_zero, List.getElem_cons_succ]
  rw [if_pos (by rfl)]
  go_simp
  go_wp2_with (go_at_call 64; refine (delete_gone_w D2 fi R2 N2 hv).mono ?_; rintro e w3 ⟨rfl, H3⟩)
  refine hK.out _ _ (hS.ch H3.out.2 NE.out) (fun hSb => ?_)
  clear hK K
  try simp only [List.getElem_toArray, List.getElem_cons_zero, List.getElem_cons_succ, Act.put, List.setIfInBounds_toArray, List.set_cons_zero, List.set_cons_succ]
  clear hS
  refine till_one (i := 7) (by kernel_rfl) rfl (fun K hK => ?_)
  simp only [List.getElem_toArray, List.getElem_cons_zero, List.getElem_cons_succ]
  rw [if_pos (by rfl)]
  go_simp
  refine hK.out _ _ (hSb) (fun hS => ?_)
  clear hK K
  try simp only [List.getElem_toArray, List.getElem_cons_zero, List.getElem_cons_succ, Act.put, List.setIfInBounds_toArray, List.set_cons_zero, List.set_cons_succ]
  clear hSb
  refine till_done (by kernel_rfl) ?_ _
  clear hS
  go_wp2
  go_ret
  have C3 := (ChD.of_below BV.out).trans ((ChD.of_below H2.out).trans H3.out.2)
  exact ⟨rfl, hF.out.ch C3 H3.out.1, C3⟩
end Go.Proofs.YtkdgakcmhnadfaaGreatDoor
