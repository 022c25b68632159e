import Derived.Test.YtkdgakcmhnadfaaGreatDoorMKc
/- Kh -/
/- Put and Get of package shelf, where all is well. -/
namespace Go.Proofs.YtkdgakcmhnadfaaGreatDoor
open Go.ChangeShapes Go.WideShapes Go.ChangeAt Go.RowKit
set_option maxRecDepth 20000
set_option linter.unusedVariables false
set_option linter.unusedSimpArgs false
/- what Put holds against one another -/
structure Pq (W : World) (g gs s4 : Nat) : Prop where
  x : W.cell? ⟨gs, 3, none⟩ = some (.int .i64 (s4 : Int))
  z : W.cell? ⟨g, 0, none⟩ = some (.int .i64 (s4 : Int))
theorem gd_of {F : List Nat} {s1 s2 s3 s4 s5 : Nat} (hb : ∀ x ∈ F, x < 256) (h0 : (getS F).2.2 = 0) (hs : (getS F).1 = [s1, s2, s3, s4, s5]) : gdI s1 s2 s3 := by
  have h := (getS_back hb h0 hs).1
  rw [okN_iff] at h
  refine ⟨decide_eq_true ?_, decide_eq_true ?_, decide_eq_true ?_⟩ <;> omega
set_option maxHeartbeats 2000000 in
theorem put_v {w0 w : World} {M : Nat} {E : Nat → Addr} {g d m s1 s2 s3 s4 s5 : Nat} {v : ByteArray → Option Fl} {k : Nat} (hF : Hid (Sf w0 w M E g d m (s4 : Int) false v k)) (hk : Hid (k < 512)) {p : Option Addr} {n cp : Nat} {F : List Nat} (hS : Hid (Sln w p n F)) (hc : Hid (p = none → cp = 0)) (hnc : n ≤ cp) (hp : Hid (∀ q, blkOf p = some q → q ≠ d ∧ q ≠ m)) (h0 : Hid ((getS F).2.2 = 0)) (hs : Hid ((getS F).1 = [s1, s2, s3, s4, s5])) :
    Calls Tryz.prog 16 #[.pointer (some ⟨g, 0, none⟩), .slice p n cp] w fun e w' => e = .returned .nilIface ∧ Hid (Sf w0 w' M E g d m (s4 : Int) false (upd (upd v (nmS 116 s1 s2 s3) none) (nmS 98 s1 s2 s3) (some ⟨spell F, spell F, true⟩)) (k + 1) ∧ ChD w w' d m) := by
  have GI : Hid (gdI s1 s2 s3) := gd_of hS.out.lt h0.out hs.out
  have M1 : Hid (Mst w) := hF.out.here.mst
  have E1 : Hid (Sent w M E) := hF.out.here.sent
  have K1 : Hid (Kst w) := hF.out.here.kst
  have h4 : 8 ≤ M := by have := hF.out.env.big; omega
  go_enter Tryz.func16, Tryz.ntmps16
  go_upto_region 4 with (first
    | (go_at_call 53; refine (get_all hS hc hnc M1 E1 h4 K1).mono ?_; rintro e w1 ⟨a', m', c', vv, rfl, H1⟩
       have hv : vv = .nilIface := by have h := H1.out.1; rw [h0.out] at h; exact h
       subst hv
       rw [hs.out]
       simp only [cs, wv, List.map]
       have B1 : Hid (Below w.heap.size w w1) := H1.out.2.2
       clear H1))
  obtain ⟨gs, Hgs⟩ : ∃ gs, Hid (w1.heap.size = gs) := ⟨_, rfl⟩
  obtain ⟨V, HV⟩ : ∃ V, Hid ((w1.alloc (.cells #[.int .i64 (s1 : Int), .int .i64 (s2 : Int), .int .i64 (s3 : Int), .int .i64 (s4 : Int), .int .i64 (s5 : Int)] 45)).drew = V) := ⟨_, rfl⟩
  have BV : Hid (Below w.heap.size w V) := by rw [← HV.out]; exact (B1.out.trans ((alloc1 w1 _).mono B1.out.size)).drew
  have K0 : Pq (w1.alloc (.cells #[.int .i64 (s1 : Int), .int .i64 (s2 : Int), .int .i64 (s3 : Int), .int .i64 (s4 : Int), .int .i64 (s5 : Int)] 45)).drew g gs s4 := by
    refine ⟨?_, ?_⟩
    · rw [← Hgs.out]; simp
    · rw [HV.out]; exact (hF.out.below BV.out).shl.c0
  have y0 : V.cell? ⟨gs, 0, none⟩ = some (.int .i64 (s1 : Int)) := by rw [← HV.out, ← Hgs.out]; simp
  have y1 : V.cell? ⟨gs, 1, none⟩ = some (.int .i64 (s2 : Int)) := by rw [← HV.out, ← Hgs.out]; simp
  have y2 : V.cell? ⟨gs, 2, none⟩ = some (.int .i64 (s3 : Int)) := by rw [← HV.out, ← Hgs.out]; simp
  have FV : Hid (Sf w0 V M E g d m (s4 : Int) false v k) := hF.out.below BV.out
  have SV : Hid (Sln V p n F) := hS.out.below BV.out
  refine wp_region_till (S := fun L W => Pq W g gs s4) (by kernel_rfl) K0 (fun hS => ?_)
  rw [Hgs.out, HV.out]
  rw [HV.out] at hS
  clear K0
  refine till_take (i := 0) (v := .pointer (some ⟨gs, 3, none⟩)) rfl (by kernel_rfl) (by kernel_rfl) (by kernel_rfl) (fun _ _ _ h => h) (fun L w => Iff.rfl) (Or.inl ⟨by rfl, fun w => by go_simp⟩) hS (fun hSb => ?_)
  simp only [List.getElem_toArray, List.getElem_cons_zero, List.getElem_cons_succ, Act.put, List.setIfInBounds_toArray, List.set_cons_zero, List.set_cons_succ]
  clear hS
  refine till_read (i := 1) (c := 6) (v := .int .i64 (s4 : Int)) (T := fun W => Pq W g gs s4) rfl rfl (by kernel_rfl) (by kernel_rfl) (by kernel_rfl) (by kernel_rfl) (by kernel_rfl) (fun _ _ _ h => h) (fun L w => Iff.rfl) (fun L w h1 h2 => h2) (Or.inl ⟨by rfl, fun w h => by have q := h.x; go_simp⟩) hSb (fun hS => ?_)
  simp only [List.getElem_toArray, List.getElem_cons_zero, List.getElem_cons_succ, Act.put, List.setIfInBounds_toArray, List.set_cons_zero, List.set_cons_succ]
  clear hSb
  refine till_take (i := 2) (v := .pointer (some ⟨g, 0, none⟩)) rfl (by kernel_rfl) (by kernel_rfl) (by kernel_rfl) (fun _ _ _ h => h) (fun L w => Iff.rfl) (Or.inl ⟨by rfl, fun w => by go_simp⟩) hS (fun hSb => ?_)
  simp only [List.getElem_toArray, List.getElem_cons_zero, List.getElem_cons_succ, Act.put, List.setIfInBounds_toArray, List.set_cons_zero, List.set_cons_succ]
  clear hS
  refine till_take (i := 3) (v := .pointer (some ⟨g, 0, none⟩)) rfl (by kernel_rfl) (by kernel_rfl) (by kernel_rfl) (fun _ _ _ h => h) (fun L w => Iff.rfl) (Or.inl ⟨by rfl, fun w => by go_simp⟩) hSb (fun hS => ?_)
  simp only [List.getElem_toArray, List.getElem_cons_zero, List.getElem_cons_succ, Act.put, List.setIfInBounds_toArray, List.set_cons_zero, List.set_cons_succ]
  clear hSb
  refine till_take (i := 4) (v := .pointer (some ⟨g, 0, none⟩)) rfl (by kernel_rfl) (by kernel_rfl) (by kernel_rfl) (fun _ _ _ h => h) (fun L w => Iff.rfl) (Or.inl ⟨by rfl, fun w => by go_simp⟩) hS (fun hSb => ?_)
  simp only [List.getElem_toArray, List.getElem_cons_zero, List.getElem_cons_succ, Act.put, List.setIfInBounds_toArray, List.set_cons_zero, List.set_cons_succ]
  clear hS
  refine till_read (i := 5) (c := 6) (v := .int .i64 (s4 : Int)) (T := fun W => Pq W g gs s4) rfl rfl (by kernel_rfl) (by kernel_rfl) (by kernel_rfl) (by kernel_rfl) (by kernel_rfl) (fun _ _ _ h => h) (fun L w => Iff.rfl) (fun L w h1 h2 => h2) (Or.inl ⟨by rfl, fun w h => by have q := h.z; go_simp⟩) hSb (fun hS => ?_)
  simp only [List.getElem_toArray, List.getElem_cons_zero, List.getElem_cons_succ, Act.put, List.setIfInBounds_toArray, List.set_cons_zero, List.set_cons_succ]
  clear hSb
  refine till_take (i := 6) (v := .bool false) rfl (by kernel_rfl) (by kernel_rfl) (by kernel_rfl) (fun _ _ _ h => h) (fun L w => Iff.rfl) (Or.inl ⟨by rfl, fun w => by go_simp⟩) hS (fun hSb => ?_)
  simp only [List.getElem_toArray, List.getElem_cons_zero, List.getElem_cons_succ, Act.put, List.setIfInBounds_toArray, List.set_cons_zero, List.set_cons_succ]
  clear hS
  refine till_done (by kernel_rfl) ?_ _
  clear hSb
  go_wp2_with (go_at_call 54; refine (store_v FV hk s1 s2 s3 GI SV hp).mono ?_; rintro e w5 ⟨rfl, H5⟩)
  go_ret
  exact ⟨rfl, H5.out.1, (ChD.of_below BV.out).trans H5.out.2⟩
set_option maxHeartbeats 2000000 in
theorem get_v {w0 w : World} {M : Nat} {E : Nat → Addr} {g d m s1 s2 s3 s4 s5 : Nat} {v : ByteArray → Option Fl} {k : Nat} {fu : Bool} (hF : Hid (Sf w0 w M E g d m (s4 : Int) fu v k)) {f : Fl} (GI : Hid (gdI s1 s2 s3)) (hv : Hid (v (nmS 98 s1 s2 s3) = some f)) (hb : f.b.size ≤ 140737488352256) (h0 : Hid ((getS (bytesOf f.b)).2.2 = 0)) (hs : Hid ((getS (bytesOf f.b)).1 = [s1, s2, s3, s4, s5])) :
    Calls Tryz.prog 20 #[.pointer (some ⟨g, 0, none⟩), idv s1 s2 s3] w fun e w' => ∃ q n c, e = .returned (.tuple #[.slice (some ⟨q, 0, none⟩) n c, .nilIface]) ∧ Hid (Sln w' (some ⟨q, 0, none⟩) n (bytesOf f.b) ∧ n ≤ c ∧ w.heap.size ≤ q ∧ Below w.heap.size w w') := by
  obtain ⟨fi, HI⟩ : ∃ fi, Hid (nmS 98 s1 s2 s3 = fi) := ⟨_, rfl⟩
  have N2 : Hid (nm fi = true) := by rw [← HI.out]; exact b_nm GI.out
  rw [HI.out] at hv
  have I6 := gdI_64 GI.out
  have g1 : Hid (idOk s1 s2 s3 = true) := by
    have := GI.out
    unfold gdI at this
    show _ = _
    simp [idOk, this]
  have h4 : 8 ≤ M := by have := hF.out.env.big; omega
  obtain ⟨gb, HB⟩ : ∃ gb, Hid (w.heap.size = gb) := ⟨_, rfl⟩
  go_enter Tryz.func20, Tryz.ntmps20
  go_upto_region 3 with (first
    | (go_at_call 57; refine (isgood_n (s1 : Int) s2 s3 _).mono ?_; rintro e w1 ⟨rfl, H1⟩; rw [g1.out]))
  obtain ⟨V, HV⟩ : ∃ V, Hid (w1.drew = V) := ⟨_, rfl⟩
  have BV : Hid (Below w.heap.size w V) := by rw [← HV.out]; exact ((alloc1 w _).trans (H1.out.mono (by simp))).drew
  have K0 : Oq w1.drew g d gb (s1 : Int) (s2 : Int) (s3 : Int) := by
    have h1 := H1.out.drew
    refine ⟨?_, ?_, ?_, ?_⟩
    · rw [HV.out]; exact (hF.out.below BV.out).shl.c1
    · rw [← HB.out]; exact (h1.cell (p := ⟨w.heap.size, 0, none⟩) (by simp)).trans (by simp)
    · rw [← HB.out]; exact (h1.cell (p := ⟨w.heap.size, 1, none⟩) (by simp)).trans (by simp)
    · rw [← HB.out]; exact (h1.cell (p := ⟨w.heap.size, 2, none⟩) (by simp)).trans (by simp)
  have FV : Hid (Sf w0 V M E g d m (s4 : Int) fu v k) := hF.out.below BV.out
  have T3 : Hid (Tab V) := FV.out.here.tab
  have DD : Hid (Dw V d m v k fu) := FV.out.dv
  refine wp_region_till (S := fun L W => Oq W g d gb (s1 : Int) (s2 : Int) (s3 : Int)) (by kernel_rfl) K0 (fun hS => ?_)
  rw [HB.out, HV.out]
  rw [HV.out] at hS
  clear K0 H1
  refine till_take (i := 0) (v := .pointer (some ⟨g, 0, none⟩)) rfl (by kernel_rfl) (by kernel_rfl) (by kernel_rfl) (fun _ _ _ h => h) (fun L w => Iff.rfl) (Or.inl ⟨by rfl, fun w => by go_simp⟩) hS (fun hSb => ?_)
  simp only [List.getElem_toArray, List.getElem_cons_zero, List.getElem_cons_succ, Act.put, List.setIfInBounds_toArray, List.set_cons_zero, List.set_cons_succ]
  clear hS
  refine till_take (i := 1) (v := .pointer (some ⟨g, 0, none⟩)) rfl (by kernel_rfl) (by kernel_rfl) (by kernel_rfl) (fun _ _ _ h => h) (fun L w => Iff.rfl) (Or.inl ⟨by rfl, fun w => by go_simp⟩) hSb (fun hS => ?_)
  simp only [List.getElem_toArray, List.getElem_cons_zero, List.getElem_cons_succ, Act.put, List.setIfInBounds_toArray, List.set_cons_zero, List.set_cons_succ]
  clear hSb
  refine till_take (i := 2) (v := .pointer (some ⟨g, 1, none⟩)) rfl (by kernel_rfl) (by kernel_rfl) (by kernel_rfl) (fun _ _ _ h => h) (fun L w => Iff.rfl) (Or.inl ⟨by rfl, fun w => by go_simp⟩) hS (fun hSb => ?_)
  simp only [List.getElem_toArray, List.getElem_cons_zero, List.getElem_cons_succ, Act.put, List.setIfInBounds_toArray, List.set_cons_zero, List.set_cons_succ]
  clear hS
  refine till_read (i := 3) (c := 6) (v := .pointer (some ⟨d, 0, none⟩)) (T := fun W => Oq W g d gb (s1 : Int) (s2 : Int) (s3 : Int)) rfl rfl (by kernel_rfl) (by kernel_rfl) (by kernel_rfl) (by kernel_rfl) (by kernel_rfl) (fun _ _ _ h => h) (fun L w => Iff.rfl) (fun L w h1 h2 => h2) (Or.inl ⟨by rfl, fun w h => by have q := h.p; go_simp⟩) hSb (fun hS => ?_)
  simp only [List.getElem_toArray, List.getElem_cons_zero, List.getElem_cons_succ, Act.put, List.setIfInBounds_toArray, List.set_cons_zero, List.set_cons_succ]
  clear hSb
  refine till_read (i := 4) (c := 5) (v := .agg #[.int .i64 (s1 : Int), .int .i64 (s2 : Int), .int .i64 (s3 : Int)]) (T := fun W => Oq W g d gb (s1 : Int) (s2 : Int) (s3 : Int)) rfl rfl (by kernel_rfl) (by kernel_rfl) (by kernel_rfl) (by kernel_rfl) (by kernel_rfl) (fun _ _ _ h => h) (fun L w => Iff.rfl) (fun L w h1 h2 => h2) (Or.inl ⟨by rfl, fun w h => by have q0 := h.x0; have q1 := h.x1; have q2 := h.x2; go_simp⟩) hS (fun hSb => ?_)
  simp only [List.getElem_toArray, List.getElem_cons_zero, List.getElem_cons_succ, Act.put, List.setIfInBounds_toArray, List.set_cons_zero, List.set_cons_succ]
  clear hS
  refine till_one (i := 5) (by kernel_rfl) rfl (fun K hK => ?_)
  simp only [List.getElem_toArray, List.getElem_cons_zero, List.getElem_cons_succ]
  rw [if_pos (by rfl)]
  go_simp
  go_wp2_with (go_at_call 59; refine (fileof_n s1 s2 s3 I6.1 I6.2.1 I6.2.2 T3).mono ?_; rintro e w2 ⟨rfl, H2⟩)
  rw [HI.out]
  refine hK.out _ _ (hSb.below H2.out) (fun hS => ?_)
  clear hK K
  try simp only [List.getElem_toArray, List.getElem_cons_zero, List.getElem_cons_succ, Act.put, List.setIfInBounds_toArray, List.set_cons_zero, List.set_cons_succ]
  clear hSb
  have D2 : Hid (Dw w2 d m v k fu) := DD.out.below H2.out
  refine till_one (i := 6) (by kernel_rfl) rfl (fun K hK => ?_)
  simp only [List.getElem_toArray, List.getElem_cons_zero, List.getElem_cons_succ]
  rw [if_pos (by rfl)]
  go_simp
  go_wp2_with (go_at_call 58; refine (read_w D2 fi f N2 hv hb).mono ?_; rintro e w3 ⟨gr, n, cr, rfl, H3⟩)
  refine hK.out _ _ (hS.below H3.out.2.1) (fun hSb => ?_)
  clear hK K
  try simp only [List.getElem_toArray, List.getElem_cons_zero, List.getElem_cons_succ, Act.put, List.setIfInBounds_toArray, List.set_cons_zero, List.set_cons_succ]
  clear hS
  refine till_take (i := 7) (v := .tuple #[.slice (some ⟨gr, 0, none⟩) n cr, .nilIface]) rfl (by kernel_rfl) (by kernel_rfl) (by kernel_rfl) (fun _ _ _ h => h) (fun L w => Iff.rfl) (Or.inl ⟨by rfl, fun w => by go_simp⟩) hSb (fun hS => ?_)
  simp only [List.getElem_toArray, List.getElem_cons_zero, List.getElem_cons_succ, Act.put, List.setIfInBounds_toArray, List.set_cons_zero, List.set_cons_succ]
  clear hSb
  refine till_take (i := 8) (v := .slice (some ⟨gr, 0, none⟩) n cr) rfl (by kernel_rfl) (by kernel_rfl) (by kernel_rfl) (fun _ _ _ h => h) (fun L w => Iff.rfl) (Or.inl ⟨by rfl, fun w => by go_simp⟩) hS (fun hSb => ?_)
  simp only [List.getElem_toArray, List.getElem_cons_zero, List.getElem_cons_succ, Act.put, List.setIfInBounds_toArray, List.set_cons_zero, List.set_cons_succ]
  clear hS
  refine till_take (i := 9) (v := .nilIface) rfl (by kernel_rfl) (by kernel_rfl) (by kernel_rfl) (fun _ _ _ h => h) (fun L w => Iff.rfl) (Or.inl ⟨by rfl, fun w => by go_simp⟩) hSb (fun hS => ?_)
  simp only [List.getElem_toArray, List.getElem_cons_zero, List.getElem_cons_succ, Act.put, List.setIfInBounds_toArray, List.set_cons_zero, List.set_cons_succ]
  clear hSb
  refine till_one (i := 10) (by kernel_rfl) rfl (fun K hK => ?_)
  simp only [List.getElem_toArray, List.getElem_cons_zero, List.getElem_cons_succ]
  rw [if_pos (by rfl)]
  go_simp
  refine hK.out _ _ (hS) (fun hSb => ?_)
  clear hK K
  try simp only [List.getElem_toArray, List.getElem_cons_zero, List.getElem_cons_succ, Act.put, List.setIfInBounds_toArray, List.set_cons_zero, List.set_cons_succ]
  clear hS
  refine till_one (i := 11) (by kernel_rfl) rfl (fun K hK => ?_)
  simp only [List.getElem_toArray, List.getElem_cons_zero, List.getElem_cons_succ]
  rw [if_pos (by rfl)]
  go_simp
  refine hK.out _ _ (hSb) (fun hS => ?_)
  clear hK K
  try simp only [List.getElem_toArray, List.getElem_cons_zero, List.getElem_cons_succ, Act.put, List.setIfInBounds_toArray, List.set_cons_zero, List.set_cons_succ]
  clear hSb
  have QE : Hid (Oq w3 g d gb (s1 : Int) (s2 : Int) (s3 : Int)) := hS
  refine till_done (by kernel_rfl) ?_ _
  clear hS
  have B3 : Hid (Below w.heap.size w w3) := (BV.out.trans (H2.out.mono BV.out.size)).trans (H3.out.2.1.mono (by have := BV.out.size; have := H2.out.size; omega))
  have F3 : Hid (Sf w0 w3 M E g d m (s4 : Int) fu v k) := hF.out.below B3.out
  have e3 : w3.cell? ⟨3, 0, none⟩ = some (.iface 273 (.pointer (some (E 3)))) := F3.out.here.er 3 (by omega)
  have y0 := QE.out.x0
  have y1 := QE.out.x1
  have y2 := QE.out.x2
  have L3 : Hid (Shl w3 g (s4 : Int) d) := F3.out.shl
  have S3 : Hid (Sln w3 (some ⟨gr, 0, none⟩) n (bytesOf f.b)) := H3.out.1
  have hc : Hid ((some ⟨gr, 0, none⟩ : Option Addr) = none → cr = 0) := fun h => by cases h
  have hnc : n ≤ cr := H3.out.2.2.2.1
  have M3 : Hid (Mst w3) := F3.out.here.mst
  have E3 : Hid (Sent w3 M E) := F3.out.here.sent
  have K3 : Hid (Kst w3) := F3.out.here.kst
  go_wp2_with (first
    | (go_at_call 60; refine (is_nil (E 3) _).mono ?_; rintro e w0' ⟨rfl, h00⟩; rw [h00]; clear h00)
    | (go_at_call 61; refine (isframe_ok L3 S3 hc hnc M3 E3 h4 K3 h0 hs).mono ?_; rintro e w4 ⟨rfl, H4⟩))
  go_ret2
  refine ⟨gr, n, cr, rfl, S3.out.below H4.out, hnc, ?_, B3.out.trans (H4.out.mono B3.out.size)⟩
  have := H3.out.2.2.1
  have := BV.out.size
  have := H2.out.size
  omega
end Go.Proofs.YtkdgakcmhnadfaaGreatDoor

/- Ki -/
/- alive: what was put is there behind a crash. -/
namespace Go.Proofs.YtkdgakcmhnadfaaGreatDoor
open Go.ChangeShapes Go.WideShapes Go.ChangeAt Go.RowKit
set_option maxRecDepth 20000
set_option linter.unusedVariables false
set_option linter.unusedSimpArgs false
theorem getS_there {a b c d e : Nat} {l : List Nat} (h : okN [1, (a : Int), b, c, d, e, 0] = true) (hn : l.length ≤ 1024) : getS (frameL [1, a, b, c, d, e, l.length] l) = ([a, b, c, d, e], l, 0) ∧ hdS (frameL [1, a, b, c, d, e, l.length] l) = ([a, b, c, d, e], l.length, 0) := by
  have e1 := hdF_there h hn (bodyL l)
  have e2 : frameL [1, a, b, c, d, e, l.length] l = headL [1, a, b, c, d, e, l.length] ++ bodyL l := rfl
  rw [← e2] at e1
  have e3 : (frameL [1, a, b, c, d, e, l.length] l).drop (headL [1, a, b, c, d, e, l.length]).length = bodyL l := by rw [e2, List.drop_left]
  have e4 : (frameL [1, a, b, c, d, e, l.length] l).length - (headL [1, a, b, c, d, e, l.length]).length = l.length + 32 * blks l.length := by
    rw [e2, List.length_append, bodyL_len]; omega
  constructor
  · unfold getS
    rw [if_neg (by rw [e1]; simp), if_neg (by rw [e1]; simp; exact e4), if_pos (by rw [e1]; dsimp only; rw [e3]; exact goodB_of (fun i hi => gdB_there (by simpa using hi))), e1]
    dsimp only
    rw [e3]
    have e5 := shK_all l
    simpa [five] using e5
  · unfold hdS
    rw [if_neg (by rw [e1]; simp), e1]
    rfl
theorem frameL_lt {ns l : List Nat} {w : World} {B : Nat} {a : Option Addr} {n c : Nat} (h : Own w B a n c (frameL ns l)) : ∀ x ∈ frameL ns l, x < 256 := h.lt
set_option maxHeartbeats 4000000 in
theorem alive_n {w : World} {M : Nat} {E : Nat → Addr} (hE : Hid (Env w M E)) : Calls Tryz.prog 8 #[] w fun e w' => e = .returned (.bool true) ∧ Hid (Below w.heap.size w w') := by
  obtain ⟨F, HF⟩ : ∃ F, Hid (frameL [1, 1, 2, 3, 0, 2, 2] abL = F) := ⟨_, rfl⟩
  have GS : Hid (getS F = ([1, 2, 3, 0, 2], abL, 0)) := by rw [← HF.out]; exact (getS_there (a := 1) (b := 2) (c := 3) (d := 0) (e := 2) (l := abL) (by decide) (by decide)).1
  have G0 : Hid ((getS F).2.2 = 0) := by rw [GS.out]; rfl
  have G1 : Hid ((getS F).1 = [1, 2, 3, 0, 2]) := by rw [GS.out]; rfl
  have GI : Hid (gdI ((1 : Nat) : Int) ((2 : Nat) : Int) ((3 : Nat) : Int)) := by show gdI _ _ _; decide
  have n0 : Hid (nodeOk 0 = true) := by show _ = _; decide
  go_enter Tryz.func8, Tryz.ntmps8
  go_upto_region 7 with (first
    | (go_at_call 9; refine (shnew_n 0 _ n0).mono ?_; rintro e w1 ⟨g, d, m, rfl, H1⟩
       have F1 : Hid (Sf w w1 M E g d m ((0 : Nat) : Int) false (fun _ => none) 0) := ⟨hE.out, H1.out.2.2.2.2.2.1, H1.out.1, H1.out.2.1.dw, H1.out.2.2.2.2.2.2, H1.out.2.2.1, H1.out.2.2.2.1, H1.out.2.2.2.2.1⟩
       have L1 : Hid (Shl w1 g 0 d) := H1.out.1
       have dm : Hid (g < w1.heap.size ∧ d < w1.heap.size ∧ m < w1.heap.size) := ⟨cell_lt L1.out.c0, F1.out.dv.lt⟩
       obtain ⟨gi, HG⟩ : ∃ gi, Hid (w1.heap.size = gi) := ⟨_, rfl⟩
       have C3 := conv_ab (w1.alloc (.cells #[.int .i64 1, .int .i64 2, .int .i64 3] 32))
       have s0 := const_sln (w1.alloc (.cells #[.int .i64 1, .int .i64 2, .int .i64 3] 32)) abL (2, 3) (by decide) (by decide)
       rw [World.size_alloc] at C3 s0
       obtain ⟨W3, HW3⟩ : ∃ W3, Hid ((w1.alloc (.cells #[.int .i64 1, .int .i64 2, .int .i64 3] 32)).alloc (.cells (abL.map bv).toArray 5 (2, 3)) = W3) := ⟨_, rfl⟩
       have b3 : Hid (Below w1.heap.size w1 W3) := by rw [← HW3.out]; exact alloc2 w1 _ _
       have S3 : Hid (Sln W3 (some ⟨w1.heap.size + 1, 0, none⟩) 2 abL) := by rw [← HW3.out]; exact s0
       have Z3 : Hid ((some (⟨w1.heap.size + 1, 0, none⟩ : Addr)) = none → 2 = 0) := fun h => by cases h
       have OK : Hid (okN [1, ((1 : Nat) : Int), (2 : Nat), (3 : Nat), (0 : Nat), (2 : Nat), 0] = true) := by show _ = _; decide
       have F3 : Hid (Sf w W3 M E g d m ((0 : Nat) : Int) false (fun _ => none) 0) := F1.out.below b3.out
       rw [HW3.out] at C3
       have i0 : Hid (W3.cell? ⟨gi, 0, none⟩ = some (.int .i64 1)) := by rw [← HW3.out, ← HG.out]; show _ = _; simp
       have i1 : Hid (W3.cell? ⟨gi, 1, none⟩ = some (.int .i64 2)) := by rw [← HW3.out, ← HG.out]; show _ = _; simp
       have i2 : Hid (W3.cell? ⟨gi, 2, none⟩ = some (.int .i64 3)) := by rw [← HW3.out, ← HG.out]; show _ = _; simp
       clear s0)
    | (go_at_call 17; refine (drive_n L1).mono ?_; rintro e w0 ⟨rfl, h00⟩; rw [h00]; clear h00)
    | (go_at_call 15; refine (refPut_n 1 2 3 0 2 2 2 _ abL S3 Z3 (by omega) OK (by omega)).mono ?_; rintro e w4 ⟨af, N, cf, rfl, H4⟩
       rw [HF.out] at H4
       have F4 : Hid (Sf w w4 M E g d m ((0 : Nat) : Int) false (fun _ => none) 0) := F3.out.below H4.out.2.2
       have S4 : Hid (Sln w4 af N F) := H4.out.1.sln (by have := H4.out.2.1; omega)
       have Z4 : Hid (af = none → cf = 0) := H4.out.1.cap0
       have hnc : N ≤ cf := H4.out.1.cap
       have P4 : Hid (∀ q, blkOf af = some q → q ≠ d ∧ q ≠ m) := fun q hq => by
         have h1 := H4.out.1.ge q hq
         have h2 := dm.out
         have h3 := b3.out.size
         omega
       have k0 : Hid (0 < 512) := by show 0 < 512; omega)
    | (go_at_call 16; refine (put_v F4 k0 S4 Z4 hnc P4 G0 G1).mono ?_; rintro e w5 ⟨rfl, H5⟩
       have F5 : Hid (Sf w w5 M E g d m ((0 : Nat) : Int) false _ 1) := H5.out.1
       have S5 : Hid (Sln w5 af N F) := S4.out.ch H5.out.2 P4.out
       have L5 : Hid (Shl w5 g 0 d) := F5.out.shl
       have D5 : Hid (Dw w5 d m _ 1 false) := F5.out.dv))
  rw [HG.out]
  have FB : Hid (bytesOf (spell F) = F) := bytesOf_spell S4.out.lt
  have gdm : Hid (gi ≠ d ∧ gi ≠ m) := by have h1 := dm.out; have h2 := HG.out; exact ⟨by omega, by omega⟩
  have CH : Hid (∀ i x, W3.cell? ⟨gi, i, none⟩ = some x → w5.cell? ⟨gi, i, none⟩ = some x) := fun i x h => by
    have h1 := (H4.out.2.2.cell (p := ⟨gi, i, none⟩) (cell_lt h)).trans h
    exact (H5.out.2.cell (cell_lt h1) gdm.out).trans h1
  have j0 : Hid (w5.cell? ⟨gi, 0, none⟩ = some (.int .i64 1)) := CH.out 0 _ i0.out
  have j1 : Hid (w5.cell? ⟨gi, 1, none⟩ = some (.int .i64 2)) := CH.out 1 _ i1.out
  have j2 : Hid (w5.cell? ⟨gi, 2, none⟩ = some (.int .i64 3)) := CH.out 2 _ i2.out
  have BS : Hid ((spell F).size ≤ 140737488352256) := by
    have h1 := bytesOf_length (spell F)
    rw [FB.out] at h1
    have h2 := S4.out.len
    have h3 := H4.out.2.1
    show _ ≤ _
    omega
  have GB0 : Hid ((getS (bytesOf (spell F))).2.2 = 0) := by rw [FB.out]; exact G0
  have GB1 : Hid ((getS (bytesOf (spell F))).1 = [1, 2, 3, 0, 2]) := by rw [FB.out]; exact G1
  have b5 : Hid (Below w.heap.size w w5) := F5.out.bel
  go_wp2_with (first
    | (go_at_call 17; refine (drive_n L5).mono ?_; rintro e w0 ⟨rfl, h00⟩; rw [h00]; clear h00)
    | (go_at_call 19; refine (crash_w D5).mono ?_; rintro e w6 ⟨rfl, H6⟩
       have F6 : Hid (Sf w w6 M E g d m ((0 : Nat) : Int) false _ 512) := F5.out.ch H6.out.2 H6.out.1
       have S6 : Hid (Sln w6 af N F) := S5.out.ch H6.out.2 P4.out
       have m0 : w6.cell? ⟨gi, 0, none⟩ = some (.int .i64 1) := (H6.out.2.cell (cell_lt j0.out) gdm.out).trans j0.out
       have m1 : w6.cell? ⟨gi, 1, none⟩ = some (.int .i64 2) := (H6.out.2.cell (cell_lt j1.out) gdm.out).trans j1.out
       have m2 : w6.cell? ⟨gi, 2, none⟩ = some (.int .i64 3) := (H6.out.2.cell (cell_lt j2.out) gdm.out).trans j2.out
       clear H6)
    | (go_at_call 20; refine (get_v (f := ⟨spell F, spell F, true⟩) F6 GI (by show cr _ = _; rw [upd_same]; rfl) BS.out GB0 GB1).mono ?_; rintro e w7 ⟨q, nq, cq, rfl, H7⟩
       have S7 : Hid (Sln w7 (some ⟨q, 0, none⟩) nq F) := by have h := H7.out.1; rw [FB.out] at h; exact h
       have A7 : Hid (Sln w7 af N F) := S6.out.below H7.out.2.2.2
       have CVg := conv_n (k := cq) S7
       have CVf := conv_n (k := cf) A7))
  go_ret
  refine ⟨by first | rfl | simp, F6.out.bel.trans (H7.out.2.2.2.mono F6.out.bel.size)⟩
end Go.Proofs.YtkdgakcmhnadfaaGreatDoor
