import Derived.Test.YtkdgakcmhnadfaaGreatDoorMKh
/- Le -/
/- isFrameOf, Get and Has of package shelf, where the file is no frame of this blob. -/
namespace Go.Proofs.YtkdgakcmhnadfaaGreatDoor
open Go.ChangeShapes Go.WideShapes Go.ChangeAt Go.RowKit
set_option maxRecDepth 20000
set_option linter.unusedVariables false
set_option linter.unusedSimpArgs false
theorem eqi2 (d : Nat) (x y : Int) (w : World) : (Op.equalIn (d + 1) 3 (.int .i64 x) (.int .i64 y)).run Tryz.prog w = .ok (x == y) w := by
  exact run_equalIn_int w d 3 .i64 .i64 x y Tryz.underlying3
theorem eq_ids (a b c x y z : Int) (w : World) : (Op.equalIn 10000 32 (.agg #[.int .i64 a, .int .i64 b, .int .i64 c]) (.agg #[.int .i64 x, .int .i64 y, .int .i64 z])).run Tryz.prog w = .ok (a == x && b == y && c == z) w := by
  rw [run_equalIn_struct w 9999 32 _ _ (by kernel_rfl) (by kernel_rfl)]
  simp only [Program.fieldsOf, Tryz.underlying32, Op.eqFields]
  rw [if_pos (by decide)]
  simp only [Sem.run_bind, part3 #[.int .i64 a, .int .i64 b, .int .i64 c] 0 a rfl, part3 #[.int .i64 x, .int .i64 y, .int .i64 z] 0 x rfl, Result.andThen_ok, eqi2]
  cases ha : a == x
  · simp
  · simp only [Bool.not_true, Bool.false_eq_true, if_false]
    rw [if_pos (by decide)]
    simp only [Sem.run_bind, part3 #[.int .i64 a, .int .i64 b, .int .i64 c] 1 b rfl, part3 #[.int .i64 x, .int .i64 y, .int .i64 z] 1 y rfl, Result.andThen_ok, eqi2]
    cases hb : b == y
    · simp
    · simp only [Bool.not_true, Bool.false_eq_true, if_false]
      rw [if_pos (by decide)]
      simp only [Sem.run_bind, part3 #[.int .i64 a, .int .i64 b, .int .i64 c] 2 c rfl, part3 #[.int .i64 x, .int .i64 y, .int .i64 z] 2 z rfl, Result.andThen_ok, eqi2]
      cases hc : c == z <;> simp
/- is this frame one of this blob and node? -/
def isFr (F : List Nat) (a b c node : Int) : Prop := (getS F).2.2 = 0 ∧ ∃ s1 s2 s3 s4 s5 : Nat, (getS F).1 = [s1, s2, s3, s4, s5] ∧ (s1 : Int) = a ∧ (s2 : Int) = b ∧ (s3 : Int) = c ∧ (s4 : Int) = node
set_option maxHeartbeats 2000000 in
theorem isframe_no {w : World} {g d : Nat} {a : Option Addr} {n c M : Nat} {F : List Nat} {E : Nat → Addr} {node b1 b2 b3 : Int} (hG : Hid (Shl w g node d)) (hS : Hid (Sln w a n F)) (hc : Hid (a = none → c = 0)) (hnc : n ≤ c) (hE : Hid (Env w M E)) (hno : Hid (¬ isFr F b1 b2 b3 node)) :
    Calls Tryz.prog 61 #[.pointer (some ⟨g, 0, none⟩), .slice a n c, idv b1 b2 b3] w fun e w' => e = .returned (.bool false) ∧ Hid (Below w.heap.size w w') := by
  have b1' := alloc1 w (.cells #[.int .i64 b1, .int .i64 b2, .int .i64 b3] 32)
  have S1 : Hid (Sln (w.alloc (.cells #[.int .i64 b1, .int .i64 b2, .int .i64 b3] 32)) a n F) := hS.out.below b1'
  have E0 := hE.out.below b1'
  have M1 : Hid (Mst (w.alloc (.cells #[.int .i64 b1, .int .i64 b2, .int .i64 b3] 32))) := E0.mst
  have E1 : Hid (Sent (w.alloc (.cells #[.int .i64 b1, .int .i64 b2, .int .i64 b3] 32)) M E) := E0.sent
  have K1 : Hid (Kst (w.alloc (.cells #[.int .i64 b1, .int .i64 b2, .int .i64 b3] 32))) := E0.kst
  have B1 : Hid (Below w.heap.size w (w.alloc (.cells #[.int .i64 b1, .int .i64 b2, .int .i64 b3] 32))) := b1'
  have h4 : 8 ≤ M := by have := hE.out.big; omega
  clear b1' E0
  obtain ⟨s1, s2, s3, s4, s5, hs0⟩ := getS_five F
  have hs : Hid ((getS F).1 = [s1, s2, s3, s4, s5]) := hs0
  clear hs0
  obtain ⟨X, HX⟩ : ∃ X, Hid (erv E (getS F).2.2 = X) := ⟨_, rfl⟩
  go_enter Tryz.func61, Tryz.ntmps61
  go_wp2_with (first
    | (go_at_call 53; refine (get_all S1 hc hnc M1 E1 h4 K1).mono ?_; rintro e w1 ⟨a', m, c', v, rfl, H1⟩
       have hv : v = X := H1.out.1.trans HX.out
       subst hv
       rw [hs.out]
       simp only [cs, wv, List.map]
       have B2 : Hid (Below w.heap.size w w1) := B1.out.trans (H1.out.2.2.mono B1.out.size)
       have q : ∀ ob j, ((w1.alloc ob).drewN j).cell? ⟨g, 0, none⟩ = some (.int .i64 node) := fun ob j => by rw [cell_drewN]; exact (((B2.out.trans ((alloc1 w1 ob).mono B2.out.size)).cell (p := ⟨g, 0, none⟩) (cell_lt hG.out.c0)).trans hG.out.c0)
       have x0 : ∀ ob j, ((w1.alloc ob).drewN j).cell? ⟨w.heap.size, 0, none⟩ = some (.int .i64 b1) := fun ob j => by rw [cell_drewN]; exact ((H1.out.2.2.trans ((alloc1 w1 ob).mono H1.out.2.2.size)).cell (p := ⟨w.heap.size, 0, none⟩) (by simp)).trans (by simp)
       have x1 : ∀ ob j, ((w1.alloc ob).drewN j).cell? ⟨w.heap.size, 1, none⟩ = some (.int .i64 b2) := fun ob j => by rw [cell_drewN]; exact ((H1.out.2.2.trans ((alloc1 w1 ob).mono H1.out.2.2.size)).cell (p := ⟨w.heap.size, 1, none⟩) (by simp)).trans (by simp)
       have x2 : ∀ ob j, ((w1.alloc ob).drewN j).cell? ⟨w.heap.size, 2, none⟩ = some (.int .i64 b3) := fun ob j => by rw [cell_drewN]; exact ((H1.out.2.2.trans ((alloc1 w1 ob).mono H1.out.2.2.size)).cell (p := ⟨w.heap.size, 2, none⟩) (by simp)).trans (by simp)
       clear H1))
  obtain ⟨V, HV⟩ : ∃ V, Hid (w1.alloc (.cells #[.int .i64 (s1 : Int), .int .i64 (s2 : Int), .int .i64 (s3 : Int), .int .i64 (s4 : Int), .int .i64 (s5 : Int)] 45) = V) := ⟨_, rfl⟩
  obtain ⟨gs, Hgs⟩ : ∃ gs, Hid (w1.heap.size = gs) := ⟨_, rfl⟩
  obtain ⟨gb, Hgb⟩ : ∃ gb, Hid (w.heap.size = gb) := ⟨_, rfl⟩
  have y0 : ∀ j, (V.drewN j).cell? ⟨gs, 0, none⟩ = some (.int .i64 (s1 : Int)) := fun j => by rw [cell_drewN, ← HV.out, ← Hgs.out]; simp
  have y1 : ∀ j, (V.drewN j).cell? ⟨gs, 1, none⟩ = some (.int .i64 (s2 : Int)) := fun j => by rw [cell_drewN, ← HV.out, ← Hgs.out]; simp
  have y2 : ∀ j, (V.drewN j).cell? ⟨gs, 2, none⟩ = some (.int .i64 (s3 : Int)) := fun j => by rw [cell_drewN, ← HV.out, ← Hgs.out]; simp
  have y3 : ∀ j, (V.drewN j).cell? ⟨gs, 3, none⟩ = some (.int .i64 (s4 : Int)) := fun j => by rw [cell_drewN, ← HV.out, ← Hgs.out]; simp
  have q0 : ∀ j, (V.drewN j).cell? ⟨g, 0, none⟩ = some (.int .i64 node) := fun j => by rw [← HV.out]; exact q _ j
  have z0 : ∀ j, (V.drewN j).cell? ⟨gb, 0, none⟩ = some (.int .i64 b1) := fun j => by rw [← HV.out, ← Hgb.out]; exact x0 _ j
  have z1 : ∀ j, (V.drewN j).cell? ⟨gb, 1, none⟩ = some (.int .i64 b2) := fun j => by rw [← HV.out, ← Hgb.out]; exact x1 _ j
  have z2 : ∀ j, (V.drewN j).cell? ⟨gb, 2, none⟩ = some (.int .i64 b3) := fun j => by rw [← HV.out, ← Hgb.out]; exact x2 _ j
  have FIN : Hid (Below w.heap.size w V) := by rw [← HV.out]; exact B2.out.trans ((alloc1 w1 _).mono B2.out.size)
  rw [HV.out, Hgs.out, Hgb.out]
  clear x0 x1 x2 q
  by_cases h0 : (getS F).2.2 = 0
  · have hv : v = .nilIface := by rw [← HX.out, h0]; rfl
    subst hv
    by_cases hid : (s1 : Int) = b1 ∧ (s2 : Int) = b2 ∧ (s3 : Int) = b3
    · have hn : ((s4 : Int) == node) = false := by
        cases h : ((s4 : Int) == node) with
        | false => rfl
        | true => exact absurd ⟨h0, s1, s2, s3, s4, s5, hs.out, hid.1, hid.2.1, hid.2.2, by simpa using h⟩ hno.out
      obtain ⟨rfl, rfl, rfl⟩ := hid
      have EQ := eq_id (s1 : Int) (s2 : Int) (s3 : Int)
      clear h0
      go_quiet (fail)
      go_wp2
      go_ret
      exact ⟨rfl, below_drewN FIN.out _⟩
    · have EQ : ∀ w, (Op.equalIn 10000 32 (.agg #[.int .i64 (s1 : Int), .int .i64 (s2 : Int), .int .i64 (s3 : Int)]) (.agg #[.int .i64 b1, .int .i64 b2, .int .i64 b3])).run Tryz.prog w = .ok false w := fun w => by
        rw [eq_ids]
        cases h : ((s1 : Int) == b1 && (s2 : Int) == b2 && (s3 : Int) == b3) with
        | false => rfl
        | true => simp at h; exact absurd ⟨h.1.1, h.1.2, h.2⟩ hid
      clear h0 hid
      go_quiet (fail)
      go_wp2
      go_ret
      exact ⟨rfl, below_drewN FIN.out _⟩
  · have hv : v = .iface 273 (.pointer (some (E (era (getS F).2.2)))) := by rw [← HX.out, erv_pos h0]
    subst hv
    clear h0
    go_quiet (fail)
    go_wp2
    go_ret
    exact ⟨rfl, below_drewN FIN.out _⟩
set_option maxHeartbeats 2000000 in
theorem get_lost {w0 w : World} {M : Nat} {E : Nat → Addr} {g d m s1 s2 s3 s4 : Nat} {v : ByteArray → Option Fl} {k : Nat} {fu : Bool} (hF : Hid (Sf w0 w M E g d m (s4 : Int) fu v k)) {f : Fl} (GI : Hid (gdI s1 s2 s3)) (hv : Hid (v (nmS 98 s1 s2 s3) = some f)) (hb : f.b.size ≤ 140737488352256) (hno : Hid (¬ isFr (bytesOf f.b) s1 s2 s3 s4)) :
    Calls Tryz.prog 20 #[.pointer (some ⟨g, 0, none⟩), idv s1 s2 s3] w fun e w' => e = .returned (.tuple #[.slice none 0 0, er (E 2)]) ∧ Hid (Below w.heap.size w w') := by
  obtain ⟨fi, HI⟩ : ∃ fi, Hid (nmS 98 s1 s2 s3 = fi) := ⟨_, rfl⟩
  have N2 : Hid (nm fi = true) := by rw [← HI.out]; exact b_nm GI.out
  rw [HI.out] at hv
  have I6 := gdI_64 GI.out
  have g1 : Hid (idOk s1 s2 s3 = true) := by
    have := GI.out
    unfold gdI at this
    show _ = _
    simp [idOk, this]
  have h4 : 8 ≤ M := by have := hF.out.env.big; omega
  obtain ⟨gb, HB⟩ : ∃ gb, Hid (w.heap.size = gb) := ⟨_, rfl⟩
  go_enter Tryz.func20, Tryz.ntmps20
  go_upto_region 3 with (first
    | (go_at_call 57; refine (isgood_n (s1 : Int) s2 s3 _).mono ?_; rintro e w1 ⟨rfl, H1⟩; rw [g1.out]))
  obtain ⟨V, HV⟩ : ∃ V, Hid (w1.drew = V) := ⟨_, rfl⟩
  have BV : Hid (Below w.heap.size w V) := by rw [← HV.out]; exact ((alloc1 w _).trans (H1.out.mono (by simp))).drew
  have K0 : Oq w1.drew g d gb (s1 : Int) (s2 : Int) (s3 : Int) := by
    have h1 := H1.out.drew
    refine ⟨?_, ?_, ?_, ?_⟩
    · rw [HV.out]; exact (hF.out.below BV.out).shl.c1
    · rw [← HB.out]; exact (h1.cell (p := ⟨w.heap.size, 0, none⟩) (by simp)).trans (by simp)
    · rw [← HB.out]; exact (h1.cell (p := ⟨w.heap.size, 1, none⟩) (by simp)).trans (by simp)
    · rw [← HB.out]; exact (h1.cell (p := ⟨w.heap.size, 2, none⟩) (by simp)).trans (by simp)
  have FV : Hid (Sf w0 V M E g d m (s4 : Int) fu v k) := hF.out.below BV.out
  have T3 : Hid (Tab V) := FV.out.here.tab
  have DD : Hid (Dw V d m v k fu) := FV.out.dv
  refine wp_region_till (S := fun L W => Oq W g d gb (s1 : Int) (s2 : Int) (s3 : Int)) (by kernel_rfl) K0 (fun hS => ?_)
  rw [HB.out, HV.out]
  rw [HV.out] at hS
  clear K0 H1
  refine till_take (i := 0) (v := .pointer (some ⟨g, 0, none⟩)) rfl (by kernel_rfl) (by kernel_rfl) (by kernel_rfl) (fun _ _ _ h => h) (fun L w => Iff.rfl) (Or.inl ⟨by rfl, fun w => by go_simp⟩) hS (fun hSb => ?_)
  simp only [List.getElem_toArray, List.getElem_cons_zero, List.getElem_cons_succ, Act.put, List.setIfInBounds_toArray, List.set_cons_zero, List.set_cons_succ]
  clear hS
  refine till_take (i := 1) (v := .pointer (some ⟨g, 0, none⟩)) rfl (by kernel_rfl) (by kernel_rfl) (by kernel_rfl) (fun _ _ _ h => h) (fun L w => Iff.rfl) (Or.inl ⟨by rfl, fun w => by go_simp⟩) hSb (fun hS => ?_)
  simp only [List.getElem_toArray, List.getElem_cons_zero, List.getElem_cons_succ, Act.put, List.setIfInBounds_toArray, List.set_cons_zero, List.set_cons_succ]
  clear hSb
  refine till_take (i := 2) (v := .pointer (some ⟨g, 1, none⟩)) rfl (by kernel_rfl) (by kernel_rfl) (by kernel_rfl) (fun _ _ _ h => h) (fun L w => Iff.rfl) (Or.inl ⟨by rfl, fun w => by go_simp⟩) hS (fun hSb => ?_)
  simp only [List.getElem_toArray, List.getElem_cons_zero, List.getElem_cons_succ, Act.put, List.setIfInBounds_toArray, List.set_cons_zero, List.set_cons_succ]
  clear hS
  refine till_read (i := 3) (c := 6) (v := .pointer (some ⟨d, 0, none⟩)) (T := fun W => Oq W g d gb (s1 : Int) (s2 : Int) (s3 : Int)) rfl rfl (by kernel_rfl) (by kernel_rfl) (by kernel_rfl) (by kernel_rfl) (by kernel_rfl) (fun _ _ _ h => h) (fun L w => Iff.rfl) (fun L w h1 h2 => h2) (Or.inl ⟨by rfl, fun w h => by have q := h.p; go_simp⟩) hSb (fun hS => ?_)
  simp only [List.getElem_toArray, List.getElem_cons_zero, List.getElem_cons_succ, Act.put, List.setIfInBounds_toArray, List.set_cons_zero, List.set_cons_succ]
  clear hSb
  refine till_read (i := 4) (c := 5) (v := .agg #[.int .i64 (s1 : Int), .int .i64 (s2 : Int), .int .i64 (s3 : Int)]) (T := fun W => Oq W g d gb (s1 : Int) (s2 : Int) (s3 : Int)) rfl rfl (by kernel_rfl) (by kernel_rfl) (by kernel_rfl) (by kernel_rfl) (by kernel_rfl) (fun _ _ _ h => h) (fun L w => Iff.rfl) (fun L w h1 h2 => h2) (Or.inl ⟨by rfl, fun w h => by have q0 := h.x0; have q1 := h.x1; have q2 := h.x2; go_simp⟩) hS (fun hSb => ?_)
  simp only [List.getElem_toArray, List.getElem_cons_zero, List.getElem_cons_succ, Act.put, List.setIfInBounds_toArray, List.set_cons_zero, List.set_cons_succ]
  clear hS
  refine till_one (i := 5) (by kernel_rfl) rfl (fun K hK => ?_)
  simp only [List.getElem_toArray, List.getElem_cons_zero, List.getElem_cons_succ]
  rw [if_pos (by rfl)]
  go_simp
  go_wp2_with (go_at_call 59; refine (fileof_n s1 s2 s3 I6.1 I6.2.1 I6.2.2 T3).mono ?_; rintro e w2 ⟨rfl, H2⟩)
  rw [HI.out]
  refine hK.out _ _ (hSb.below H2.out) (fun hS => ?_)
  clear hK K
  try simp only [List.getElem_toArray, List.getElem_cons_zero, List.getElem_cons_succ, Act.put, List.setIfInBounds_toArray, List.set_cons_zero, List.set_cons_succ]
  clear hSb
  have D2 : Hid (Dw w2 d m v k fu) := DD.out.below H2.out
  refine till_one (i := 6) (by kernel_rfl) rfl (fun K hK => ?_)
  simp only [List.getElem_toArray, List.getElem_cons_zero, List.getElem_cons_succ]
  rw [if_pos (by rfl)]
  go_simp
  go_wp2_with (go_at_call 58; refine (read_w D2 fi f N2 hv hb).mono ?_; rintro e w3 ⟨gr, n, cr, rfl, H3⟩)
  refine hK.out _ _ (hS.below H3.out.2.1) (fun hSb => ?_)
  clear hK K
  try simp only [List.getElem_toArray, List.getElem_cons_zero, List.getElem_cons_succ, Act.put, List.setIfInBounds_toArray, List.set_cons_zero, List.set_cons_succ]
  clear hS
  refine till_take (i := 7) (v := .tuple #[.slice (some ⟨gr, 0, none⟩) n cr, .nilIface]) rfl (by kernel_rfl) (by kernel_rfl) (by kernel_rfl) (fun _ _ _ h => h) (fun L w => Iff.rfl) (Or.inl ⟨by rfl, fun w => by go_simp⟩) hSb (fun hS => ?_)
  simp only [List.getElem_toArray, List.getElem_cons_zero, List.getElem_cons_succ, Act.put, List.setIfInBounds_toArray, List.set_cons_zero, List.set_cons_succ]
  clear hSb
  refine till_take (i := 8) (v := .slice (some ⟨gr, 0, none⟩) n cr) rfl (by kernel_rfl) (by kernel_rfl) (by kernel_rfl) (fun _ _ _ h => h) (fun L w => Iff.rfl) (Or.inl ⟨by rfl, fun w => by go_simp⟩) hS (fun hSb => ?_)
  simp only [List.getElem_toArray, List.getElem_cons_zero, List.getElem_cons_succ, Act.put, List.setIfInBounds_toArray, List.set_cons_zero, List.set_cons_succ]
  clear hS
  refine till_take (i := 9) (v := .nilIface) rfl (by kernel_rfl) (by kernel_rfl) (by kernel_rfl) (fun _ _ _ h => h) (fun L w => Iff.rfl) (Or.inl ⟨by rfl, fun w => by go_simp⟩) hSb (fun hS => ?_)
  simp only [List.getElem_toArray, List.getElem_cons_zero, List.getElem_cons_succ, Act.put, List.setIfInBounds_toArray, List.set_cons_zero, List.set_cons_succ]
  clear hSb
  refine till_one (i := 10) (by kernel_rfl) rfl (fun K hK => ?_)
  simp only [List.getElem_toArray, List.getElem_cons_zero, List.getElem_cons_succ]
  rw [if_pos (by rfl)]
  go_simp
  refine hK.out _ _ (hS) (fun hSb => ?_)
  clear hK K
  try simp only [List.getElem_toArray, List.getElem_cons_zero, List.getElem_cons_succ, Act.put, List.setIfInBounds_toArray, List.set_cons_zero, List.set_cons_succ]
  clear hS
  refine till_one (i := 11) (by kernel_rfl) rfl (fun K hK => ?_)
  simp only [List.getElem_toArray, List.getElem_cons_zero, List.getElem_cons_succ]
  rw [if_pos (by rfl)]
  go_simp
  refine hK.out _ _ (hSb) (fun hS => ?_)
  clear hK K
  try simp only [List.getElem_toArray, List.getElem_cons_zero, List.getElem_cons_succ, Act.put, List.setIfInBounds_toArray, List.set_cons_zero, List.set_cons_succ]
  clear hSb
  have QE : Hid (Oq w3 g d gb (s1 : Int) (s2 : Int) (s3 : Int)) := hS
  refine till_done (by kernel_rfl) ?_ _
  clear hS
  have B3 : Hid (Below w.heap.size w w3) := (BV.out.trans (H2.out.mono BV.out.size)).trans (H3.out.2.1.mono (by have := BV.out.size; have := H2.out.size; omega))
  have F3 : Hid (Sf w0 w3 M E g d m (s4 : Int) fu v k) := hF.out.below B3.out
  have e3 : w3.cell? ⟨3, 0, none⟩ = some (.iface 273 (.pointer (some (E 3)))) := F3.out.here.er 3 (by omega)
  have y0 := QE.out.x0
  have y1 := QE.out.x1
  have y2 := QE.out.x2
  have L3 : Hid (Shl w3 g (s4 : Int) d) := F3.out.shl
  have S3 : Hid (Sln w3 (some ⟨gr, 0, none⟩) n (bytesOf f.b)) := H3.out.1
  have hc : Hid ((some ⟨gr, 0, none⟩ : Option Addr) = none → cr = 0) := fun h => by cases h
  have hnc : n ≤ cr := H3.out.2.2.2.1
  have V3 : Hid (Env w3 M E) := F3.out.here
  go_wp2_with (first
    | (go_at_call 60; refine (is_nil (E 3) _).mono ?_; rintro e w0' ⟨rfl, h00⟩; rw [h00]; clear h00)
    | (go_at_call 61; refine (isframe_no L3 S3 hc hnc V3 hno).mono ?_; rintro e w4 ⟨rfl, H4⟩))
  have e2 : w4.cell? ⟨2, 0, none⟩ = some (.iface 273 (.pointer (some (E 2)))) := (V3.out.below H4.out).sent.c 2 ⟨by have := V3.out.big; omega, fun _ => by omega⟩
  go_region
  all_goals
    go_wp2
    go_ret2
    exact ⟨rfl, (B3.out.trans (H4.out.mono B3.out.size)).drew⟩
theorem has_lost {w0 w : World} {M : Nat} {E : Nat → Addr} {g d m s1 s2 s3 s4 : Nat} {v : ByteArray → Option Fl} {k : Nat} {fu : Bool} (hF : Hid (Sf w0 w M E g d m (s4 : Int) fu v k)) {f : Fl} (GI : Hid (gdI s1 s2 s3)) (hv : Hid (v (nmS 98 s1 s2 s3) = some f)) (hb : f.b.size ≤ 140737488352256) (hno : Hid (¬ isFr (bytesOf f.b) s1 s2 s3 s4)) :
    Calls Tryz.prog 25 #[.pointer (some ⟨g, 0, none⟩), idv s1 s2 s3] w fun e w' => e = .returned (.bool false) ∧ Hid (Below w.heap.size w w') := by
  have F1 : ∀ ob, Hid (Sf w0 (w.alloc ob) M E g d m (s4 : Int) fu v k) := fun ob => hF.out.below (alloc1 w ob)
  go_enter Tryz.func25, Tryz.ntmps25
  go_wp2_with (go_at_call 20; refine (get_lost (F1 _) GI hv hb hno).mono ?_; rintro e w1 ⟨rfl, H1⟩)
  go_ret
  exact ⟨rfl, (alloc1 w _).trans (H1.out.mono (by simp))⟩
theorem has_v {w0 w : World} {M : Nat} {E : Nat → Addr} {g d m s1 s2 s3 s4 s5 : Nat} {v : ByteArray → Option Fl} {k : Nat} {fu : Bool} (hF : Hid (Sf w0 w M E g d m (s4 : Int) fu v k)) {f : Fl} (GI : Hid (gdI s1 s2 s3)) (hv : Hid (v (nmS 98 s1 s2 s3) = some f)) (hb : f.b.size ≤ 140737488352256) (h0 : Hid ((getS (bytesOf f.b)).2.2 = 0)) (hs : Hid ((getS (bytesOf f.b)).1 = [s1, s2, s3, s4, s5])) :
    Calls Tryz.prog 25 #[.pointer (some ⟨g, 0, none⟩), idv s1 s2 s3] w fun e w' => e = .returned (.bool true) ∧ Hid (Below w.heap.size w w') := by
  have F1 : ∀ ob, Hid (Sf w0 (w.alloc ob) M E g d m (s4 : Int) fu v k) := fun ob => hF.out.below (alloc1 w ob)
  go_enter Tryz.func25, Tryz.ntmps25
  go_wp2_with (go_at_call 20; refine (get_v (F1 _) GI hv hb h0 hs).mono ?_; rintro e w1 ⟨q, n, c, rfl, H1⟩)
  go_ret
  exact ⟨rfl, (alloc1 w _).trans (H1.out.2.2.2.mono (by simp))⟩
end Go.Proofs.YtkdgakcmhnadfaaGreatDoor
