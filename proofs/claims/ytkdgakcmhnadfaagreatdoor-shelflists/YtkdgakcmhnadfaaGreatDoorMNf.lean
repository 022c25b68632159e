import Derived.Test.YtkdgakcmhnadfaaGreatDoorMKh
/- Nf -/
/- Put on a full drive; Delete of package shelf. -/
namespace Go.Proofs.YtkdgakcmhnadfaaGreatDoor
open Go.ChangeShapes Go.WideShapes Go.ChangeAt Go.RowKit
set_option maxRecDepth 20000
set_option linter.unusedVariables false
set_option linter.unusedSimpArgs false
set_option maxHeartbeats 2000000 in
theorem store_full {w0 w : World} {M : Nat} {E : Nat → Addr} {g d m : Nat} {node : Int} {v : ByteArray → Option Fl} {k : Nat} (hF : Hid (Sf w0 w M E g d m node true v k)) (a b c : Int) (hi : Hid (gdI a b c)) (x : Value) :
    Calls Tryz.prog 54 #[.pointer (some ⟨g, 0, none⟩), idv a b c, x] w fun e w' => e = .returned (er (E 1)) ∧ Hid (Below w.heap.size w w') := by
  obtain ⟨st, HT⟩ : ∃ st, Hid (nmS 116 a b c = st) := ⟨_, rfl⟩
  have N1 : Hid (nm st = true) := by rw [← HT.out]; exact t_nm hi.out
  have I6 := gdI_64 hi.out
  have T1 : ∀ ob, Hid (Tab (w.alloc ob)) := fun ob => hF.out.here.tab.below (alloc1 w ob)
  go_enter Tryz.func54, Tryz.ntmps54
  go_wp2_with (first
    | (go_at_call 92; refine (stageof_n a b c I6.1 I6.2.1 I6.2.2 (T1 _)).mono ?_; rintro e w1 ⟨rfl, H1⟩
       rw [HT.out]
       have B1 : Hid (Below w.heap.size w w1) := (alloc1 w _).trans (H1.out.mono (by simp))
       have F1 : Hid (Sf w0 w1 M E g d m node true v k) := hF.out.below B1.out
       have c1 := F1.out.shl.c1
       have D1 : Hid (Dw w1 d m v k true) := F1.out.dv
       have R1 : Hid (Er w1 E) := F1.out.here.er
       clear H1)
    | (go_at_call 42; refine (write_full_w D1 st R1 N1 x).mono ?_; rintro e w2 ⟨rfl, H2⟩))
  go_ret
  exact ⟨rfl, B1.out.trans (H2.out.mono B1.out.size)⟩
set_option maxHeartbeats 2000000 in
theorem put_full {w0 w : World} {M : Nat} {E : Nat → Addr} {g d m s1 s2 s3 s4 s5 : Nat} {v : ByteArray → Option Fl} {k : Nat} (hF : Hid (Sf w0 w M E g d m (s4 : Int) true v k)) {p : Option Addr} {n cp : Nat} {F : List Nat} (hS : Hid (Sln w p n F)) (hc : Hid (p = none → cp = 0)) (hnc : n ≤ cp) (h0 : Hid ((getS F).2.2 = 0)) (hs : Hid ((getS F).1 = [s1, s2, s3, s4, s5])) :
    Calls Tryz.prog 16 #[.pointer (some ⟨g, 0, none⟩), .slice p n cp] w fun e w' => e = .returned (er (E 1)) ∧ Hid (Below w.heap.size w w') := by
  have GI : Hid (gdI s1 s2 s3) := gd_of hS.out.lt h0.out hs.out
  have M1 : Hid (Mst w) := hF.out.here.mst
  have E1 : Hid (Sent w M E) := hF.out.here.sent
  have K1 : Hid (Kst w) := hF.out.here.kst
  have h4 : 8 ≤ M := by have := hF.out.env.big; omega
  go_enter Tryz.func16, Tryz.ntmps16
  go_upto_region 4 with (first
    | (go_at_call 53; refine (get_all hS hc hnc M1 E1 h4 K1).mono ?_; rintro e w1 ⟨a', m', c', vv, rfl, H1⟩
       have hv : vv = .nilIface := by have h := H1.out.1; rw [h0.out] at h; exact h
       subst hv
       rw [hs.out]
       simp only [cs, wv, List.map]
       have B1 : Hid (Below w.heap.size w w1) := H1.out.2.2
       clear H1))
  obtain ⟨gs, Hgs⟩ : ∃ gs, Hid (w1.heap.size = gs) := ⟨_, rfl⟩
  obtain ⟨V, HV⟩ : ∃ V, Hid ((w1.alloc (.cells #[.int .i64 (s1 : Int), .int .i64 (s2 : Int), .int .i64 (s3 : Int), .int .i64 (s4 : Int), .int .i64 (s5 : Int)] 45)).drew = V) := ⟨_, rfl⟩
  have BV : Hid (Below w.heap.size w V) := by rw [← HV.out]; exact (B1.out.trans ((alloc1 w1 _).mono B1.out.size)).drew
  have K0 : Pq (w1.alloc (.cells #[.int .i64 (s1 : Int), .int .i64 (s2 : Int), .int .i64 (s3 : Int), .int .i64 (s4 : Int), .int .i64 (s5 : Int)] 45)).drew g gs s4 := by
    refine ⟨?_, ?_⟩
    · rw [← Hgs.out]; simp
    · rw [HV.out]; exact (hF.out.below BV.out).shl.c0
  have y0 : V.cell? ⟨gs, 0, none⟩ = some (.int .i64 (s1 : Int)) := by rw [← HV.out, ← Hgs.out]; simp
  have y1 : V.cell? ⟨gs, 1, none⟩ = some (.int .i64 (s2 : Int)) := by rw [← HV.out, ← Hgs.out]; simp
  have y2 : V.cell? ⟨gs, 2, none⟩ = some (.int .i64 (s3 : Int)) := by rw [← HV.out, ← Hgs.out]; simp
  have FV : Hid (Sf w0 V M E g d m (s4 : Int) true v k) := hF.out.below BV.out
  have SV : Hid (Sln V p n F) := hS.out.below BV.out
  refine wp_region_till (S := fun L W => Pq W g gs s4) (by kernel_rfl) K0 (fun hS => ?_)
  rw [Hgs.out, HV.out]
  rw [HV.out] at hS
  clear K0
  refine till_take (i := 0) (v := .pointer (some ⟨gs, 3, none⟩)) rfl (by kernel_rfl) (by kernel_rfl) (by kernel_rfl) (fun _ _ _ h => h) (fun L w => Iff.rfl) (Or.inl ⟨by rfl, fun w => by go_simp⟩) hS (fun hSb => ?_)
  simp only [List.getElem_toArray, List.getElem_cons_zero, List.getElem_cons_succ, Act.put, List.setIfInBounds_toArray, List.set_cons_zero, List.set_cons_succ]
  clear hS
  refine till_read (i := 1) (c := 6) (v := .int .i64 (s4 : Int)) (T := fun W => Pq W g gs s4) rfl rfl (by kernel_rfl) (by kernel_rfl) (by kernel_rfl) (by kernel_rfl) (by kernel_rfl) (fun _ _ _ h => h) (fun L w => Iff.rfl) (fun L w h1 h2 => h2) (Or.inl ⟨by rfl, fun w h => by have q := h.x; go_simp⟩) hSb (fun hS => ?_)
  simp only [List.getElem_toArray, List.getElem_cons_zero, List.getElem_cons_succ, Act.put, List.setIfInBounds_toArray, List.set_cons_zero, List.set_cons_succ]
  clear hSb
  refine till_take (i := 2) (v := .pointer (some ⟨g, 0, none⟩)) rfl (by kernel_rfl) (by kernel_rfl) (by kernel_rfl) (fun _ _ _ h => h) (fun L w => Iff.rfl) (Or.inl ⟨by rfl, fun w => by go_simp⟩) hS (fun hSb => ?_)
  simp only [List.getElem_toArray, List.getElem_cons_zero, List.getElem_cons_succ, Act.put, List.setIfInBounds_toArray, List.set_cons_zero, List.set_cons_succ]
  clear hS
  refine till_take (i := 3) (v := .pointer (some ⟨g, 0, none⟩)) rfl (by kernel_rfl) (by kernel_rfl) (by kernel_rfl) (fun _ _ _ h => h) (fun L w => Iff.rfl) (Or.inl ⟨by rfl, fun w => by go_simp⟩) hSb (fun hS => ?_)
  simp only [List.getElem_toArray, List.getElem_cons_zero, List.getElem_cons_succ, Act.put, List.setIfInBounds_toArray, List.set_cons_zero, List.set_cons_succ]
  clear hSb
  refine till_take (i := 4) (v := .pointer (some ⟨g, 0, none⟩)) rfl (by kernel_rfl) (by kernel_rfl) (by kernel_rfl) (fun _ _ _ h => h) (fun L w => Iff.rfl) (Or.inl ⟨by rfl, fun w => by go_simp⟩) hS (fun hSb => ?_)
  simp only [List.getElem_toArray, List.getElem_cons_zero, List.getElem_cons_succ, Act.put, List.setIfInBounds_toArray, List.set_cons_zero, List.set_cons_succ]
  clear hS
  refine till_read (i := 5) (c := 6) (v := .int .i64 (s4 : Int)) (T := fun W => Pq W g gs s4) rfl rfl (by kernel_rfl) (by kernel_rfl) (by kernel_rfl) (by kernel_rfl) (by kernel_rfl) (fun _ _ _ h => h) (fun L w => Iff.rfl) (fun L w h1 h2 => h2) (Or.inl ⟨by rfl, fun w h => by have q := h.z; go_simp⟩) hSb (fun hS => ?_)
  simp only [List.getElem_toArray, List.getElem_cons_zero, List.getElem_cons_succ, Act.put, List.setIfInBounds_toArray, List.set_cons_zero, List.set_cons_succ]
  clear hSb
  refine till_take (i := 6) (v := .bool false) rfl (by kernel_rfl) (by kernel_rfl) (by kernel_rfl) (fun _ _ _ h => h) (fun L w => Iff.rfl) (Or.inl ⟨by rfl, fun w => by go_simp⟩) hS (fun hSb => ?_)
  simp only [List.getElem_toArray, List.getElem_cons_zero, List.getElem_cons_succ, Act.put, List.setIfInBounds_toArray, List.set_cons_zero, List.set_cons_succ]
  clear hS
  refine till_done (by kernel_rfl) ?_ _
  clear hSb
  go_wp2_with (go_at_call 54; refine (store_full FV s1 s2 s3 GI (.slice p n cp)).mono ?_; rintro e w5 ⟨rfl, H5⟩)
  go_ret
  exact ⟨rfl, BV.out.trans (H5.out.mono BV.out.size)⟩
end Go.Proofs.YtkdgakcmhnadfaaGreatDoor
