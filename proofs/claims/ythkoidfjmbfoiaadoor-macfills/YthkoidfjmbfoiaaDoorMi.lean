/- The law MacFills walked: it returns true, and changes nothing that was there. -/
import Derived.Test.YthkoidfjmbfoiaaDoorMh
namespace Go.Proofs.YthkoidfjmbfoiaaDoor
open Go.ChangeShapes Go.WideShapes Go.ChangeAt Go.RowKit
set_option linter.unusedVariables false
set_option linter.unusedSimpArgs false
theorem mod_fit (x N : Int) (hN : 0 < N) (hM : N ≤ 140737488351233) : ∃ (t : Int) (i : Nat), Int.tmod x N = t ∧ IntKind.i64.wrap t = t ∧ IntKind.i64.wrap (t + N) = t + N ∧ Int.tmod (t + N) N = (i : Int) ∧ (i : Int) < N ∧ IntKind.i64.wrap (i : Int) = (i : Int) := by
  have h1 : Int.tmod x N < N := by have := Int.tmod_lt_of_pos x hN; omega
  have h2 : -N < Int.tmod x N := by
    have h3 := Int.tmod_lt_of_pos (-x) hN
    rw [Int.neg_tmod] at h3
    omega
  have h4 : 0 ≤ Int.tmod x N + N := by omega
  have h5 : 0 ≤ Int.tmod (Int.tmod x N + N) N := Int.tmod_nonneg _ h4
  have h6 : Int.tmod (Int.tmod x N + N) N < N := Int.tmod_lt_of_pos _ hN
  refine ⟨_, (Int.tmod (Int.tmod x N + N) N).toNat, rfl, ?_, ?_, ?_, ?_, ?_⟩
  · rw [IntKind.wrap_i64]; omega
  · rw [IntKind.wrap_i64]; omega
  · omega
  · omega
  · rw [IntKind.wrap_i64]; omega
theorem pad_more (l : List Nat) (i : Nat) (h : l.length + i ≤ 64) : Gs.pad (l ++ List.replicate i 0) = Gs.pad l := by
  unfold Gs.pad
  rw [List.append_assoc, List.replicate_append_replicate]
  congr 2
  simp
  omega
theorem mac_more (l m : List Nat) (i : Nat) (h : l.length + i ≤ 64) : Gs.mac (l ++ List.replicate i 0) m = Gs.mac l m := by
  have e : Gs.kblk (l ++ List.replicate i 0) = Gs.kblk l := by
    unfold Gs.kblk
    rw [if_neg (by simp; omega), if_neg (by omega), pad_more l i h]
  unfold Gs.mac
  rw [e]
set_option maxRecDepth 20000 in
set_option maxHeartbeats 1000000 in
theorem fills_n (w : World) {a0 a1 : Option Addr} {n0 c0 n1 c1 : Nat} {l0 l1 : List Nat} (S0 : Hid (Sln w a0 n0 l0)) (z0 : Hid (a0 = none → c0 = 0)) (hk0 : n0 ≤ c0) (S1 : Hid (Sln w a1 n1 l1)) (hk1 : n1 ≤ c1) (x : Int) (hKs : Hid (Kst w)) (h0 : Hid (0 < w.heap.size)) :
    Calls Tryd.prog 7 #[.slice a0 n0 c0, .slice a1 n1 c1, .int .i64 x] w fun e w' => e = .returned (.bool true) ∧ Hid (Below w.heap.size w w') := by
  by_cases h64 : 64 < n0
  · have i1 : (64 : Int) < (n0 : Int) := by omega
    go_enter Tryd.func7, Tryd.ntmps7
    go_wp2_with (first
      | (go_at_call 14; refine (malive_n _ hKs h0).mono ?_; rintro e w1 ⟨rfl, B1⟩))
    go_ret
    exact ⟨rfl, B1.out⟩
  · have i1 : ¬ ((64 : Int) < (n0 : Int)) := by omega
    obtain ⟨N, hN⟩ : ∃ N : Int, (64 : Int) - (n0 : Int) + 1 = N := ⟨_, rfl⟩
    have hN0 : 0 < N := by omega
    have hN1 : ¬ (N = 0) := by omega
    obtain ⟨t1, i, a1', a2', a3', a4', a5', a6'⟩ := mod_fit x N hN0 (by omega)
    have HI : Hid (n0 + i ≤ 64) := (show n0 + i ≤ 64 by omega)
    obtain ⟨sm, SM⟩ : ∃ sm, Hid (Gs.mac l0 l1 = sm) := ⟨_, rfl⟩
    have EQ : ∀ w', (Op.equalIn 10000 25 (.agg (cs .u8 sm)) (.agg (cs .u8 sm))).run Tryd.prog w' = .ok true w' := eq_same sm (by rw [← SM.out]; exact mac_length _ _)
    go_enter Tryd.func7, Tryd.ntmps7
    go_upto_region 6 with (first
      | (go_at_call 14; refine (malive_n _ hKs h0).mono ?_; rintro e w1 ⟨rfl, B1⟩))
    obtain ⟨w2, hw2⟩ : ∃ w2, w2 = w1.drew := ⟨_, rfl⟩
    have B2 : Hid (Below w.heap.size w w2) := by rw [hw2]; exact below_drewN B1.out 1
    have hw2' : ({ heap := w1.heap, tape := w1.tape, drawn := w1.drawn + 1, os := w1.os, output := w1.output } : World) = w2 := hw2.symm
    refine wp_region_any (by kernel_rfl) ?_
    rw [hw2']
    clear hw2 hw2'
    have B3 : Hid (Below w.heap.size w (w2.alloc (.cells #[] 5))) := B2.out.alloc B2.out.size _
    have own3 : (w2.alloc (.cells #[] 5)).ownsRow w2.heap.size 5 1 (.slice (some ⟨w2.heap.size, 0, none⟩) 0 0) 0 (([] : List Nat).map bv) := World.ownsRow_made w2 _ 0 (Nat.le_refl _) (by unfold maxLen; omega) rfl
    obtain ⟨g4, cap4, w4, ap4, own4, gr4⟩ := app_own (c := c0) own3 (S0.out.below B3.out) z0.out (by omega) (by simp)
    rw [Nat.zero_add, List.nil_append] at own4
    rw [Nat.zero_add] at ap4
    have B4 : Hid (Below w.heap.size w w4) := B3.out.grown gr4 B3.out.size (fun j e => by simp at e; have := B2.out.size; omega)
    have hb4 : w2.heap.size ≤ w4.heap.size := by have h7 := gr4.size; simp at h7; omega
    obtain ⟨g5, cap5, w5, ap5, own5, gr5⟩ := app_zer (m := i) own4 (by omega) hb4
    have B5 : Hid (Below w.heap.size w w5) := B4.out.grown gr5 B4.out.size (fun j e => by simp at e; have := (own4.lt g4 rfl).1; have := B2.out.size; omega)
    have S5 : Hid (Sln w5 (some ⟨g5, 0, none⟩) (n0 + i) (l0 ++ List.replicate i 0)) := Row.sln (own_row own5) (own5.lt g5 rfl).2 (by simp [S0.out.len]) (fun y hy => by
      rcases List.mem_append.1 hy with h | h
      · exact S0.out.lt y h
      · have := List.eq_of_mem_replicate h; omega) (by have := S0.out.len; simp; omega)
    have C5 : Hid (n0 + i ≤ cap5) := own_cap own5
    have AP4 : Hid ((Builtin.append_ #[22, 22] 22 #[.slice (some ⟨w2.heap.size, 0, none⟩) 0 0, .slice a0 n0 c0]).run Tryd.prog (w2.alloc (.cells #[] 5)) = .ok (.slice (some ⟨g4, 0, none⟩) n0 cap4) w4) := ap4
    have AP5 : Hid ((Builtin.append_ #[22, 3] 22 #[.slice (some ⟨g4, 0, none⟩) n0 cap4, .int .i64 (i : Int)]).run Tryd.prog w4 = .ok (.slice (some ⟨g5, 0, none⟩) (n0 + i) cap5) w5) := ap5
    have T5 : Hid (Kst w5) := hKs.out.below B5.out h0.out
    have Z5 : Hid (0 < w5.heap.size) := Nat.lt_of_lt_of_le h0.out B5.out.size
    have E5 : Hid (Sln w5 a0 n0 l0) := S0.out.below B5.out
    have F5 : Hid (Sln w5 a1 n1 l1) := S1.out.below B5.out
    clear own3 ap4 own4 gr4 hb4 ap5 own5 gr5 B3 B4
    refine wpAny_take (i := 1) (v := .slice a0 n0 c0) rfl (by kernel_rfl) (by kernel_rfl) (by kernel_rfl) (fun _ _ _ h => h) (Or.inl ⟨by rfl, fun w => by go_simp⟩) ?_
    simp only [List.getElem_toArray, List.getElem_cons_zero, List.getElem_cons_succ, Act.put, List.setIfInBounds_toArray, List.set_cons_zero, List.set_cons_succ]
    refine wpAny_take (i := 3) (v := .int .i64 x) rfl (by kernel_rfl) (by kernel_rfl) (by kernel_rfl) (fun _ _ _ h => h) (Or.inl ⟨by rfl, fun w => by go_simp⟩) ?_
    simp only [List.getElem_toArray, List.getElem_cons_zero, List.getElem_cons_succ, Act.put, List.setIfInBounds_toArray, List.set_cons_zero, List.set_cons_succ]
    refine wpAny_take (i := 4) (v := .int .i64 N) rfl (by kernel_rfl) (by kernel_rfl) (by kernel_rfl) (fun _ _ _ h => h) (Or.inl ⟨by rfl, fun w => by go_simp⟩) ?_
    simp only [List.getElem_toArray, List.getElem_cons_zero, List.getElem_cons_succ, Act.put, List.setIfInBounds_toArray, List.set_cons_zero, List.set_cons_succ]
    refine wpAny_take (i := 5) (v := .int .i64 t1) rfl (by kernel_rfl) (by kernel_rfl) (by kernel_rfl) (fun _ _ _ h => h) (Or.inl ⟨by rfl, fun w => by go_simp⟩) ?_
    simp only [List.getElem_toArray, List.getElem_cons_zero, List.getElem_cons_succ, Act.put, List.setIfInBounds_toArray, List.set_cons_zero, List.set_cons_succ]
    refine wpAny_take (i := 6) (v := .int .i64 N) rfl (by kernel_rfl) (by kernel_rfl) (by kernel_rfl) (fun _ _ _ h => h) (Or.inl ⟨by rfl, fun w => by go_simp⟩) ?_
    simp only [List.getElem_toArray, List.getElem_cons_zero, List.getElem_cons_succ, Act.put, List.setIfInBounds_toArray, List.set_cons_zero, List.set_cons_succ]
    refine wpAny_take (i := 7) (v := .int .i64 (t1 + N)) rfl (by kernel_rfl) (by kernel_rfl) (by kernel_rfl) (fun _ _ _ h => h) (Or.inl ⟨by rfl, fun w => by go_simp⟩) ?_
    simp only [List.getElem_toArray, List.getElem_cons_zero, List.getElem_cons_succ, Act.put, List.setIfInBounds_toArray, List.set_cons_zero, List.set_cons_succ]
    refine wpAny_take (i := 8) (v := .int .i64 N) rfl (by kernel_rfl) (by kernel_rfl) (by kernel_rfl) (fun _ _ _ h => h) (Or.inl ⟨by rfl, fun w => by go_simp⟩) ?_
    simp only [List.getElem_toArray, List.getElem_cons_zero, List.getElem_cons_succ, Act.put, List.setIfInBounds_toArray, List.set_cons_zero, List.set_cons_succ]
    refine wpAny_take (i := 9) (v := .int .i64 (i : Int)) rfl (by kernel_rfl) (by kernel_rfl) (by kernel_rfl) (fun _ _ _ h => h) (Or.inl ⟨by rfl, fun w => by go_simp⟩) ?_
    simp only [List.getElem_toArray, List.getElem_cons_zero, List.getElem_cons_succ, Act.put, List.setIfInBounds_toArray, List.set_cons_zero, List.set_cons_succ]
    refine wpAny_ready (rs := [0]) (by kernel_rfl) (by simp) (AllReady.cons rfl (fun K hK => ?_) AllReady.nil)
    simp only [List.getElem_toArray, List.getElem_cons_zero, List.getElem_cons_succ]
    rw [if_pos (by rfl)]
    go_simp
    refine hK _ _ ?_
    clear hK K
    refine wpAny_ready (rs := [2]) (by kernel_rfl) (by simp) (AllReady.cons rfl (fun K hK => ?_) AllReady.nil)
    simp only [List.getElem_toArray, List.getElem_cons_zero, List.getElem_cons_succ]
    rw [if_pos (by rfl)]
    refine Lib.wp_append_run _ (.tmp 18) (.tmp 19) 22 22 (by rfl) _ _ (by rfl) (by rfl) _ _ AP4.out (hK _ _ ?_)
    simp only [List.getElem_toArray, List.getElem_cons_zero, List.getElem_cons_succ, Act.put, List.setIfInBounds_toArray, List.set_cons_zero, List.set_cons_succ]
    clear hK K
    refine wpAny_seq' (k := 10) (by kernel_rfl) (by kernel_rfl) ?_
    simp only [List.drop_succ_cons, List.drop_zero]
    refine Lib.wpList_append_run _ (by rfl) (.tmp 20) (.tmp 27) 22 3 (by rfl) _ _ (by rfl) (by rfl) _ _ AP5.out ?_
    go_wp2_with (fail)
    refine (macsum_n E5 hk0 F5 hk1 T5 Z5).mono ?_
    rintro e w6 ⟨d6, rfl, H6⟩
    have s6 : sm = d6 := SM.out.symm.trans H6.out.1.symm
    subst s6
    have B6 : Hid (Below w.heap.size w w6) := B5.out.trans (H6.out.2.mono B5.out.size)
    have S6 : Hid (Sln w6 (some ⟨g5, 0, none⟩) (n0 + i) (l0 ++ List.replicate i 0)) := S5.out.below H6.out.2
    have F6 : Hid (Sln w6 a1 n1 l1) := S1.out.below B6.out
    have T6 : Hid (Kst w6) := hKs.out.below B6.out h0.out
    have Z6 : Hid (0 < w6.heap.size) := Nat.lt_of_lt_of_le h0.out B6.out.size
    go_wp2_with (fail)
    refine (macsum_n S6 C5.out F6 hk1 T6 Z6).mono ?_
    rintro e w7 ⟨d7, rfl, H7⟩
    have s7 : sm = d7 := by rw [H7.out.1, mac_more l0 l1 i (by rw [← S0.out.len]; exact HI.out), SM.out]
    subst s7
    have B7 : Hid (Below w.heap.size w w7) := B6.out.trans (H7.out.2.mono B6.out.size)
    go_wp2
    go_ret
    exact ⟨rfl, B7.out⟩
end Go.Proofs.YthkoidfjmbfoiaaDoor
