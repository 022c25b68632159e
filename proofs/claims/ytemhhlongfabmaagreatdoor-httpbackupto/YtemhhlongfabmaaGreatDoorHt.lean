/- HttpStreams' own walk. -/
import Derived.Test.YtemhhlongfabmaaGreatDoorHs
namespace Go.Proofs.YtemhhlongfabmaaGreatDoor
open Go.ChangeShapes Go.WideShapes Go.ChangeAt Go.RowKit
set_option maxRecDepth 20000
set_option linter.unusedVariables false
set_option linter.unusedSimpArgs false
theorem pick_place (x : Int) (N : Nat) (hN : 0 < N) : ∃ (t : Int) (r : Nat), Int.tmod x (N : Int) = t ∧ -(N : Int) < t ∧ t < (N : Int) ∧ Int.tmod (t + (N : Int)) (N : Int) = (r : Int) ∧ r < N := by
  have h1 : Int.tmod x (N : Int) < (N : Int) := Int.tmod_lt_of_pos x (by omega)
  have h2 : -(N : Int) < Int.tmod x (N : Int) := by
    have := Int.tmod_lt_of_pos (-x) (show (0 : Int) < (N : Int) by omega)
    rw [Int.neg_tmod] at this
    omega
  have h3 : Int.tmod (Int.tmod x (N : Int) + (N : Int)) (N : Int) = (Int.tmod x (N : Int) + (N : Int)) % (N : Int) := Int.tmod_eq_emod_of_nonneg (by omega)
  have h4 : 0 ≤ (Int.tmod x (N : Int) + (N : Int)) % (N : Int) := Int.emod_nonneg _ (by omega)
  have h5 : (Int.tmod x (N : Int) + (N : Int)) % (N : Int) < (N : Int) := Int.emod_lt_of_pos _ (by omega)
  exact ⟨Int.tmod x (N : Int), ((Int.tmod x (N : Int) + (N : Int)) % (N : Int)).toNat, rfl, h2, h1, by rw [h3]; omega, by omega⟩
theorem cutb_run {a : Option Addr} {n c k : Nat} (h : k ≤ c) (w : World) : (Instr.sliceAt 22 (.slice a n c) none (some (.int .i64 (k : Nat))) (some (.int .i64 (k : Nat)))).run Tryz.prog w = .ok (.slice a k k) w := by
  have el : Tryz.prog.elem 22 = 5 := by kernel_rfl
  have hu : Tryz.prog.underlying 22 = some (.slice (Tryz.prog.elem 22)) := by rw [el]; exact Tryz.underlying22
  rw [run_sliceAt_slice w 22 _ _ _ _ hu, run_slice_hm w 22 a n c hu .i64 .i64 k k (by omega) (by omega) (by omega), el, Tryz.sizeOf5]
  simp only [Result.andThen_ok, sliced, Int.toNat_natCast, Nat.zero_mul, Nat.sub_zero]
  congr 2
  cases a with
  | none => simp
  | some ad =>
    have : ad.add 0 = ad := by obtain ⟨b, o, sp⟩ := ad; unfold Addr.add; simp
    simp [this]
theorem own_zero (W : World) (B : Nat) (hB : B ≤ W.heap.size) : Own (W.alloc (.cells #[] 5)) B (some ⟨W.heap.size, 0, none⟩) 0 0 [] :=
  ⟨rfl, ⟨rfl, .inr ⟨W.heap.size, 0, #[], rfl, hB, heap_alloc_new W _, Nat.le_refl _, Nat.zero_le _, rfl, rfl⟩⟩, by simp⟩
theorem box4 {W : World} {g : Nat} {t : TypeId} {a b c d : Value} (h : W.heap[g]? = some (.cells #[a, b, c, d] t (0, 0))) : W.cell? ⟨g, 0, none⟩ = some a ∧ W.cell? ⟨g, 1, none⟩ = some b ∧ W.cell? ⟨g, 2, none⟩ = some c ∧ W.cell? ⟨g, 3, none⟩ = some d := by
  refine ⟨?_, ?_, ?_, ?_⟩ <;> simp [World.cell?, h]
theorem rq_got {w W : World} {fa : Option Addr} {fn fc : Nat} {fs : List Fl} {ba : Option Addr} {bn bc : Nat} {body : List Nat} (h1 : Rw W w.heap.size 41 EF fa fn fc fs) (h2 : Own W w.heap.size ba bn bc body) (h3 : fn ≤ 4398046511103) (h4 : ∀ f ∈ fs, f.2.size ≤ 140737488355328) (h5 : bn ≤ 140737488354304) : Rq W fa fn ba bn fs body := ⟨fw_rw h1 h3 h4, h2.sln h5⟩
theorem rdH_fs {s m t : ByteArray} {fs : List Fl} {z : Nat} (h : rdH s = .ok m t fs z) : fs.length ≤ s.size ∧ ∀ f ∈ fs, f.2.size ≤ s.size := by
  unfold rdH at h
  generalize rdF ((lns s).headD ⟨#[]⟩) = o at h
  cases o with
  | none => cases h
  | some mt =>
    obtain ⟨m', t'⟩ := mt
    simp only [rdH1] at h
    cases hf : flds (lns s).tail with
    | none => rw [hf] at h; cases h
    | some fs' =>
      rw [hf] at h
      simp only [rdH2] at h
      split at h
      · cases h
      · generalize hb : bsz fs' = b at h
        obtain ⟨z', o'⟩ := b
        cases o' with
        | none =>
          simp only [HR.ok.injEq] at h
          obtain ⟨_, _, rfl, _⟩ := h
          refine ⟨?_, flds_size hf (fun x hx => lns_size (List.mem_of_mem_tail hx))⟩
          rw [flds_len hf, List.length_tail]
          have := lns_le s
          omega
        | some g => cases h
theorem Got.small {l : List Nat} {m t : ByteArray} {fs : List Fl} {body : List Nat} {num e z : Nat} (h : Got l m t fs body num e z) : fs.length ≤ 2048 ∧ (∀ f ∈ fs, f.2.size ≤ 140737488355328) ∧ body.length ≤ 1024 := by
  obtain ⟨h1, h2⟩ := rdH_fs h.hd
  have hs : (spell (l.take e)).size ≤ 2048 := by rw [spell_size, List.length_take]; have := h.e1; omega
  refine ⟨by omega, fun f hf => by have := h2 f hf; omega, ?_⟩
  rw [h.bd, List.length_take]
  have := h.z1
  omega
theorem parse_zero {a : Option Addr} {n c : Nat} {l : List Nat} {w : World} {M : Nat → Prop} {E : Nat → Addr} (hS : Hid (Sln w a n l)) (hc : Hid (a = none → c = 0)) (hnc : n ≤ c) (hm : Hid (Mx w)) (hE : Hid (Sent w M E)) (M0 : M 0) (M12 : M 12) (hr : Hid (prs l = .wait)) :
    Calls Tryz.prog 11 #[.slice a n c] w fun e w' => e = .returned (.tuple #[.agg #[.string { data := #[] }, .string { data := #[] }, .slice none 0 0, .slice none 0 0], .int .i64 0, .nilIface]) ∧ Hid (Below w.heap.size w w') := by
  have h := parse_n hS hc hnc hm hE M0 M12
  rw [hr.out] at h
  exact h
theorem parse_bad {a : Option Addr} {n c g : Nat} {l : List Nat} {w : World} {M : Nat → Prop} {E : Nat → Addr} (hS : Hid (Sln w a n l)) (hc : Hid (a = none → c = 0)) (hnc : n ≤ c) (hm : Hid (Mx w)) (hE : Hid (Sent w M E)) (M0 : M 0) (M12 : M 12) (hr : Hid (prs l = .bad g)) :
    Calls Tryz.prog 11 #[.slice a n c] w fun e w' => e = .returned (.tuple #[.agg #[.string { data := #[] }, .string { data := #[] }, .slice none 0 0, .slice none 0 0], .int .i64 0, er (E g)]) ∧ Hid (Below w.heap.size w w') := by
  have h := parse_n hS hc hnc hm hE M0 M12
  rw [hr.out] at h
  exact h
theorem parse_got {a : Option Addr} {n c : Nat} {l : List Nat} {w : World} {M : Nat → Prop} {E : Nat → Addr} {m t : ByteArray} {fs : List Fl} {body : List Nat} {num : Nat} (hS : Hid (Sln w a n l)) (hc : Hid (a = none → c = 0)) (hnc : n ≤ c) (hm : Hid (Mx w)) (hE : Hid (Sent w M E)) (M0 : M 0) (M12 : M 12) (hr : Hid (prs l = .got m t fs body num)) :
    Calls Tryz.prog 11 #[.slice a n c] w fun e w' => ∃ fa fn fc ba bn bc, e = .returned (.tuple #[.agg #[.string m, .string t, .slice fa fn fc, .slice ba bn bc], .int .i64 (num : Nat), .nilIface]) ∧ Hid (Rq w' fa fn ba bn fs body ∧ Below w.heap.size w w') := by
  have h := parse_n hS hc hnc hm hE M0 M12
  rw [hr.out] at h
  refine h.mono ?_
  rintro e w' ⟨⟨fa, fn, fc, ba, bn, bc, h1, h2, h3⟩, h4⟩
  obtain ⟨e2, z, hg⟩ := got_of hr.out
  obtain ⟨s1, s2, s3⟩ := hg.small
  exact ⟨fa, fn, fc, ba, bn, bc, h1, rq_got h2 h3 (by rw [h2.len]; omega) s2 (by rw [h3.len]; omega), h4⟩
set_option maxHeartbeats 4000000 in
theorem streams_n {a a2 : Option Addr} {n c n2 c2 : Nat} {l l2 : List Nat} {cut : Int} {w : World} {M : Nat → Prop} {E : Nat → Addr} (hS : Hid (Sln w a n l)) (hc : Hid (a = none → c = 0)) (hnc : n ≤ c) (hS2 : Hid (Sln w a2 n2 l2)) (hc2 : Hid (a2 = none → c2 = 0)) (hn2 : n2 ≤ 140737488351232) (wx : (Lit.int .i64 cut).wf = true) (hm : Hid (Mx w)) (hE : Hid (Sent w M E)) (M0 : M 0) (M12 : M 12) (ht : Hid (Tab w)) :
    Calls Tryz.prog 6 #[.slice a n c, .slice a2 n2 c2, .int .i64 cut] w fun e w' => e = .returned (.bool true) ∧ Hid (Below w.heap.size w w') := by
  have bx := bounds_i64 wx
  obtain ⟨pr, HP⟩ : ∃ p, Hid (prs l = p) := ⟨_, rfl⟩
  cases pr with
  | bad g =>
    go_enter Tryz.func6, Tryz.ntmps6
    go_upto_region 4 with (first
      | (go_at_call 9; refine (alive_n hm hE M0 M12 ht).mono ?_; rintro e w1 ⟨rfl, D1⟩
         have S1 : Hid (Sln w1 a n l) := hS.out.below D1.out)
      | (go_at_call 11; refine (parse_bad S1 hc hnc (hm.out.below D1.out) (hE.out.below D1.out) M0 M12 HP).mono ?_; rintro e w2 ⟨rfl, D2⟩))
    obtain ⟨w3, H3⟩ : ∃ w3, Hid (w2.alloc (.cells #[.string { data := #[] }, .string { data := #[] }, .slice none 0 0, .slice none 0 0] 27) = w3) := ⟨_, rfl⟩
    rw [H3.out]
    obtain ⟨q, HQ⟩ : ∃ q, Hid (w2.heap.size = q) := ⟨_, rfl⟩
    rw [HQ.out]
    have D02 : Hid (Below w.heap.size w w2) := D1.out.trans (D2.out.mono D1.out.size)
    have B3 : Hid (Bx w w3 q 27 #[.string { data := #[] }, .string { data := #[] }, .slice none 0 0, .slice none 0 0]) := by rw [← H3.out, ← HQ.out]; exact Bx.new w w2 27 _ D02.out
    obtain ⟨p0, p1, p2, p3⟩ := box4 B3.out.row
    have SM := same_n (m := ⟨#[]⟩) (t := ⟨#[]⟩) (m' := ⟨#[]⟩) (t' := ⟨#[]⟩) (fc := 0) (fc' := 0) (bc := 0) (bc' := 0) (show Hid _ from Rq.zero w3) (show Hid _ from Rq.zero w3)
    rw [samR_self] at SM
    have SM2 : Hid (Calls Tryz.prog 13 #[.agg #[.string { data := #[] }, .string { data := #[] }, .slice none 0 0, .slice none 0 0], .agg #[.string { data := #[] }, .string { data := #[] }, .slice none 0 0, .slice none 0 0]] w3 fun e w' => e = .returned (.bool true) ∧ Hid (Below w3.heap.size w3 w')) := SM
    clear SM
    go_wp2_with (go_at_call 13; refine SM2.out.mono ?_; rintro e w4 ⟨rfl, D4⟩)
    go_ret
    exact ⟨rfl, B3.out.bel.trans (D4.out.mono B3.out.bel.size)⟩
  | wait =>
    go_enter Tryz.func6, Tryz.ntmps6
    go_upto_region 4 with (first
      | (go_at_call 9; refine (alive_n hm hE M0 M12 ht).mono ?_; rintro e w1 ⟨rfl, D1⟩
         have S1 : Hid (Sln w1 a n l) := hS.out.below D1.out)
      | (go_at_call 11; refine (parse_zero S1 hc hnc (hm.out.below D1.out) (hE.out.below D1.out) M0 M12 HP).mono ?_; rintro e w2 ⟨rfl, D2⟩))
    obtain ⟨w3, H3⟩ : ∃ w3, Hid (w2.alloc (.cells #[.string { data := #[] }, .string { data := #[] }, .slice none 0 0, .slice none 0 0] 27) = w3) := ⟨_, rfl⟩
    rw [H3.out]
    obtain ⟨q, HQ⟩ : ∃ q, Hid (w2.heap.size = q) := ⟨_, rfl⟩
    rw [HQ.out]
    have D02 : Hid (Below w.heap.size w w2) := D1.out.trans (D2.out.mono D1.out.size)
    have B3 : Hid (Bx w w3 q 27 #[.string { data := #[] }, .string { data := #[] }, .slice none 0 0, .slice none 0 0]) := by rw [← H3.out, ← HQ.out]; exact Bx.new w w2 27 _ D02.out
    obtain ⟨p0, p1, p2, p3⟩ := box4 B3.out.row
    have SM := same_n (m := ⟨#[]⟩) (t := ⟨#[]⟩) (m' := ⟨#[]⟩) (t' := ⟨#[]⟩) (fc := 0) (fc' := 0) (bc := 0) (bc' := 0) (show Hid _ from Rq.zero w3) (show Hid _ from Rq.zero w3)
    rw [samR_self] at SM
    have SM2 : Hid (Calls Tryz.prog 13 #[.agg #[.string { data := #[] }, .string { data := #[] }, .slice none 0 0, .slice none 0 0], .agg #[.string { data := #[] }, .string { data := #[] }, .slice none 0 0, .slice none 0 0]] w3 fun e w' => e = .returned (.bool true) ∧ Hid (Below w3.heap.size w3 w')) := SM
    clear SM
    go_wp2_with (go_at_call 13; refine SM2.out.mono ?_; rintro e w4 ⟨rfl, D4⟩)
    go_ret
    exact ⟨rfl, B3.out.bel.trans (D4.out.mono B3.out.bel.size)⟩
  | got m t fs body num =>
    obtain ⟨e0, z0, hG⟩ := got_of HP.out
    have GT : Hid (Got l m t fs body num e0 z0) := hG
    have nle : num ≤ n := by rw [hS.out.len]; exact hG.le
    have npos : 0 < num := by have := hG.len; omega
    have nsm : num ≤ 3072 := by have h1 := hG.len; have h2 := hG.e1; have h3 := hG.z1; omega
    clear hG
    have j1 : ¬ ((num : Int) = 0) := by omega
    have j2 : ¬ ((num : Int) < 0) := by omega
    have j3 : ¬ ((n : Int) < (num : Int)) := by omega
    go_enter Tryz.func6, Tryz.ntmps6
    go_upto_region 4 with (first
      | (go_at_call 9; refine (alive_n hm hE M0 M12 ht).mono ?_; rintro e w1 ⟨rfl, D1⟩
         have S1 : Hid (Sln w1 a n l) := hS.out.below D1.out)
      | (go_at_call 11; refine (parse_got S1 hc hnc (hm.out.below D1.out) (hE.out.below D1.out) M0 M12 HP).mono ?_; rintro e w2 ⟨fa, fn, fc, ba, bn, bc, rfl, H2⟩))
    obtain ⟨w3, H3⟩ : ∃ w3, Hid (w2.alloc (.cells #[.string m, .string t, .slice fa fn fc, .slice ba bn bc] 27) = w3) := ⟨_, rfl⟩
    rw [H3.out]
    obtain ⟨q, HQ⟩ : ∃ q, Hid (w2.heap.size = q) := ⟨_, rfl⟩
    rw [HQ.out]
    have D02 : Hid (Below w.heap.size w w2) := D1.out.trans (H2.out.2.mono D1.out.size)
    have B3 : Hid (Bx w w3 q 27 #[.string m, .string t, .slice fa fn fc, .slice ba bn bc]) := by rw [← H3.out, ← HQ.out]; exact Bx.new w w2 27 _ D02.out
    have Q3 : Hid (Rq w3 fa fn ba bn fs body) := by rw [← H3.out]; exact H2.out.1.below (alloc1 _ _)
    clear H3
    go_upto_region 8 with (fail)
    obtain ⟨h0, HH0⟩ : ∃ h, Hid (w3.heap.size = h) := ⟨_, rfl⟩
    obtain ⟨w4, H4⟩ : ∃ w4, Hid (w3.alloc (.cells #[] 5) = w4) := ⟨_, rfl⟩
    have B4 : Hid (Bx w w4 q 27 #[.string m, .string t, .slice fa fn fc, .slice ba bn bc]) := by rw [← H4.out]; exact B3.out.below (alloc1 _ _)
    have Q4 : Hid (Rq w4 fa fn ba bn fs body) := by rw [← H4.out]; exact Q3.out.below (alloc1 _ _)
    have D34 : Hid (Below w3.heap.size w3 w4) := by rw [← H4.out]; exact alloc1 _ _
    have O4 : Own w4 w3.heap.size (some ⟨h0, 0, none⟩) 0 0 [] := by rw [← H4.out, ← HH0.out]; exact own_zero w3 _ (Nat.le_refl _)
    obtain ⟨a5, c5, w5, run5, O5, gr5, nw5⟩ := app_any (c2 := c) O4 (slice_to (hS.out.below B4.out.bel) nle) hc.out (by omega) D34.out.size
    rw [Nat.zero_add] at run5 O5
    have RUN5 : Hid ((Builtin.append_ #[22, 22] 22 #[.slice (some ⟨h0, 0, none⟩) 0 0, .slice a num c]).run Tryz.prog w4 = .ok (.slice a5 num c5) w5) := run5
    have ge4 : ∀ q, blkOf (some ⟨h0, 0, none⟩) = some q → w3.heap.size ≤ q := fun q e => by cases e; exact Nat.le_of_eq HH0.out
    have D35 : Hid (Below w3.heap.size w3 w5) := D34.out.grown gr5 D34.out.size ge4
    have B5 : Hid (Bx w w5 q 27 #[.string m, .string t, .slice fa fn fc, .slice ba bn bc]) := B3.out.below D35.out
    obtain ⟨a6, c6, w6, run6, O6, gr6, nw6⟩ := app_any (c2 := c2) O5 (hS2.out.below B5.out.bel) hc2.out (by omega) D35.out.size
    have RUN6 : Hid ((Builtin.append_ #[22, 22] 22 #[.slice a5 num c5, .slice a2 n2 c2]).run Tryz.prog w5 = .ok (.slice a6 (num + n2) c6) w6) := run6
    have D36 : Hid (Below w3.heap.size w3 w6) := D35.out.grown gr6 D35.out.size (fun q e => (O5.ge q e).1)
    have B6 : Hid (Bx w w6 q 27 #[.string m, .string t, .slice fa fn fc, .slice ba bn bc]) := B3.out.below D36.out
    have Q6 : Hid (Rq w6 fa fn ba bn fs body) := Q3.out.below D36.out
    have S6 : Hid (Sln w6 a6 (num + n2) ([] ++ l.take num ++ l2)) := O6.sln (by omega)
    have NC6 : Hid (num + n2 ≤ c6) := rown_cap O6.own
    have HC6 : Hid (a6 = none → c6 = 0) := O6.cap0
    have P6 : Hid (prs ([] ++ l.take num ++ l2) = .got m t fs body num) := by rw [List.nil_append]; exact (got_behind GT.out l2).prs
    clear run5 O5 gr5 nw5 run6 O6 gr6 nw6 O4 ge4
    go_upto_region 9 with (first
      | (at_builtin; rw [H4.out, HH0.out]; refine wpList_app (by rfl) (.tmp 45) (.tmp 48) (by rfl) (by rfl) (by rfl) (by rfl) RUN5 ?_)
      | (at_builtin; refine wpList_app (by rfl) (.tmp 49) (.tmp 50) (by rfl) (by rfl) (by rfl) (by rfl) RUN6 ?_)
      | (go_at_call 11; refine (parse_got S6 HC6 NC6.out (hm.out.below B6.out.bel) (hE.out.below B6.out.bel) M0 M12 P6).mono ?_; rintro e w7 ⟨fa2, fn2, fc2, ba2, bn2, bc2, rfl, H7⟩))
    obtain ⟨w8, H8⟩ : ∃ w8, Hid (w7.alloc (.cells #[.string m, .string t, .slice fa2 fn2 fc2, .slice ba2 bn2 bc2] 27) = w8) := ⟨_, rfl⟩
    rw [H8.out]
    obtain ⟨r, HR⟩ : ∃ q, Hid (w7.heap.size = q) := ⟨_, rfl⟩
    rw [HR.out]
    have B7 : Hid (Bx w w7 q 27 #[.string m, .string t, .slice fa fn fc, .slice ba bn bc]) := B6.out.below H7.out.2
    have B8 : Hid (Bx w w8 q 27 #[.string m, .string t, .slice fa fn fc, .slice ba bn bc]) := by rw [← H8.out]; exact B7.out.below (alloc1 _ _)
    have C8 : Hid (Bx w w8 r 27 #[.string m, .string t, .slice fa2 fn2 fc2, .slice ba2 bn2 bc2]) := by rw [← H8.out, ← HR.out]; exact Bx.new w w7 27 _ B7.out.bel
    have Q8 : Hid (Rq w8 fa fn ba bn fs body) := by rw [← H8.out]; exact (Q6.out.below H7.out.2).below (alloc1 _ _)
    have U8 : Hid (Rq w8 fa2 fn2 ba2 bn2 fs body) := by rw [← H8.out]; exact H7.out.1.below (alloc1 _ _)
    have SM := same_n (m := m) (t := t) (m' := m) (t' := t) (fc := fc) (fc' := fc2) (bc := bc) (bc' := bc2) Q8 U8
    rw [samR_self] at SM
    have SM2 : Hid (Calls Tryz.prog 13 #[.agg #[.string m, .string t, .slice fa fn fc, .slice ba bn bc], .agg #[.string m, .string t, .slice fa2 fn2 fc2, .slice ba2 bn2 bc2]] w8 fun e w' => e = .returned (.bool true) ∧ Hid (Below w8.heap.size w8 w')) := SM
    clear SM H8
    obtain ⟨p0, p1, p2, p3⟩ := box4 B8.out.row
    obtain ⟨s0, s1, s2, s3⟩ := box4 C8.out.row
    go_upto_region 11 with (go_at_call 13; refine SM2.out.mono ?_; rintro e w9 ⟨rfl, D9⟩)
    clear p0 p1 p2 p3 s0 s1 s2 s3
    have D09 : Hid (Below w.heap.size w w9) := B8.out.bel.trans (D9.out.mono B8.out.bel.size)
    have S9 : Hid (Sln w9 a n l) := hS.out.below D09.out
    obtain ⟨tq, k, e1, t1, t2, e2, hk⟩ := pick_place cut num npos
    have CB : ∀ W, (Instr.sliceAt 22 (.slice a n c) none (some (.int .i64 (k : Nat))) (some (.int .i64 (k : Nat)))).run Tryz.prog W = .ok (.slice a k k) W := fun W => cutb_run (by omega) W
    have SK : Hid (Sln w9 a k (l.take k)) := slice_to S9.out (by omega)
    have HK : Hid (a = none → k = 0) := fun h => by have := hc.out h; omega
    have PK : Hid (prs (l.take k) = .wait) := got_cut GT.out hk
    go_upto_region 13 with (go_at_call 11; refine (parse_zero SK HK (Nat.le_refl _) (hm.out.below D09.out) (hE.out.below D09.out) M0 M12 PK).mono ?_; rintro e wx ⟨rfl, DX⟩)
    obtain ⟨wy, HY⟩ : ∃ w3, Hid (wx.alloc (.cells #[.string { data := #[] }, .string { data := #[] }, .slice none 0 0, .slice none 0 0] 27) = w3) := ⟨_, rfl⟩
    rw [HY.out]
    obtain ⟨qy, HQY⟩ : ∃ q, Hid (wx.heap.size = q) := ⟨_, rfl⟩
    rw [HQY.out]
    have D0X : Hid (Below w.heap.size w wx) := D09.out.trans (DX.out.mono D09.out.size)
    have BY : Hid (Bx w wy qy 27 #[.string { data := #[] }, .string { data := #[] }, .slice none 0 0, .slice none 0 0]) := by rw [← HY.out, ← HQY.out]; exact Bx.new w wx 27 _ D0X.out
    obtain ⟨p0, p1, p2, p3⟩ := box4 BY.out.row
    have SM := same_n (m := ⟨#[]⟩) (t := ⟨#[]⟩) (m' := ⟨#[]⟩) (t' := ⟨#[]⟩) (fc := 0) (fc' := 0) (bc := 0) (bc' := 0) (show Hid _ from Rq.zero wy) (show Hid _ from Rq.zero wy)
    rw [samR_self] at SM
    have SM3 : Hid (Calls Tryz.prog 13 #[.agg #[.string { data := #[] }, .string { data := #[] }, .slice none 0 0, .slice none 0 0], .agg #[.string { data := #[] }, .string { data := #[] }, .slice none 0 0, .slice none 0 0]] wy fun e w' => e = .returned (.bool true) ∧ Hid (Below wy.heap.size wy w')) := SM
    clear SM
    go_wp2_with (go_at_call 13; refine SM3.out.mono ?_; rintro e wz ⟨rfl, DZ⟩)
    go_ret
    exact ⟨rfl, BY.out.bel.trans (DZ.out.mono BY.out.bel.size)⟩
end Go.Proofs.YtemhhlongfabmaaGreatDoor
