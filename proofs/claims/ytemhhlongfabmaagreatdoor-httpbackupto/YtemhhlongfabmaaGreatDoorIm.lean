/- The document's Parse. -/
import Derived.Test.YtemhhlongfabmaaGreatDoorIl
import Derived.Test.YtemhhlongfabmaaGreatDoorIn
import Derived.Test.YtemhhlongfabmaaGreatDoorIj
import Derived.Test.YtemhhlongfabmaaGreatDoorIa
import Derived.Test.YtemhhlongfabmaaGreatDoorHt
namespace Go.Proofs.YtemhhlongfabmaaGreatDoor
open Go.ChangeShapes Go.WideShapes Go.ChangeAt Go.RowKit
set_option maxRecDepth 20000
set_option linter.unusedVariables false
set_option linter.unusedSimpArgs false
def RefEnd (w w' : World) : PR → Ending → Prop
  | .bad g, e => e = .returned (.tuple #[.agg (aggR ⟨#[]⟩ ⟨#[]⟩ nilS nilS), .int .i64 0, .int .i64 (if g = 0 then 11 else 13)])
  | .wait, e => e = .returned (.tuple #[.agg (aggR ⟨#[]⟩ ⟨#[]⟩ nilS nilS), .int .i64 0, .int .i64 0])
  | .got m t fs body num, e => ∃ a n c b k d, e = .returned (.tuple #[.agg (aggR m t (.slice a n c) (.slice b k d)), .int .i64 (num : Nat), .int .i64 0]) ∧ Rw w' w.heap.size 41 EF a n c fs ∧ Own w' w.heap.size b k d body
theorem enO_zero {l : List Nat} (h : enO l = 0) : prs l = if 2048 ≤ l.length then .bad 0 else .wait := by
  have hx : ixH (l.take 2048) < 0 := by
    unfold enO at h
    split at h
    · assumption
    · omega
  unfold prs
  rw [if_pos hx]
theorem enO_pos {l : List Nat} (h : enO l ≠ 0) : ∃ x, ixH (l.take 2048) = (x : Nat) ∧ enO l = x + 4 ∧ x + 4 ≤ l.length ∧ x + 4 ≤ 2048 ∧ prs l = prs2 l x (rdH (spell (l.take x))) := by
  have hx : ¬ ixH (l.take 2048) < 0 := fun e => h (by unfold enO; rw [if_pos e])
  have hr := ix_room hx
  rw [List.length_take] at hr
  refine ⟨(ixH (l.take 2048)).toNat, by omega, by unfold enO; rw [if_neg hx], by omega, by omega, ?_⟩
  unfold prs
  rw [if_neg hx]
set_option maxHeartbeats 8000000 in
theorem refparse_n {a : Option Addr} {n c : Nat} {l : List Nat} {w : World} (hS : Hid (Sln w a n l)) (hnc : n ≤ c) :
    Calls Tryz.prog 12 #[.slice a n c] w fun e w' => RefEnd w w' (prs l) e ∧ Hid (Below w.heap.size w w') := by
  have NL : Hid (n = l.length) := hS.out.len
  obtain ⟨g, HG⟩ : ∃ q, Hid (w.heap.size = q) := ⟨_, rfl⟩
  obtain ⟨w0, H0⟩ : ∃ w0, Hid (w.alloc (.cells #[.string { data := #[] }, .string { data := #[] }, .slice none 0 0, .slice none 0 0] 27) = w0) := ⟨_, rfl⟩
  have K0 : Hid (Bx w w0 g 27 (aggR ⟨#[]⟩ ⟨#[]⟩ nilS nilS)) := by rw [← H0.out, ← HG.out]; exact Bx.new w w 27 _ (Below.refl _ _)
  obtain ⟨en, HEN⟩ : ∃ q, Hid (enO l = q) := ⟨_, rfl⟩
  have S0 : Hid (Sln w0 a n l) := hS.out.below K0.out.bel
  go_enter Tryz.func12, Tryz.ntmps12
  go_upto_region 1 with (fail)
  rw [H0.out, HG.out]
  by_cases e0 : en = 0
  · subst e0
    have EP := (show Hid _ from enO_zero HEN.out)
    by_cases h2 : 2048 ≤ n
    · have i2 : (2048 : Int) ≤ (n : Int) := by omega
      have EV : Hid (prs l = .bad 0) := (by rw [EP.out, if_pos (by rw [← NL.out]; exact h2)] : prs l = .bad 0)
      go_wp2_with (first
        | (go_at_call 30; refine (endOf_n (c := c) S0 hnc).mono ?_; rintro e w1 ⟨rfl, D1⟩; rw [HEN.out]
           have K1 : Hid (Bx w w1 g 27 (aggR ⟨#[]⟩ ⟨#[]⟩ nilS nilS)) := K0.out.below D1.out
           obtain ⟨w9, H9⟩ : ∃ w9, Hid (w1.setRow g (aggR ⟨#[]⟩ ⟨#[]⟩ nilS nilS) = w9) := ⟨_, rfl⟩
           have K9 : Hid (Bx w w9 g 27 (aggR ⟨#[]⟩ ⟨#[]⟩ nilS nilS)) := by rw [← H9.out]; exact K1.out.set _)
        | (refine wpList_store_row (by rfl) 27 (.tmp 2) (.tmp 27) (by rfl) g (aggR ⟨#[]⟩ ⟨#[]⟩ nilS nilS) (by rfl) (by rfl) 27 _ K1.out.row (sz27 _ _ _ _) (by rfl) (one27 _ _ _ _ _ _ _ _) ?_; refine (show _ = w9 from H9.out) ▸ ?_))
      try simp only [Exit.inBlock, Exit.then]
      refine bodyPost_ret (res_row3 (by rfl) (by rfl) K9.out.row und27 (sz27 _ _ _ _)) rfl ?_
      rw [EV.out]
      exact ⟨rfl, K9.out.bel⟩
    · have i2 : ¬ ((2048 : Int) ≤ (n : Int)) := by omega
      have EV : Hid (prs l = .wait) := (by rw [EP.out, if_neg (by rw [← NL.out]; exact h2)] : prs l = .wait)
      go_wp2_with (first
        | (go_at_call 30; refine (endOf_n (c := c) S0 hnc).mono ?_; rintro e w1 ⟨rfl, D1⟩; rw [HEN.out]
           have K1 : Hid (Bx w w1 g 27 (aggR ⟨#[]⟩ ⟨#[]⟩ nilS nilS)) := K0.out.below D1.out
           obtain ⟨w9, H9⟩ : ∃ w9, Hid (w1.setRow g (aggR ⟨#[]⟩ ⟨#[]⟩ nilS nilS) = w9) := ⟨_, rfl⟩
           have K9 : Hid (Bx w w9 g 27 (aggR ⟨#[]⟩ ⟨#[]⟩ nilS nilS)) := by rw [← H9.out]; exact K1.out.set _)
        | (refine wpList_store_row (by rfl) 27 (.tmp 2) (.tmp 28) (by rfl) g (aggR ⟨#[]⟩ ⟨#[]⟩ nilS nilS) (by rfl) (by rfl) 27 _ K1.out.row (sz27 _ _ _ _) (by rfl) (one27 _ _ _ _ _ _ _ _) ?_; refine (show _ = w9 from H9.out) ▸ ?_))
      try simp only [Exit.inBlock, Exit.then]
      refine bodyPost_ret (res_row3 (by rfl) (by rfl) K9.out.row und27 (sz27 _ _ _ _)) rfl ?_
      rw [EV.out]
      exact ⟨rfl, K9.out.bel⟩
  · obtain ⟨x, hx, hxe, hxl, hx2, hpr⟩ := enO_pos (l := l) (by rw [HEN.out]; exact e0)
    obtain rfl : en = x + 4 := HEN.out.symm.trans hxe
    clear e0 hx hxe
    have HPR : Hid (prs l = prs2 l x (rdH (spell (l.take x)))) := hpr
    clear hpr
    have i0 : (((x : Int) + 4) == 0) = false := beq_eq_false_iff_ne.2 (by omega)
    have i1 : ¬ ((x : Int) + 4 = 0) := by omega
    obtain ⟨s, HSs⟩ : ∃ s, Hid (spell (l.take x) = s) := ⟨_, rfl⟩
    rw [HSs.out] at HPR
    have sz : s.size ≤ 4096 := by rw [← HSs.out, spell_sz, List.length_take]; omega
    go_upto_region 2 with (go_at_call 30; refine (endOf_n (c := c) S0 hnc).mono ?_; rintro e w1 ⟨rfl, D1⟩; rw [HEN.out])
    have K1 : Hid (Bx w w1 g 27 (aggR ⟨#[]⟩ ⟨#[]⟩ nilS nilS)) := K0.out.below D1.out
    obtain ⟨a2, A2⟩ : ∃ q, Hid ((if c = 0 then a else a.map (·.add 0)) = q) := ⟨_, rfl⟩
    have R2 : ∀ W, (Instr.sliceAt 22 (.slice a n c) none (some (.int .i64 (x : Int))) none).run Tryz.prog W = .ok (.slice a2 x c) W := fun W => by
      have el : Tryz.prog.elem 22 = 5 := by kernel_rfl
      have hu : Tryz.prog.underlying 22 = some (.slice (Tryz.prog.elem 22)) := by rw [el]; exact Tryz.underlying22
      have hcx : x ≤ c := by have := NL.out; omega
      rw [run_sliceAt_slice W 22 _ _ _ _ hu, run_slice_h W 22 a n c hu .i64 x (by omega) (by omega), el, Tryz.sizeOf5]
      simp only [Result.andThen_ok, sliced, Int.toNat_natCast, Nat.mul_one, Nat.sub_zero, A2.out]
    have S2 : Hid (Sln w1 a2 x (l.take x)) := by
      have h := slice_mid (m := c) (lo := 0) (hi := x) (hS.out.below K1.out.bel) (by omega) (by have := NL.out; omega) (by have := NL.out; omega)
      rw [List.drop_zero, Nat.sub_zero, A2.out] at h
      exact h
    have C2 := fun q => conv_n (k := q) S2
    rw [HSs.out] at C2
    go_upto_region 7 with (go_at_call 31; refine (lines_n (s := s) sz).mono ?_; rintro e w2 ⟨gl, cl, rfl, H2⟩)
    have K2 : Hid (Bx w w2 g 27 (aggR ⟨#[]⟩ ⟨#[]⟩ nilS nilS)) := K1.out.below H2.out.2
    obtain ⟨l0, tl, HLT⟩ : ∃ l0 tl, Hid (lns s = l0 :: tl) := by
      cases h : lns s with
      | nil => have := lns_len s; rw [h] at this; simp at this
      | cons l0 tl => exact ⟨l0, tl, rfl⟩
    have l0z : l0.size ≤ 4096 := Nat.le_trans (lns_size (by rw [HLT.out]; simp)) sz
    obtain ⟨nl, HNL⟩ : ∃ q, Hid ((lns s).length = q) := ⟨_, rfl⟩
    have NL1 : Hid (nl = tl.length + 1) := (by rw [← HNL.out, HLT.out]; rfl : nl = tl.length + 1)
    rw [HNL.out] at H2 ⊢
    have RL : Hid (Rw w2 w.heap.size 9 ES (some ⟨gl, 0, none⟩) nl cl (l0 :: tl)) := by
      have h := H2.out.1.mono K1.out.bel.size
      rw [HLT.out] at h
      exact h
    have CL : Hid (∀ {W : World}, Below w2.heap.size w2 W → ∀ i (hi : i < (l0 :: tl).length), W.cell? ⟨gl, i, none⟩ = some (.string (l0 :: tl)[i])) := fun {W} hb i hi => by
      obtain ⟨q, e, _, _, hr⟩ := (RL.out.below hb).at_ hi
      cases e
      have h := hr 0 (.string (l0 :: tl)[i]) rfl
      simpa [ES] using h
    have c00 := CL.out (Below.refl _ _) 0 (by simp)
    have c0 : w2.cell? ⟨gl, 0, none⟩ = some (.string l0) := c00
    clear c00
    have n1 : (0 : Int) < (nl : Int) := by have := NL1.out; omega
    obtain ⟨m, t, ok, HF⟩ : ∃ (m t : ByteArray) (ok : Bool), Hid ((ok = true ∧ rdF l0 = some (m, t)) ∨ (ok = false ∧ rdF l0 = none ∧ m = ⟨#[]⟩ ∧ t = ⟨#[]⟩)) := by
      cases h : rdF l0 with
      | none => exact ⟨⟨#[]⟩, ⟨#[]⟩, false, .inr ⟨rfl, rfl, rfl, rfl⟩⟩
      | some mt => exact ⟨mt.1, mt.2, true, .inl ⟨rfl, rfl⟩⟩
    have FE : Hid (∀ e, FirstR (rdF l0) e → e = .returned (.tuple #[.string m, .string t, .bool ok])) := fun e he => by
      rcases HF.out with ⟨h1, h2⟩ | ⟨h1, h2, h3, h4⟩
      · rw [h2] at he; rw [h1]; exact he
      · rw [h2] at he; rw [h1, h3, h4]; exact he
    go_upto_region 8 with (go_at_call 32; refine (firstLine_n l0 l0z w2).mono ?_; rintro e w3 ⟨h3, D3⟩; obtain rfl := FE.out e h3; clear h3)
    have K3 : Hid (Bx w w3 g 27 (aggR ⟨#[]⟩ ⟨#[]⟩ nilS nilS)) := K2.out.below D3.out
    obtain ⟨g10, G10⟩ : ∃ q, Hid (w3.heap.size = q) := ⟨_, rfl⟩
    obtain ⟨w4, H4⟩ : ∃ q, Hid (w3.alloc (.cells #[.string m, .string t, .slice none 0 0, .slice none 0 0] 27) = q) := ⟨_, rfl⟩
    have K4 : Hid (Bx w w4 g 27 (aggR ⟨#[]⟩ ⟨#[]⟩ nilS nilS)) := by rw [← H4.out]; exact K3.out.below (alloc1 _ _)
    have P4 : Hid (Ps w3 w4 g10 m t none 0 0 []) := by rw [← H4.out, ← G10.out]; exact Ps.new w3 m t
    have GG : Hid (g < w3.heap.size) := K3.out.lt
    obtain ⟨k, HK⟩ : ∃ k, Hid (tl.length = k) := ⟨_, rfl⟩
    obtain rfl : nl = k + 1 := by rw [NL1.out, HK.out]
    have ncl : k + 1 ≤ cl := rown_cap RL.out.row
    have kz : k ≤ 4096 := by have := lns_le s; rw [HNL.out] at this; omega
    obtain ⟨ax, AX⟩ : ∃ q, Hid ((if cl = 1 then (some ⟨gl, 0, none⟩ : Option Addr) else (some ⟨gl, 0, none⟩ : Option Addr).map (·.add 1)) = q) := ⟨_, rfl⟩
    have R9 : ∀ W, (Instr.sliceAt 58 (.slice (some ⟨gl, 0, none⟩) (k + 1) cl) (some (.int .i64 1)) none none).run Tryz.prog W = .ok (.slice ax k (cl - 1)) W := fun W => by
      have el : Tryz.prog.elem 58 = 9 := by kernel_rfl
      have hu : Tryz.prog.underlying 58 = some (.slice (Tryz.prog.elem 58)) := by rw [el]; exact Tryz.underlying58
      rw [run_sliceAt_slice W 58 _ _ _ _ hu, run_slice_l W 58 (some ⟨gl, 0, none⟩) (k + 1) cl hu .i64 1 (by omega) (by omega), el, Tryz.sizeOf9]
      simp only [Result.andThen_ok, sliced, Int.toNat_one, Nat.mul_one, Nat.add_sub_cancel, AX.out]
    have LB : Hid (∀ {W : World}, Below w3.heap.size w3 W → ∀ i (hi : i < tl.length), W.cell? ⟨gl, 1 + i, none⟩ = some (.string tl[i])) := fun {W} hb i hi => by
      have h := CL.out (W := W) (D3.out.trans (hb.mono D3.out.size)) (i + 1) (by simp; omega)
      rw [Nat.add_comm 1 i]
      simpa using h
    have TZ : Hid (∀ i (hi : i < tl.length), tl[i].size ≤ 4096) := fun i hi => Nat.le_trans (lns_size (s := s) (by rw [HLT.out]; exact List.mem_cons_of_mem _ (List.getElem_mem hi))) sz
    clear c0 n1
    go_upto_region 9 with (fail)
    rw [H4.out, G10.out]
    clear H4
    go_wp2
    go_loopw [49, 9] (fun ti tb wr => ∃ (i : Nat) (okv : Bool) (a : Option Addr) (n c : Nat) (fs : List Fl), i ≤ k ∧ n = i ∧ ti = .int .i64 (i : Int) ∧ tb = .bool okv ∧ Hid (Ps w3 wr g10 m t a n c fs) ∧ Hid (Fr ok tl i okv fs)) (fun ti _ _ => k - (intOf ti).toNat)
    case atStart => exact ⟨0, ok, none, 0, 0, [], by omega, rfl, rfl, rfl, P4.out, Fr.zero ok tl⟩
    case round =>
      clear P4 K4 R9 R2 C2 S2
      obtain ⟨i, okv, fa, fn, fc, fs, hi, rfl, rfl, rfl, HP, HFR⟩ := hrel
      by_cases hlt : fn < k
      · have i1 : (fn : Int) < (k : Int) := by omega
        have hl2 : fn < tl.length := by rw [HK.out]; exact hlt
        obtain rfl : ax = some ⟨gl, 1, none⟩ := by
          rw [← AX.out, if_neg (by omega)]
          rfl
        obtain ⟨x1, Hx⟩ : ∃ q, Hid (tl[fn] = q) := ⟨tl[fn], (rfl : tl[fn] = tl[fn])⟩
        have zx : x1.size ≤ 4096 := by rw [← Hx.out]; exact TZ.out fn hl2
        have c1 : wr.cell? ⟨gl, 1 + fn, none⟩ = some (.string x1) := by rw [← Hx.out]; exact LB.out HP.out.bel fn hl2
        obtain ⟨en, ev, ob, HB⟩ : ∃ (en ev : ByteArray) (ob : Bool), Hid ((ob = true ∧ rdL x1 = some (en, ev)) ∨ (ob = false ∧ rdL x1 = none ∧ en = ⟨#[]⟩ ∧ ev = ⟨#[]⟩)) := by
          cases h : rdL x1 with
          | none => exact ⟨⟨#[]⟩, ⟨#[]⟩, false, .inr ⟨rfl, rfl, rfl, rfl⟩⟩
          | some mt => exact ⟨mt.1, mt.2, true, .inl ⟨rfl, rfl⟩⟩
        have FE2 : Hid (∀ e, FieldEnd (rdL x1) e → e = .returned (.tuple #[.agg #[.string en, .string ev], .bool ob])) := fun e he => by
          rcases HB.out with ⟨h1, h2⟩ | ⟨h1, h2, h3, h4⟩
          · rw [h2] at he; rw [h1]; exact he
          · rw [h2] at he; rw [h1, h3, h4]; exact he
        have FN : Hid (Fr ok tl (fn + 1) (okv && ob) (fs ++ [(en, ev)])) := by
          rcases HB.out with ⟨h1, h2⟩ | ⟨h1, h2, h3, h4⟩
          · rw [h1, Bool.and_true]; exact HFR.out.good hl2 (by rw [Hx.out]; exact h2)
          · rw [h1, Bool.and_false]; exact HFR.out.bad hl2 (by rw [Hx.out]; exact h2)
        clear HFR
        cases okv with
        | false =>
          rw [Bool.false_and] at FN
          go_upto_region 13 with (go_at_call 33; refine (fieldOf_n x1 zx wr).mono ?_; rintro e w5 ⟨h5, B5⟩; obtain rfl := FE2.out e h5; clear h5)
          have PS5 : Hid (Ps w3 w5 g10 m t fa fn fc fs) := HP.out.below B5.out
          obtain ⟨a', c', W3, hrun, hs4, p6, f6⟩ := PS5.out.app (en, ev) (by omega)
          have RUN : Hid ((Builtin.append_ #[25, 25] 25 #[.slice fa fn fc, .slice (some ⟨w5.heap.size + 1, 0, none⟩) 1 1]).run Tryz.prog ((w5.alloc (.cells #[.string en, .string ev] 41)).alloc (.cells #[.string en, .string ev] 41)) = .ok (.slice a' (fn + 1) c') W3) := hrun
          have HS4 : Hid (Ps w3 (W3.setCell ⟨g10, 2, none⟩ (.slice a' (fn + 1) c')) g10 m t a' (fn + 1) c' (fs ++ [(en, ev)])) := hs4
          obtain ⟨Y, HY⟩ : ∃ Y, Hid (w5.alloc (.cells #[.string en, .string ev] 41) = Y) := ⟨_, rfl⟩
          obtain ⟨qb, HQ⟩ : ∃ q, Hid (w5.heap.size = q) := ⟨_, rfl⟩
          have y2 : Y.cell? ⟨g10, 2, none⟩ = some (.slice fa fn fc) := by rw [← HY.out]; exact ((PS5.out.below (alloc1 _ _)).cs).2.2.1
          have y4 : Y.cell? ⟨qb, 0, none⟩ = some (.string en) := by rw [← HY.out, ← HQ.out]; simp
          have y5 : Y.cell? ⟨qb, 1, none⟩ = some (.string ev) := by rw [← HY.out, ← HQ.out]; simp
          have YS : Hid (Y.heap.size = qb + 1) := (by rw [← HY.out, ← HQ.out]; simp : Y.heap.size = qb + 1)
          rw [HY.out, HQ.out] at RUN
          rw [HY.out, HQ.out]
          clear hrun hs4
          go_wp2_with (at_builtin; refine wpList_app (by rfl) (.tmp 63) (.tmp 65) (by rfl) (by rfl) (by rfl) (by rfl) (by rw [YS.out]; exact RUN) ?_)
          go_roundw
          case rel => exact ⟨fn + 1, _, a', fn + 1, c', fs ++ [(en, ev)], by omega, rfl, by go_num, rfl, HS4.out, FN.out⟩
          case measure => simp [intOf]; omega
        | true =>
          rw [Bool.true_and] at FN
          go_upto_region 13 with (go_at_call 33; refine (fieldOf_n x1 zx wr).mono ?_; rintro e w5 ⟨h5, B5⟩; obtain rfl := FE2.out e h5; clear h5)
          have PS5 : Hid (Ps w3 w5 g10 m t fa fn fc fs) := HP.out.below B5.out
          obtain ⟨a', c', W3, hrun, hs4, p6, f6⟩ := PS5.out.app (en, ev) (by omega)
          have RUN : Hid ((Builtin.append_ #[25, 25] 25 #[.slice fa fn fc, .slice (some ⟨w5.heap.size + 1, 0, none⟩) 1 1]).run Tryz.prog ((w5.alloc (.cells #[.string en, .string ev] 41)).alloc (.cells #[.string en, .string ev] 41)) = .ok (.slice a' (fn + 1) c') W3) := hrun
          have HS4 : Hid (Ps w3 (W3.setCell ⟨g10, 2, none⟩ (.slice a' (fn + 1) c')) g10 m t a' (fn + 1) c' (fs ++ [(en, ev)])) := hs4
          obtain ⟨Y, HY⟩ : ∃ Y, Hid (w5.alloc (.cells #[.string en, .string ev] 41) = Y) := ⟨_, rfl⟩
          obtain ⟨qb, HQ⟩ : ∃ q, Hid (w5.heap.size = q) := ⟨_, rfl⟩
          have y2 : Y.cell? ⟨g10, 2, none⟩ = some (.slice fa fn fc) := by rw [← HY.out]; exact ((PS5.out.below (alloc1 _ _)).cs).2.2.1
          have y4 : Y.cell? ⟨qb, 0, none⟩ = some (.string en) := by rw [← HY.out, ← HQ.out]; simp
          have y5 : Y.cell? ⟨qb, 1, none⟩ = some (.string ev) := by rw [← HY.out, ← HQ.out]; simp
          have YS : Hid (Y.heap.size = qb + 1) := (by rw [← HY.out, ← HQ.out]; simp : Y.heap.size = qb + 1)
          rw [HY.out, HQ.out] at RUN
          rw [HY.out, HQ.out]
          clear hrun hs4
          go_wp2_with (at_builtin; refine wpList_app (by rfl) (.tmp 63) (.tmp 65) (by rfl) (by rfl) (by rfl) (by rfl) (by rw [YS.out]; exact RUN) ?_)
          go_roundw
          case rel => exact ⟨fn + 1, _, a', fn + 1, c', fs ++ [(en, ev)], by omega, rfl, by go_num, rfl, HS4.out, FN.out⟩
          case measure => simp [intOf]; omega
      · obtain rfl : fn = k := by omega
        have i1 : ¬ ((fn : Int) < (fn : Int)) := by omega
        clear LB TZ
        have KR : Hid (Bx w wr g 27 (aggR ⟨#[]⟩ ⟨#[]⟩ nilS nilS)) := K3.out.below HP.out.bel
        have LF : Hid (fs.length = fn) := HFR.out.len
        cases okv with
        | false =>
          have EV : Hid (prs l = .bad 12) := by
            have e : rdH s = .bad 12 := by
              unfold rdH
              rw [HLT.out]
              show rdH1 tl (rdF l0) = _
              rcases HF.out with ⟨h1, h2⟩ | ⟨h1, h2, _⟩
              · rw [h2]
                rcases HFR.out.no rfl with h | h
                · rw [h1] at h; cases h
                · show rdH2 m t (flds tl) = _
                  rw [h]
                  rfl
              · rw [h2]; rfl
            rw [HPR.out, e]
            rfl
          obtain ⟨w9, H9⟩ : ∃ w9, Hid (wr.setRow g (aggR ⟨#[]⟩ ⟨#[]⟩ nilS nilS) = w9) := ⟨_, rfl⟩
          have K9 : Hid (Bx w w9 g 27 (aggR ⟨#[]⟩ ⟨#[]⟩ nilS nilS)) := by rw [← H9.out]; exact KR.out.set _
          go_wp2_with (refine wpList_store_row (by rfl) 27 (.tmp 2) (.tmp 71) (by rfl) g (aggR ⟨#[]⟩ ⟨#[]⟩ nilS nilS) (by rfl) (by rfl) 27 _ KR.out.row (sz27 _ _ _ _) (by rfl) (one27 _ _ _ _ _ _ _ _) ?_; refine (show _ = w9 from H9.out) ▸ ?_)
          try simp only [Exit.inBlock, Exit.then]
          refine bodyPost_ret (res_row3 (by rfl) (by rfl) K9.out.row und27 (sz27 _ _ _ _)) rfl ?_
          rw [EV.out]
          exact ⟨rfl, K9.out.bel⟩
        | true =>
          obtain ⟨h1, hfl⟩ := HFR.out.yes rfl
          have FL : Hid (flds tl = some fs) := by rw [List.take_of_length_le (by rw [HK.out]; exact Nat.le_refl _)] at hfl; exact hfl
          clear hfl
          have HMT : rdF l0 = some (m, t) := by
            rcases HF.out with ⟨_, h2⟩ | ⟨h2, _⟩
            · exact h2
            · rw [h1] at h2; cases h2
          have RH : Hid (prs l = prs2 l x (rdH2 m t (some fs))) := by
            rw [HPR.out]
            unfold rdH
            rw [HLT.out]
            show prs2 l x (rdH1 tl (rdF l0)) = _
            rw [HMT]
            show prs2 l x (rdH2 m t (flds tl)) = _
            rw [FL.out]
          clear HMT h1
          obtain ⟨r0, r1, r2, r3, rz, ry⟩ := HP.out.cs
          by_cases h32 : 32 < fn
          · have j32 : (32 : Int) < (fn : Int) := by omega
            have EV : Hid (prs l = .bad 0) := by rw [RH.out]; show prs2 l x (rdH2 m t (some fs)) = _; unfold rdH2; dsimp only; rw [if_pos (by rw [LF.out]; exact h32)]; rfl
            obtain ⟨w9, H9⟩ : ∃ w9, Hid (wr.setRow g (aggR ⟨#[]⟩ ⟨#[]⟩ nilS nilS) = w9) := ⟨_, rfl⟩
            have K9 : Hid (Bx w w9 g 27 (aggR ⟨#[]⟩ ⟨#[]⟩ nilS nilS)) := by rw [← H9.out]; exact KR.out.set _
            go_wp2_with (refine wpList_store_row (by rfl) 27 (.tmp 2) (.tmp 76) (by rfl) g (aggR ⟨#[]⟩ ⟨#[]⟩ nilS nilS) (by rfl) (by rfl) 27 _ KR.out.row (sz27 _ _ _ _) (by rfl) (one27 _ _ _ _ _ _ _ _) ?_; refine (show _ = w9 from H9.out) ▸ ?_)
            try simp only [Exit.inBlock, Exit.then]
            refine bodyPost_ret (res_row3 (by rfl) (by rfl) K9.out.row und27 (sz27 _ _ _ _)) rfl ?_
            rw [EV.out]
            exact ⟨rfl, K9.out.bel⟩
          · have j32 : ¬ ((32 : Int) < (fn : Int)) := by omega
            have RH3 : Hid (rdH2 m t (some fs) = match bsz fs with | (z, none) => .ok m t fs z | (_, some g) => .bad g) := (by
              unfold rdH2
              dsimp only
              rw [if_neg (by rw [LF.out]; exact h32)]
              rfl : rdH2 m t (some fs) = match bsz fs with | (z, none) => .ok m t fs z | (_, some g) => .bad g)
            have FW : Hid (Fw wr fa fn fs) := fw_rw HP.out.rw (by omega) (fun f hf => by
              have h := flds_size (B := 4096) FL.out (fun x hx => by
                obtain ⟨j, hj, rfl⟩ := List.getElem_of_mem hx
                exact Nat.le_trans (lns_size (s := s) (by rw [HLT.out]; exact List.mem_cons_of_mem _ (List.getElem_mem hj))) sz) f hf
              omega)
            go_wp2
            obtain ⟨wq, rfl⟩ : ∃ q, q = wr := ⟨_, rfl⟩
            go_loopw [80, 15, 16, 9] (fun ti ts tk tb wr => ∃ (i kk : Nat) (size : Int) (okv : Bool), i ≤ fn ∧ kk ≤ i ∧ ti = .int .i64 (i : Int) ∧ ts = .int .i64 size ∧ tk = .int .i64 (kk : Int) ∧ tb = .bool okv ∧ Hid (SzI fs i size kk okv) ∧ Hid (Below wq.heap.size wq wr)) (fun ti _ _ _ _ => fn - (intOf ti).toNat)
            case atStart => exact ⟨0, 0, 0, true, by omega, by omega, rfl, rfl, rfl, rfl, SzI.zero fs, Below.refl _ _⟩
            case round =>
              clear r0 r1 r2 r3 rz ry
              obtain ⟨i, kk, size, okv, hi2, hkk, rfl, rfl, rfl, rfl, HS, HB⟩ := hrel
              by_cases hlt : i < fn
              · have j1 : (i : Int) < (fn : Int) := by omega
                obtain ⟨fb, off, rfl, hb, hc⟩ := (FW.out.below HB.out).at_.resolve_left (by omega)
                obtain ⟨c0, c1⟩ := hc i hlt
                obtain ⟨u, Hu⟩ : ∃ q, Hid ((fs.getD i fz).1 = q) := ⟨_, rfl⟩
                obtain ⟨v, Hv⟩ : ∃ q, Hid ((fs.getD i fz).2 = q) := ⟨_, rfl⟩
                rw [Hu.out] at c0
                rw [Hv.out] at c1
                obtain ⟨w1, hw1⟩ : ∃ w1, w1 = wr.alloc (.cells #[.string u, .string v] 41) := ⟨_, rfl⟩
                have e0 : w1.cell? ⟨wr.heap.size, 0, none⟩ = some (.string u) := by rw [hw1]; simp
                have e1 : w1.cell? ⟨wr.heap.size, 1, none⟩ = some (.string v) := by rw [hw1]; simp
                have L1 : Hid (Below wq.heap.size wq w1) := by rw [hw1]; exact HB.out.alloc HB.out.size _
                clear hc hb
                obtain ⟨bc, Ec⟩ : ∃ q, Hid (decide (u = cod) = q) := ⟨_, rfl⟩
                have q0 : (u.toList == [116, 114, 97, 110, 115, 102, 101, 114, 45, 101, 110, 99, 111, 100, 105, 110, 103]) = bc := beq_lit Ec.out rfl
                cases bc with
                | true =>
                  have EV : Hid (prs l = .bad 12) := by
                    rw [RH.out, RH3.out, bsz_cod (i := i) (by rw [LF.out]; exact hlt) (by rw [Hu.out]; exact of_decide_eq_true Ec.out)]
                    rfl
                  have K1 : Hid (Bx w w1 g 27 (aggR ⟨#[]⟩ ⟨#[]⟩ nilS nilS)) := KR.out.below L1.out
                  go_upto_region 24 with (fail)
                  rw [← hw1]
                  obtain ⟨q, hq⟩ : ∃ q, q = wr.heap.size := ⟨_, rfl⟩
                  rw [← hq] at e0 e1 ⊢
                  clear hw1 hq c0 c1
                  obtain ⟨w9, H9⟩ : ∃ w9, Hid (w1.setRow g (aggR ⟨#[]⟩ ⟨#[]⟩ nilS nilS) = w9) := ⟨_, rfl⟩
                  have K9 : Hid (Bx w w9 g 27 (aggR ⟨#[]⟩ ⟨#[]⟩ nilS nilS)) := by rw [← H9.out]; exact K1.out.set _
                  go_wp2_with (refine wpList_store_row (by rfl) 27 (.tmp 2) (.tmp 87) (by rfl) g (aggR ⟨#[]⟩ ⟨#[]⟩ nilS nilS) (by rfl) (by rfl) 27 _ K1.out.row (sz27 _ _ _ _) (by rfl) (one27 _ _ _ _ _ _ _ _) ?_; refine (show _ = w9 from H9.out) ▸ ?_)
                  try simp only [Exit.inBlock, Exit.then]
                  refine bodyPost_ret (res_row3 (by rfl) (by rfl) K9.out.row und27 (sz27 _ _ _ _)) rfl ?_
                  rw [EV.out]
                  exact ⟨rfl, K9.out.bel⟩
                | false =>
                  obtain ⟨bl, El⟩ : ∃ q, Hid (decide (u = cln) = q) := ⟨_, rfl⟩
                  have q1 : (u.toList == [99, 111, 110, 116, 101, 110, 116, 45, 108, 101, 110, 103, 116, 104]) = bl := beq_lit El.out rfl
                  cases bl with
                  | false =>
                    have NX : Hid (SzI fs (i + 1) size kk okv) := HS.out.skip (by rw [LF.out]; exact hlt) (by rw [Hu.out]; exact of_decide_eq_false Ec.out) (by rw [Hu.out]; exact of_decide_eq_false El.out)
                    go_upto_region 24 with (fail)
                    rw [← hw1]
                    obtain ⟨q, hq⟩ : ∃ q, q = wr.heap.size := ⟨_, rfl⟩
                    rw [← hq] at e0 e1 ⊢
                    clear hw1 hq c0 c1
                    go_wp2
                    go_roundw
                    case rel => exact ⟨i + 1, kk, size, okv, by omega, by omega, by go_num, rfl, rfl, rfl, NX.out, L1.out⟩
                    case measure => simp [intOf]; omega
                  | true =>
                    have VC : Hid ((fs.getD i fz).1 = cln) := (by rw [Hu.out]; exact of_decide_eq_true El.out : (fs.getD i fz).1 = cln)
                    cases okv with
                    | false =>
                      have NX : Hid (SzI fs (i + 1) size (kk + 1) false) := HS.out.take (by rw [LF.out]; exact hlt) VC.out (fun k0 => absurd (HS.out.sz0 k0).2 (by decide))
                      clear HS
                      go_upto_region 24 with (fail)
                      rw [← hw1]
                      obtain ⟨q, hq⟩ : ∃ q, q = wr.heap.size := ⟨_, rfl⟩
                      rw [← hq] at e0 e1 ⊢
                      clear hw1 hq c0 c1
                      go_upto_region 29 with (fail)
                      go_wp2
                      go_loopw [19, 9, 15] (fun tj tb ts wr => tj = .int .i64 0 ∧ tb = .bool false ∧ ts = .int .i64 size ∧ wr = w1) (fun _ _ _ _ => 0)
                      case atStart => exact ⟨rfl, rfl, rfl, rfl⟩
                      case round =>
                        obtain ⟨rfl, rfl, rfl, rfl⟩ := hrel
                        by_cases y0 : v.size = 0
                        · have m0 : ¬ ((0 : Int) < (v.size : Int)) := by omega
                          go_wp2
                          go_roundw
                          case rel => exact ⟨i + 1, kk + 1, size, false, by omega, by omega, by go_num, rfl, by go_num, rfl, NX.out, L1.out⟩
                          case measure => simp [intOf]; omega
                        · have m0 : (0 : Int) < (v.size : Int) := by omega
                          go_wp2
                          go_roundw
                          case rel => exact ⟨i + 1, kk + 1, size, false, by omega, by omega, by go_num, rfl, by go_num, rfl, NX.out, L1.out⟩
                          case measure => simp [intOf]; omega
                    | true =>
                      by_cases h1 : 1 ≤ v.size
                      · by_cases h9 : v.size ≤ 9
                        · have n1 : (1 : Int) ≤ (v.size : Int) := by omega
                          have n9 : (v.size : Int) ≤ 9 := by omega
                          have DS : Hid (kk = 0 → Dg v 0 true size) := fun k0 => by rw [(HS.out.sz0 k0).1]; exact Dg.start h1 h9
                          go_upto_region 24 with (fail)
                          rw [← hw1]
                          obtain ⟨q, hq⟩ : ∃ q, q = wr.heap.size := ⟨_, rfl⟩
                          rw [← hq] at e0 e1 ⊢
                          clear hw1 hq c0 c1
                          go_upto_region 29 with (fail)
                          go_wp2
                          go_loopw [19, 9, 15] (fun tj tb ts wr => ∃ (j : Nat) (okj : Bool) (szj : Int), j ≤ v.size ∧ tj = .int .i64 (j : Int) ∧ tb = .bool okj ∧ ts = .int .i64 szj ∧ Hid (kk = 0 → Dg v j okj szj) ∧ wr = w1) (fun tj _ _ _ => v.size - (intOf tj).toNat)
                          case atStart => exact ⟨0, true, size, by omega, rfl, rfl, rfl, DS.out, rfl⟩
                          case round =>
                            clear DS n1 n9
                            obtain ⟨j, okj, szj, hj, rfl, rfl, rfl, HD, rfl⟩ := hrel
                            cases okj with
                            | false =>
                              have NX : Hid (SzI fs (i + 1) szj (kk + 1) false) := HS.out.take (by rw [LF.out]; exact hlt) VC.out (fun k0 => by have h := (HD.out k0).done (fun h => by cases h); rw [Hv.out]; exact h)
                              by_cases jl : j < v.size
                              · have m0 : (j : Int) < (v.size : Int) := by omega
                                go_wp2
                                go_roundw
                                case rel => exact ⟨i + 1, kk + 1, szj, false, by omega, by omega, by go_num, rfl, by go_num, rfl, NX.out, L1.out⟩
                                case measure => simp [intOf]; omega
                              · have m0 : ¬ ((j : Int) < (v.size : Int)) := by omega
                                go_wp2
                                go_roundw
                                case rel => exact ⟨i + 1, kk + 1, szj, false, by omega, by omega, by go_num, rfl, by go_num, rfl, NX.out, L1.out⟩
                                case measure => simp [intOf]; omega
                            | true =>
                              by_cases jl : j < v.size
                              · have m0 : (j : Int) < (v.size : Int) := by omega
                                have X0 := sb_ix v j (j : Int) rfl jl
                                obtain ⟨b, Hb⟩ : ∃ b, Hid (sb v j = b) := ⟨_, rfl⟩
                                rw [Hb.out] at X0
                                by_cases b48 : 48 ≤ b
                                · have t48 : (48 : Int) ≤ (b : Int) := by omega
                                  by_cases b57 : b ≤ 57
                                  · have t57 : (b : Int) ≤ 57 := by omega
                                    have DB : Hid (dgB (sb v j) = true) := by rw [Hb.out]; exact decide_eq_true (by omega)
                                    by_cases k0 : kk = 0
                                    · obtain ⟨z, rfl, hz, _⟩ := (HD.out k0).lt
                                      have zl : z < 100000000 := by
                                        have : (10 : Nat) ^ j ≤ 10 ^ 8 := Nat.pow_le_pow_right (by omega) (by omega)
                                        omega
                                      have DN : Hid (kk = 0 → Dg v (j + 1) true ((10 * z + (b - 48) : Nat) : Int)) := fun _ => by rw [← Hb.out]; exact (HD.out k0).more DB.out
                                      clear HD hz HS
                                      go_wp2
                                      go_roundw
                                      case rel => exact ⟨j + 1, true, _, by omega, by go_num, rfl, by go_num, DN.out, by trivial⟩
                                      case measure => simp [intOf]; omega
                                    · go_wp2
                                      go_roundw
                                      case rel => exact ⟨j + 1, true, _, by omega, by go_num, rfl, rfl, fun h => absurd h k0, by trivial⟩
                                      case measure => simp [intOf]; omega
                                  · have t57 : ¬ ((b : Int) ≤ 57) := by omega
                                    have DN : Hid (∀ q z, Dg v q false z) := fun q z => Dg.fall jl (by rw [Hb.out]; exact decide_eq_false (by omega)) q z
                                    go_wp2
                                    go_roundw
                                    case rel => exact ⟨j + 1, false, _, by omega, by go_num, rfl, rfl, fun _ => DN.out _ _, by trivial⟩
                                    case measure => simp [intOf]; omega
                                · have t48 : ¬ ((48 : Int) ≤ (b : Int)) := by omega
                                  have DN : Hid (∀ q z, Dg v q false z) := fun q z => Dg.fall jl (by rw [Hb.out]; exact decide_eq_false (by omega)) q z
                                  go_wp2
                                  go_roundw
                                  case rel => exact ⟨j + 1, false, _, by omega, by go_num, rfl, rfl, fun _ => DN.out _ _, by trivial⟩
                                  case measure => simp [intOf]; omega
                              · have m0 : ¬ ((j : Int) < (v.size : Int)) := by omega
                                have NX : Hid (SzI fs (i + 1) szj (kk + 1) true) := HS.out.take (by rw [LF.out]; exact hlt) VC.out (fun k0 => by have h := (HD.out k0).done (fun _ => by omega); rw [Hv.out]; exact h)
                                go_wp2
                                go_roundw
                                case rel => exact ⟨i + 1, kk + 1, szj, true, by omega, by omega, by go_num, rfl, by go_num, rfl, NX.out, L1.out⟩
                                case measure => simp [intOf]; omega
                        · have n1 : (1 : Int) ≤ (v.size : Int) := by omega
                          have n9 : ¬ ((v.size : Int) ≤ 9) := by omega
                          have NX : Hid (SzI fs (i + 1) size (kk + 1) false) := HS.out.take (by rw [LF.out]; exact hlt) VC.out (fun _ => ⟨by rw [Hv.out, okD_long h9], fun e => by cases e⟩)
                          clear HS
                          go_upto_region 24 with (fail)
                          rw [← hw1]
                          obtain ⟨q, hq⟩ : ∃ q, q = wr.heap.size := ⟨_, rfl⟩
                          rw [← hq] at e0 e1 ⊢
                          clear hw1 hq c0 c1
                          go_upto_region 29 with (fail)
                          go_wp2
                          go_loopw [19, 9, 15] (fun tj tb ts wr => tj = .int .i64 0 ∧ tb = .bool false ∧ ts = .int .i64 size ∧ wr = w1) (fun _ _ _ _ => 0)
                          case atStart => exact ⟨rfl, rfl, rfl, rfl⟩
                          case round =>
                            obtain ⟨rfl, rfl, rfl, rfl⟩ := hrel
                            have m0 : (0 : Int) < (v.size : Int) := by omega
                            go_wp2
                            go_roundw
                            case rel => exact ⟨i + 1, kk + 1, size, false, by omega, by omega, by go_num, rfl, by go_num, rfl, NX.out, L1.out⟩
                            case measure => simp [intOf]; omega
                      · have n1 : ¬ ((1 : Int) ≤ (v.size : Int)) := by omega
                        have NX : Hid (SzI fs (i + 1) size (kk + 1) false) := HS.out.take (by rw [LF.out]; exact hlt) VC.out (fun _ => ⟨by rw [Hv.out, okD_short (by omega)], fun e => by cases e⟩)
                        clear HS
                        go_upto_region 24 with (fail)
                        rw [← hw1]
                        obtain ⟨q, hq⟩ : ∃ q, q = wr.heap.size := ⟨_, rfl⟩
                        rw [← hq] at e0 e1 ⊢
                        clear hw1 hq c0 c1
                        go_upto_region 29 with (fail)
                        go_wp2
                        go_loopw [19, 9, 15] (fun tj tb ts wr => tj = .int .i64 0 ∧ tb = .bool false ∧ ts = .int .i64 size ∧ wr = w1) (fun _ _ _ _ => 0)
                        case atStart => exact ⟨rfl, rfl, rfl, rfl⟩
                        case round =>
                          obtain ⟨rfl, rfl, rfl, rfl⟩ := hrel
                          have m0 : ¬ ((0 : Int) < (v.size : Int)) := by omega
                          go_wp2
                          go_roundw
                          case rel => exact ⟨i + 1, kk + 1, size, false, by omega, by omega, by go_num, rfl, by go_num, rfl, NX.out, L1.out⟩
                          case measure => simp [intOf]; omega
              · obtain rfl : i = fn := by omega
                have j1 : ¬ ((i : Int) < (i : Int)) := by omega
                have HSL : Hid (SzI fs fs.length size kk okv) := by rw [LF.out]; exact HS.out
                have KX : Hid (Bx w wr g 27 (aggR ⟨#[]⟩ ⟨#[]⟩ nilS nilS)) := KR.out.below HB.out
                have PX : Hid (Ps w3 wr g10 m t fa i fc fs) := HP.out.below HB.out
                clear HS hlt hi2 j32 h32
                cases okv with
                | false =>
                  have EV : Hid (prs l = .bad 12) := by rw [RH.out, RH3.out, HSL.out.no]; rfl
                  obtain ⟨w9, H9⟩ : ∃ w9, Hid (wr.setRow g (aggR ⟨#[]⟩ ⟨#[]⟩ nilS nilS) = w9) := ⟨_, rfl⟩
                  have K9 : Hid (Bx w w9 g 27 (aggR ⟨#[]⟩ ⟨#[]⟩ nilS nilS)) := by rw [← H9.out]; exact KX.out.set _
                  go_wp2_with (refine wpList_store_row (by rfl) 27 (.tmp 2) (.tmp 144) (by rfl) g (aggR ⟨#[]⟩ ⟨#[]⟩ nilS nilS) (by rfl) (by rfl) 27 _ KX.out.row (sz27 _ _ _ _) (by rfl) (one27 _ _ _ _ _ _ _ _) ?_; refine (show _ = w9 from H9.out) ▸ ?_)
                  try simp only [Exit.inBlock, Exit.then]
                  refine bodyPost_ret (res_row3 (by rfl) (by rfl) K9.out.row und27 (sz27 _ _ _ _)) rfl ?_
                  rw [EV.out]
                  exact ⟨rfl, K9.out.bel⟩
                | true =>
                  by_cases hk1 : 1 < kk
                  · have k1 : (1 : Int) < (kk : Int) := by omega
                    have EV : Hid (prs l = .bad 12) := by rw [RH.out, RH3.out, HSL.out.two hk1]; rfl
                    obtain ⟨w9, H9⟩ : ∃ w9, Hid (wr.setRow g (aggR ⟨#[]⟩ ⟨#[]⟩ nilS nilS) = w9) := ⟨_, rfl⟩
                    have K9 : Hid (Bx w w9 g 27 (aggR ⟨#[]⟩ ⟨#[]⟩ nilS nilS)) := by rw [← H9.out]; exact KX.out.set _
                    go_wp2_with (refine wpList_store_row (by rfl) 27 (.tmp 2) (.tmp 144) (by rfl) g (aggR ⟨#[]⟩ ⟨#[]⟩ nilS nilS) (by rfl) (by rfl) 27 _ KX.out.row (sz27 _ _ _ _) (by rfl) (one27 _ _ _ _ _ _ _ _) ?_; refine (show _ = w9 from H9.out) ▸ ?_)
                    try simp only [Exit.inBlock, Exit.then]
                    refine bodyPost_ret (res_row3 (by rfl) (by rfl) K9.out.row und27 (sz27 _ _ _ _)) rfl ?_
                    rw [EV.out]
                    exact ⟨rfl, K9.out.bel⟩
                  · have k1 : ¬ ((1 : Int) < (kk : Int)) := by omega
                    obtain ⟨s0, HBZ⟩ := HSL.out.yes hk1
                    by_cases h1024 : 1024 < size
                    · have EV : Hid (prs l = .bad 0) := by rw [RH.out, RH3.out, HBZ, if_pos h1024]; rfl
                      clear HBZ
                      obtain ⟨w9, H9⟩ : ∃ w9, Hid (wr.setRow g (aggR ⟨#[]⟩ ⟨#[]⟩ nilS nilS) = w9) := ⟨_, rfl⟩
                      have K9 : Hid (Bx w w9 g 27 (aggR ⟨#[]⟩ ⟨#[]⟩ nilS nilS)) := by rw [← H9.out]; exact KX.out.set _
                      go_wp2_with (refine wpList_store_row (by rfl) 27 (.tmp 2) (.tmp 147) (by rfl) g (aggR ⟨#[]⟩ ⟨#[]⟩ nilS nilS) (by rfl) (by rfl) 27 _ KX.out.row (sz27 _ _ _ _) (by rfl) (one27 _ _ _ _ _ _ _ _) ?_; refine (show _ = w9 from H9.out) ▸ ?_)
                      try simp only [Exit.inBlock, Exit.then]
                      refine bodyPost_ret (res_row3 (by rfl) (by rfl) K9.out.row und27 (sz27 _ _ _ _)) rfl ?_
                      rw [EV.out]
                      exact ⟨rfl, K9.out.bel⟩
                    · obtain ⟨z, rfl⟩ : ∃ z : Nat, size = z := ⟨size.toNat, by omega⟩
                      have OKV : Hid (prs l = if l.length - (x + 4) < z then .wait else .got m t fs ((l.drop (x + 4)).take z) (x + 4 + z)) := by rw [RH.out, RH3.out, HBZ, if_neg h1024, Int.toNat_natCast]; rfl
                      clear HBZ
                      by_cases hw : l.length - (x + 4) < z
                      · have m1 : (n : Int) - ((x : Int) + 4) < (z : Int) := by have := NL.out; omega
                        have EV : Hid (prs l = .wait) := (by rw [OKV.out, if_pos hw] : prs l = .wait)
                        obtain ⟨w9, H9⟩ : ∃ w9, Hid (wr.setRow g (aggR ⟨#[]⟩ ⟨#[]⟩ nilS nilS) = w9) := ⟨_, rfl⟩
                        have K9 : Hid (Bx w w9 g 27 (aggR ⟨#[]⟩ ⟨#[]⟩ nilS nilS)) := by rw [← H9.out]; exact KX.out.set _
                        go_wp2_with (refine wpList_store_row (by rfl) 27 (.tmp 2) (.tmp 154) (by rfl) g (aggR ⟨#[]⟩ ⟨#[]⟩ nilS nilS) (by rfl) (by rfl) 27 _ KX.out.row (sz27 _ _ _ _) (by rfl) (one27 _ _ _ _ _ _ _ _) ?_; refine (show _ = w9 from H9.out) ▸ ?_)
                        try simp only [Exit.inBlock, Exit.then]
                        refine bodyPost_ret (res_row3 (by rfl) (by rfl) K9.out.row und27 (sz27 _ _ _ _)) rfl ?_
                        rw [EV.out]
                        exact ⟨rfl, K9.out.bel⟩
                      · have m1 : ¬ ((n : Int) - ((x : Int) + 4) < (z : Int)) := by have := NL.out; omega
                        have nz : n ≤ 140737488354304 := by rw [NL.out]; exact hS.out.sli.2.1
                        have EV : Hid (prs l = .got m t fs ((l.drop (x + 4)).take z) (x + 4 + z)) := (by rw [OKV.out, if_neg hw] : prs l = .got m t fs ((l.drop (x + 4)).take z) (x + 4 + z))
                        obtain ⟨ab, HAB⟩ : ∃ q, Hid (adr a c (x + 4) = q) := ⟨_, rfl⟩
                        have R41 : ∀ W, (Instr.sliceAt 22 (.slice a n c) (some (.int .i64 ((x : Int) + 4))) (some (.int .i64 ((x : Int) + 4 + (z : Int)))) none).run Tryz.prog W = .ok (.slice ab z (c - (x + 4))) W := fun W => by
                          have h := mid_run (a := a) (n := n) (c := c) (lo := x + 4) (hi := x + 4 + z) (by omega) (by have := NL.out; omega) W
                          rw [HAB.out, Nat.add_sub_cancel_left] at h
                          rw [show ((x : Int) + 4 + (z : Int)) = ((x + 4 + z : Nat) : Int) by omega, show ((x : Int) + 4) = ((x + 4 : Nat) : Int) by omega]
                          exact h
                        obtain ⟨h0, HH0⟩ : ∃ h, Hid (wr.heap.size = h) := ⟨_, rfl⟩
                        obtain ⟨w5, H5⟩ : ∃ q, Hid (wr.alloc (.cells #[] 5) = q) := ⟨_, rfl⟩
                        have D5 : Hid (Below wr.heap.size wr w5) := by rw [← H5.out]; exact alloc1 _ _
                        have O5 : Own w5 wr.heap.size (some ⟨h0, 0, none⟩) 0 0 [] := by rw [← H5.out, ← HH0.out]; exact own_zero wr _ (Nat.le_refl _)
                        have SB : Hid (Sln w5 ab z ((l.drop (x + 4)).take z)) := by
                          have h := slice_mid (m := c) (lo := x + 4) (hi := x + 4 + z) (hS.out.below (KX.out.bel.trans (D5.out.mono KX.out.bel.size))) (by omega) (by have := NL.out; omega) (by have := NL.out; omega)
                          rw [Nat.add_sub_cancel_left] at h
                          rw [← HAB.out]
                          exact h
                        have abn : ab = none → c - (x + 4) = 0 := fun e => by
                          rw [← HAB.out] at e
                          unfold adr at e
                          rcases hS.out.sli.2.2 with h | ⟨b, off, rfl, _⟩
                          · rw [h] at hxl; simp at hxl
                          · split at e <;> simp at e
                        obtain ⟨a6, c6, w6, run6, O6, gr6, nw6⟩ := app_any (c2 := c - (x + 4)) O5 SB.out abn (by have h1 := SB.out.len; have h2 := SB.out.sli.2.1; omega) D5.out.size
                        rw [Nat.zero_add, List.nil_append] at O6
                        rw [Nat.zero_add] at run6
                        have RUN6 : Hid ((Builtin.append_ #[22, 22] 22 #[.slice (some ⟨h0, 0, none⟩) 0 0, .slice ab z (c - (x + 4))]).run Tryz.prog w5 = .ok (.slice a6 z c6) w6) := run6
                        have D6 : Hid (Below wr.heap.size wr w6) := D5.out.grown gr6 D5.out.size (fun q e => by cases e; exact Nat.le_of_eq HH0.out)
                        have P6 : Hid (Ps w3 w6 g10 m t fa i fc fs) := PX.out.below D6.out
                        have K6 : Hid (Bx w w6 g 27 (aggR ⟨#[]⟩ ⟨#[]⟩ nilS nilS)) := KX.out.below D6.out
                        have ne : g ≠ g10 := by have := GG.out; have := PX.out.k.ge; omega
                        obtain ⟨w7, H7⟩ : ∃ q, Hid (w6.setCell ⟨g10, 3, none⟩ (.slice a6 z c6) = q) := ⟨_, rfl⟩
                        have B7 : Hid (Bx w3 w7 g10 27 (aggR m t (.slice fa i fc) (.slice a6 z c6))) := by
                          rw [← H7.out]
                          refine ⟨?_, ?_, P6.out.k.ge⟩
                          · rw [set_blk P6.out.k.row]
                            rfl
                          · exact P6.out.bel.trans ⟨rfl, rfl, rfl, by simp [World.setCell], fun q hq => Below.heap_setCell _ _ _ _ (show q ≠ g10 by have := P6.out.k.ge; omega)⟩
                        have K7 : Hid (Bx w w7 g 27 (aggR ⟨#[]⟩ ⟨#[]⟩ nilS nilS)) := by rw [← H7.out]; exact K6.out.setC (Nat.le_trans K3.out.bel.size P6.out.k.ge) ne _ _
                        have F7 : Hid (Rw w7 w.heap.size 41 EF fa i fc fs) := by
                          rw [← H7.out]
                          refine (P6.out.rw.keep1 (fun q e => Below.heap_setCell _ _ _ _ ?_)).mono K3.out.bel.size
                          rintro rfl
                          exact P6.out.not e.symm
                        have O7 : Hid (Own w7 w.heap.size a6 z c6 ((l.drop (x + 4)).take z)) := by
                          rw [← H7.out]
                          refine (O6.block (fun q e => Below.heap_setCell _ _ _ _ ?_)).base KX.out.bel.size
                          rintro rfl
                          have h1 := (O6.ge _ e).1
                          have h2 := PX.out.k.lt
                          omega
                        obtain ⟨w9, H9⟩ : ∃ q, Hid (w7.setRow g (aggR m t (.slice fa i fc) (.slice a6 z c6)) = q) := ⟨_, rfl⟩
                        have K9 : Hid (Bx w w9 g 27 (aggR m t (.slice fa i fc) (.slice a6 z c6))) := by rw [← H9.out]; exact K7.out.set _
                        have F9 : Hid (Rw w9 w.heap.size 41 EF fa i fc fs) := by
                          rw [← H9.out]
                          refine F7.out.keep1 (fun q e => setRow_other _ _ _ _ ?_)
                          rintro rfl
                          obtain ⟨cur, e1, _⟩ := F7.out.blk e
                          rw [K7.out.row] at e1
                          cases e1
                        have O9 : Hid (Own w9 w.heap.size a6 z c6 ((l.drop (x + 4)).take z)) := by
                          rw [← H9.out]
                          refine O7.out.block (fun q e => setRow_other _ _ _ _ ?_)
                          rintro rfl
                          have h1 := (O6.ge _ e).1
                          have h2 := KX.out.lt
                          omega
                        obtain ⟨p0, p1, p2, p3, p4, p5⟩ := P6.out.cs
                        obtain ⟨b0, b1, b2, b3⟩ := box4 B7.out.row
                        clear run6 O5 O6 gr6 nw6
                        go_upto_region 42 with (first
                          | (at_builtin; rw [H5.out, HH0.out]; refine wpList_app (by rfl) (.tmp 155) (.tmp 161) (by rfl) (by rfl) (by rfl) (by rfl) RUN6.out ?_))
                        rw [H7.out]
                        clear p0 p1 p2 p3 p4 p5
                        go_wp2_with (refine wpList_store_row (by rfl) 27 (.tmp 2) (.tmp 164) (by rfl) g (aggR m t (.slice fa i fc) (.slice a6 z c6)) (by rfl) (by rfl) 27 _ K7.out.row (sz27 _ _ _ _) (by rfl) (one27 _ _ _ _ _ _ _ _) ?_; refine (show _ = w9 from H9.out) ▸ ?_)
                        try simp only [Exit.inBlock, Exit.then]
                        refine bodyPost_ret (res_row3 (by rfl) (by rfl) K9.out.row und27 (sz27 _ _ _ _)) rfl ?_
                        rw [EV.out]
                        exact ⟨⟨fa, i, fc, a6, z, c6, congrArg (fun q : Int => Ending.returned (.tuple #[.agg (aggR m t (.slice fa i fc) (.slice a6 z c6)), .int .i64 q, .int .i64 0])) (by omega), F9.out, O9.out⟩, K9.out.bel⟩
end Go.Proofs.YtemhhlongfabmaaGreatDoor
