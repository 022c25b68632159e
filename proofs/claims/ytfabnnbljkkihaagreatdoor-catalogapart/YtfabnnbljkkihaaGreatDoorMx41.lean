import Derived.Test.YtfabnnbljkkihaaGreatDoorMxp
import Derived.Test.YtfabnnbljkkihaaGreatDoorMx40
namespace Go.Proofs.YtfabnnbljkkihaaGreatDoor
open Go.ChangeShapes Go.WideShapes Go.ChangeAt Go.RowKit
set_option maxRecDepth 20000
set_option linter.unusedVariables false
set_option linter.unusedSimpArgs false
set_option maxHeartbeats 16000000 in
theorem sameCt_n {w : World} {A B : Array Value} {P Q : Ctd} {Kb Kc lo lo' : Nat} (hKb : Kb <= 1048576) (hA : Hid (Ctm Kb w lo A P)) (hB : Hid (Ctm Kc w lo' B Q)) :
  Calls Tryz.prog 26 #[.agg A, .agg B] w fun e w' => e = .returned (.bool (eqb P Q)) /\ Hid (Below w.heap.size w w') := by
 obtain ⟨a, n, c, X, fa, fn, fc, F, EA, CA, PA⟩ := hA.out
 obtain ⟨a', n', c', X', fa', fn', fc', F', EB, CB, PB⟩ := hB.out
 subst PA PB
 obtain ⟨hi, Hhi⟩ := nm (w.heap.size)
 rw [Hhi.out] at CA CB
 have HEA : Hid (A = #[.slice a n c,.slice fa fn fc]) := EA
 have HEB : Hid (B = #[.slice a' n' c',.slice fa' fn' fc']) := EB
 have HCA : Hid (CtO Kb w lo hi a n c X fa fn fc F) := CA
 have HCB : Hid (CtO Kc w lo' hi a' n' c' X' fa' fn' fc' F') := CB
 clear EA EB CA CB hA hB
 obtain ⟨w1, Hw1⟩ := nm ((w.alloc (.cells A 58)).alloc (.cells B 58))
 obtain ⟨g, Hg⟩ := nm (w.heap.size)
 have B1 : Hid (Below w.heap.size w w1) := by rw [<- Hw1.out]; exact alloc2 w _ _
 have ka : Hid (w1.heap[g]? = some (.cells A 58 (0, 0))) := by
  rw [<- Hw1.out, <- Hg.out]
  exact ((alloc1 (w.alloc (.cells A 58)) _).block w.heap.size (by simp)).trans (heap_alloc_new w _)
 have kb : Hid (w1.heap[g + 1]? = some (.cells B 58 (0, 0))) := by
  rw [<- Hw1.out, <- Hg.out]
  have e : (w.alloc (.cells A 58)).heap.size = w.heap.size + 1 := by simp
  rw [<- e]
  exact heap_alloc_new _ _
 have OX : Hid (Rw w1 lo hi 65 EBk a n c X) := HCA.out.b.below B1.out
 have OY : Hid (Rw w1 lo' hi 65 EBk a' n' c' X') := HCB.out.b.below B1.out
 have UX : Hid (Rw w1 lo hi 24 EId fa fn fc F) := HCA.out.f.below B1.out
 have UY : Hid (Rw w1 lo' hi 24 EId fa' fn' fc' F') := HCB.out.f.below B1.out
 have OOX : Hid (∀ o ∈ X, BkO Kb w1 lo hi o) := fun o ho => (HCA.out.bb o ho).keep (fun q _ _ hq => B1.out.block q hq)
 have OOY : Hid (∀ o ∈ X', BkO Kc w1 lo' hi o) := fun o ho => (HCB.out.bb o ho).keep (fun q _ _ hq => B1.out.block q hq)
 have hnK : n <= 1048576 := Nat.le_trans HCA.out.k.1 hKb
 have huK : fn <= 1048576 := Nat.le_trans HCA.out.k.2 hKb
 have qa0 : w1.cell? ⟨g, 0, none⟩ = some (.slice a n c) := cell_arr ka.out (by rw [HEA.out]; rfl)
 have qb0 : w1.cell? ⟨g + 1, 0, none⟩ = some (.slice a' n' c') := cell_arr kb.out (by rw [HEB.out]; rfl)
 have qa1 : w1.cell? ⟨g, 1, none⟩ = some (.slice fa fn fc) := cell_arr ka.out (by rw [HEA.out]; rfl)
 have qb1 : w1.cell? ⟨g + 1, 1, none⟩ = some (.slice fa' fn' fc') := cell_arr kb.out (by rw [HEB.out]; rfl)
 go_enter Tryz.func26, Tryz.ntmps26
 go_upto_region 1 with (fail)
 rw [Hw1.out, Hg.out]
 clear Hw1
 by_cases h0 : n = n'
 rotate_left
 . have NE : Hid (¬ n = n') := h0
   have i1 : ¬ ((n : Int) = (n' : Int)) := by omega
   clear h0
   go_wp2
   go_ret
   exact ⟨by rw [eqb_no (fun e => NE.out (by rw [OX.out.len, OY.out.len]; have h := congrArg (fun z => z.bks.length) e; simpa using h))]; rfl, B1.out⟩
 have HL0 : Hid (n = n') := h0
 rw [<- h0] at qb0
 clear h0
 by_cases h1 : fn = fn'
 rotate_left
 . have NE : Hid (¬ fn = fn') := h1
   have i1 : ¬ ((fn : Int) = (fn' : Int)) := by omega
   clear h1
   go_wp2
   go_ret
   exact ⟨by rw [eqb_no (fun e => NE.out (by rw [UX.out.len, UY.out.len]; have h := congrArg (fun z => z.fls.length) e; simpa using h))]; rfl, B1.out⟩
 have HL1 : Hid (fn = fn') := h1
 rw [<- h1] at qb1
 clear h1
 go_wp2
 clear qa0 qb0 qa1 qb1
 go_loopw [26] (fun tc wr => ∃ i : Nat, i <= n /\ tc = .int .i64 i /\ Hid ((X.take i).map Bkx.bk = (X'.take i).map Bkx.bk /\ Below w1.heap.size w1 wr)) (fun tc _ => n - (intOf tc).toNat)
 case atStart => exact ⟨0, by omega, rfl, by simp, Below.refl _ _⟩
 case round =>
  obtain ⟨i, hin, rfl, HP⟩ := hrel
  have BW : Hid (Below w1.heap.size w1 wr) := HP.out.2
  by_cases hlt : i < n
  . have i3 : (i : Int) < (n : Int) := by omega
    have kx : i < X.length := by rw [<- OX.out.len]; exact hlt
    have ky : i < X'.length := by rw [<- OY.out.len, <- HL0.out]; exact hlt
    have qa : wr.drew.cell? ⟨g, 0, none⟩ = some (.slice a n c) := cell_arr (W := wr) ((BW.out.block _ (gl ka.out)).trans ka.out) (by rw [HEA.out]; rfl)
    have qb : wr.drew.cell? ⟨g + 1, 0, none⟩ = some (.slice a' n c') := cell_arr (W := wr) ((BW.out.block _ (gl kb.out)).trans kb.out) (by rw [HEB.out, HL0.out]; rfl)
    have BD : Hid (Below w1.heap.size w1 wr.drew) := BW.out.drew
    obtain ⟨b1, e1, _, _, r1⟩ := (OX.out.below BD.out).at_ kx
    obtain ⟨b2, e2, _, _, r2⟩ := (OY.out.below BD.out).at_ ky
    rw [e1] at qa
    rw [e2] at qb
    obtain ⟨p, Hp⟩ := nm (X[i])
    obtain ⟨q, Hq⟩ := nm (X'[i])
    rw [Hp.out] at r1
    rw [Hq.out] at r2
    have PX : Hid (BkO Kb wr.drew lo hi p) := (OOX.out p (by rw [<- Hp.out]; exact List.getElem_mem kx)).keep (fun q _ _ hq => BD.out.block q hq)
    have PY : Hid (BkO Kc wr.drew lo' hi q) := (OOY.out q (by rw [<- Hq.out]; exact List.getElem_mem ky)).keep (fun q _ _ hq => BD.out.block q hq)
    have TX : Hid ((X.take (i + 1)).map Bkx.bk = (X.take i).map Bkx.bk ++ [Bkx.bk p]) := by show _ = _; rw [List.take_add_one, List.getElem?_eq_getElem kx, Hp.out, List.map_append]; rfl
    have TY : Hid ((X'.take (i + 1)).map Bkx.bk = (X'.take i).map Bkx.bk ++ [Bkx.bk q]) := by show _ = _; rw [List.take_add_one, List.getElem?_eq_getElem ky, Hq.out, List.map_append]; rfl
    have K0 : Tw5 wr.drew g 0 (.slice (some ⟨b1, 0, none⟩) n c) (.slice (some ⟨b2, 0, none⟩) n c') b1 b2 (i * 5) (EBk.e p) (EBk.e q) := ⟨qa, qb, r1, r2⟩
    clear qa qb r1 r2 e1 e2 kx ky Hp Hq
    obtain ⟨Pa, HPa⟩ : ∃ P, Hid (P = (EBk.e p).toArray) := ⟨_, rfl⟩
    obtain ⟨Qa, HQa⟩ : ∃ P, Hid (P = (EBk.e q).toArray) := ⟨_, rfl⟩
    obtain ⟨r, Hr⟩ := nm (eqb (Bkx.bk p) (Bkx.bk q))
    go_upto_region 6 with (fail)
    refine wp_region_till (S := fun L W => Tw5 W g 0 (.slice (some ⟨b1, 0, none⟩) n c) (.slice (some ⟨b2, 0, none⟩) n c') b1 b2 (i * 5) (EBk.e p) (EBk.e q)) (by kernel_rfl) K0 (fun hS => ?_)
    clear K0
    refine tkg (i := 0) (v := .pointer (some ⟨g, 0, none⟩)) rfl hS (fun hSb => ?_)
    simp only [pA,pB,pC,Act.put,pD,pE,pF]
    clear hS
    refine trx (i := 1) (c := 3) (v := .slice (some ⟨b1, 0, none⟩) n c) rfl rfl (Or.inl ⟨by rfl, fun w h => by have q9 := h.a; go_simp⟩) hSb (fun hS => ?_)
    simp only [pA,pB,pC,Act.put,pD,pE,pF]
    clear hSb
    refine tkg (i := 2) (v := .int .i64 i) rfl hS (fun hSb => ?_)
    simp only [pA,pB,pC,Act.put,pD,pE,pF]
    clear hS
    refine tkg (i := 3) (v := .pointer (some ⟨b1, i * 5, none⟩)) rfl hSb (fun hS => ?_)
    simp only [pA,pB,pC,Act.put,pD,pE,pF]
    clear hSb
    refine trx (i := 4) (c := 10) (v := .agg Pa) rfl rfl (by rw [HPa.out]; exact yieldsIf_load_mid (by rfl) 65 (.tmp 32) (by rfl) b1 (i * 5) (by rfl) (EBk.e p) _ (fun w h => h.p) Tryz.underlying65 rfl (by kernel_rfl)) hS (fun hSb => ?_)
    simp only [pA,pB,pC,Act.put,pD,pE,pF]
    clear hS
    refine tkg (i := 5) (v := .pointer (some ⟨g + 1, 0, none⟩)) rfl hSb (fun hS => ?_)
    simp only [pA,pB,pC,Act.put,pD,pE,pF]
    clear hSb
    refine trx (i := 6) (c := 8) (v := .slice (some ⟨b2, 0, none⟩) n c') rfl rfl (Or.inl ⟨by rfl, fun w h => by have q9 := h.b; go_simp⟩) hS (fun hSb => ?_)
    simp only [pA,pB,pC,Act.put,pD,pE,pF]
    clear hS
    refine tkg (i := 7) (v := .int .i64 i) rfl hSb (fun hS => ?_)
    simp only [pA,pB,pC,Act.put,pD,pE,pF]
    clear hSb
    refine tkg (i := 8) (v := .pointer (some ⟨b2, i * 5, none⟩)) rfl hS (fun hSb => ?_)
    simp only [pA,pB,pC,Act.put,pD,pE,pF]
    clear hS
    refine trx (i := 9) (c := 10) (v := .agg Qa) rfl rfl (by rw [HQa.out]; exact yieldsIf_load_mid (by rfl) 65 (.tmp 37) (by rfl) b2 (i * 5) (by rfl) (EBk.e q) _ (fun w h => h.q) Tryz.underlying65 rfl (by kernel_rfl)) hSb (fun hS => ?_)
    simp only [pA,pB,pC,Act.put,pD,pE,pF]
    clear hSb
    refine till_one (i := 10) (by kernel_rfl) rfl (fun K hK => ?_)
    simp only [pA,pB,pC]
    rw [if_pos (by rfl)]
    go_simp
    go_wp2_with (go_at_call 28; refine (sameBk_n (x := p) (y := q) hKb HPa HQa PX PY).mono ?_; rintro e w2 ⟨rfl, H1⟩; rw [Hr.out])
    have Z1 : Tw5 w2 g 0 (.slice (some ⟨b1, 0, none⟩) n c) (.slice (some ⟨b2, 0, none⟩) n c') b1 b2 (i * 5) (EBk.e p) (EBk.e q) := hS.below H1.out
    refine hK.out _ _ (Z1) (fun hSb => ?_)
    clear hK K
    try simp only [pA,pB,pC,Act.put,pD,pE,pF]
    clear hS
    refine till_one (i := 11) (by kernel_rfl) rfl (fun K hK => ?_)
    simp only [pA,pB,pC]
    rw [if_pos (by rfl)]
    go_simp
    refine hK.out _ _ (hSb) (fun hS => ?_)
    clear hK K
    try simp only [pA,pB,pC,Act.put,pD,pE,pF]
    clear hSb
    refine till_done (by kernel_rfl) ?_ _
    clear hS
    have BN := bt BD H1
    cases r
    . have NE : Hid (¬ Bkx.bk p = Bkx.bk q) := eqb_f Hr.out
      go_wp2
      go_ret
      exact ⟨by rw [eqb_no (fun e => NE.out (by have h : (X.take (i + 1)).map Bkx.bk = (X'.take (i + 1)).map Bkx.bk := (by rw [List.map_take, show X.map Bkx.bk = X'.map Bkx.bk from congrArg Ctd.bks e, <- List.map_take]); rw [TX.out, TY.out, HP.out.1] at h; simpa using h))]; rfl, B1.out.trans (BN.out.mono B1.out.size)⟩
    . have NX : Hid ((X.take (i + 1)).map Bkx.bk = (X'.take (i + 1)).map Bkx.bk /\ Below w1.heap.size w1 w2) := ⟨by rw [TX.out, TY.out, HP.out.1, eqb_t Hr.out], BN.out⟩
      go_wp2
      go_roundw
      case rel => exact ⟨i + 1, by omega, by go_num, NX⟩
      case measure => simp [intOf]; omega
  . have ein : i = n := by omega
    subst ein
    have HM0 : Hid (X.map Bkx.bk = X'.map Bkx.bk) := by
     have h := HP.out.1
     rw [List.take_of_length_le (by rw [<- OX.out.len]; exact Nat.le_refl _), List.take_of_length_le (by rw [<- OY.out.len, <- HL0.out]; exact Nat.le_refl _)] at h
     exact h
    clear HP
    have BE : Hid (Below w1.heap.size w1 wr) := BW.out
    clear BW
    have qa1 : wr.cell? ⟨g, 1, none⟩ = some (.slice fa fn fc) := cell_arr ((BE.out.block _ (gl ka.out)).trans ka.out) (by rw [HEA.out]; rfl)
    go_wp2
    clear qa1
    go_loopw [45] (fun tc wr => ∃ i : Nat, i <= fn /\ tc = .int .i64 i /\ Hid (F.take i = F'.take i /\ Below w1.heap.size w1 wr)) (fun tc _ => fn - (intOf tc).toNat)
    case atStart => exact ⟨0, by omega, rfl, by simp, BE.out⟩
    case round =>
     obtain ⟨i, hin, rfl, HP⟩ := hrel
     have BW : Hid (Below w1.heap.size w1 wr) := HP.out.2
     have kar := sh BW ka
     have kbr := sh BW kb
     by_cases hlt : i < fn
     . have i3 : (i : Int) < (fn : Int) := by omega
       have kx : i < F.length := by rw [<- UX.out.len]; exact hlt
       have ky : i < F'.length := by rw [<- UY.out.len, <- HL1.out]; exact hlt
       have qa : ∀ j, (wr.drewN j).cell? ⟨g, 1, none⟩ = some (.slice fa fn fc) := fun j => cell_arr (W := wr) kar.out (by rw [HEA.out]; rfl)
       have qb : ∀ j, (wr.drewN j).cell? ⟨g + 1, 1, none⟩ = some (.slice fa' fn fc') := fun j => cell_arr (W := wr) kbr.out (by rw [HEB.out, HL1.out]; rfl)
       obtain ⟨b1, e1, _, _, r1⟩ := (UX.out.below BW.out).at_ kx
       obtain ⟨b2, e2, _, _, r2⟩ := (UY.out.below BW.out).at_ ky
       rw [e1] at qa
       rw [e2] at qb
       obtain ⟨p, Hp⟩ := nm (F[i])
       obtain ⟨q, Hq⟩ := nm (F'[i])
       rw [Hp.out] at r1
       rw [Hq.out] at r2
       have c0 : ∀ j, (wr.drewN j).cell? ⟨b1, i * 3, none⟩ = some (.int .i64 p.i0) := fun j => r1 0 _ rfl
       have d0 : ∀ j, (wr.drewN j).cell? ⟨b2, i * 3, none⟩ = some (.int .i64 q.i0) := fun j => r2 0 _ rfl
       have c1 : ∀ j, (wr.drewN j).cell? ⟨b1, i * 3 + 1, none⟩ = some (.int .i64 p.i1) := fun j => r1 1 _ rfl
       have d1 : ∀ j, (wr.drewN j).cell? ⟨b2, i * 3 + 1, none⟩ = some (.int .i64 q.i1) := fun j => r2 1 _ rfl
       have c2 : ∀ j, (wr.drewN j).cell? ⟨b1, i * 3 + 2, none⟩ = some (.int .i64 p.i2) := fun j => r1 2 _ rfl
       have d2 : ∀ j, (wr.drewN j).cell? ⟨b2, i * 3 + 2, none⟩ = some (.int .i64 q.i2) := fun j => r2 2 _ rfl
       have TX : Hid (F.take (i + 1) = F.take i ++ [p]) := by show _ = _; rw [List.take_add_one, List.getElem?_eq_getElem kx, Hp.out]; rfl
       have TY : Hid (F'.take (i + 1) = F'.take i ++ [q]) := by show _ = _; rw [List.take_add_one, List.getElem?_eq_getElem ky, Hq.out]; rfl
       clear e1 e2 r1 r2 kx ky Hp Hq
       by_cases hpq : p = q
       . have EQ : ∀ w, (Op.equalIn 10000 24 (.agg #[.int .i64 p.i0,.int .i64 p.i1,.int .i64 p.i2]) (.agg #[.int .i64 q.i0,.int .i64 q.i1,.int .i64 q.i2])).run Tryz.prog w = .ok true w := fun w => by rw [eqId _ _ _ _ _ _ 9998 w, hpq]; simp
         have HE : Hid (p = q) := hpq
         clear hpq
         go_upto_region 12 with (fail)
         go_quiet (fail)
         have NX : Hid (F.take (i + 1) = F'.take (i + 1) /\ Below w1.heap.size w1 (wr.drewN nq)) := ⟨by rw [TX.out, TY.out, HP.out.1, HE.out], below_drewN BW.out _⟩
         clear qa qb c0 d0 c1 d1 c2 d2 EQ
         go_wp2
         go_roundw
         case rel => exact ⟨i + 1, by omega, by go_num, NX⟩
         case measure => simp [intOf]; omega
       . have EQ : ∀ w, (Op.equalIn 10000 24 (.agg #[.int .i64 p.i0,.int .i64 p.i1,.int .i64 p.i2]) (.agg #[.int .i64 q.i0,.int .i64 q.i1,.int .i64 q.i2])).run Tryz.prog w = .ok false w := fun w => by rw [eqId _ _ _ _ _ _ 9998 w, decide_eq_false]; intro h; exact hpq (by cases p; cases q; simp_all)
         have NE : Hid (¬ p = q) := hpq
         clear hpq
         go_upto_region 12 with (fail)
         go_quiet (fail)
         go_wp2
         go_ret
         exact ⟨by rw [eqb_no (fun e => NE.out (by have h : F.take (i + 1) = F'.take (i + 1) := (by rw [show F = F' from congrArg Ctd.fls e]); rw [TX.out, TY.out, HP.out.1] at h; simpa using h))]; rfl, B1.out.trans ((below_drewN BW.out _).mono B1.out.size)⟩
     . have ein : i = fn := by omega
       subst ein
       have HF : Hid (F = F') := by
        have h := HP.out.1
        rw [List.take_of_length_le (by rw [<- UX.out.len]; exact Nat.le_refl _), List.take_of_length_le (by rw [<- UY.out.len, <- HL1.out]; exact Nat.le_refl _)] at h
        exact h
       clear HP
       go_wp2
       go_ret
       exact ⟨by rw [eqb_yes (show Ctd.mk (X.map Bkx.bk) F = Ctd.mk (X'.map Bkx.bk) F' by rw [HM0.out, HF.out])]; rfl, B1.out.trans (BW.out.mono B1.out.size)⟩
end Go.Proofs.YtfabnnbljkkihaaGreatDoor
