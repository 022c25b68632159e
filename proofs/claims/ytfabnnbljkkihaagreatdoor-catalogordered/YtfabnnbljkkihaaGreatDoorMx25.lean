import Derived.Test.YtfabnnbljkkihaaGreatDoorMxp
import Derived.Test.YtfabnnbljkkihaaGreatDoorMx24
namespace Go.Proofs.YtfabnnbljkkihaaGreatDoor
open Go.ChangeShapes Go.WideShapes Go.ChangeAt Go.RowKit
set_option maxRecDepth 20000
set_option linter.unusedVariables false
set_option linter.unusedSimpArgs false
def upO (b : Bkd) (x : Cm) (G : Uld -> Bkd × Outc) : Bkd × Outc :=
 match upB b x with
 | none => (b, noO 3)
 | some u => G u
theorem box_do {K : Nat} {V w' : World} {lo hi b n g : Nat} {X : List Bkx} {i : Nat} {y : Bkx} {f : Bkd × Outc} {R cs : Array Value} (hS : Bs K V lo hi b n X i y) (kr : V.heap[g]? = some (.cells cs 51 (0, 0))) (hd : DoR K V w' lo hi b n X i y f R) :
  w'.heap[g]? = some (.cells cs 51 (0, 0)) /\ (Tryz.prog.info? 51).map (·.size) = some R.size /\ R.size = 2 /\ R.all (·.oneCell') = true := by
 obtain ⟨h0, z, hz, h1, h2, h3⟩ := hd
 refine ⟨(h3.block g (gl kr) (sb_off hS kr (by decide))).trans kr, ?_, ?_, ?_⟩
 . rw [h0]; exact outZ
 . rw [h0]; rfl
 . rw [h0]; exact all_oneCell_toArray (cs := [.int .i64 f.2.code,.string f.2.etag]) (by intro v hv; simp at hv; rcases hv with rfl | rfl <;> rfl)
set_option maxHeartbeats 16000000 in
theorem clo101_put {K0 : Nat} (hK : K0 <= 1048576) {w : World} {A : Array Value} {x : Cx} {lo hi b n gd : Nat} {X : List Bkx} {i : Nat} {y : Bkx} {G : Uld -> Bkd × Outc} (hX : Hid (A = (encX x).toArray)) (hB : Hid (Bs K0 w lo hi b n X i y)) (hD : Hid (w.heap[gd]? = some (.cells #[.func (.func 72) #[] #[]] 117 (0, 0))))
  (hdo : ∀ (V : World) (u p : Nat) (v : Ulx), Hid (Bs K0 V lo hi b n X i y) -> Hid (y.ux[p]? = some v) -> Hid (y.ua = some ⟨u, 0, none⟩) -> Hid (plcB (byU x.cm.u0 x.cm.u1 x.cm.u2) y.bk.uls = p) -> Below w.heap.size w V -> Calls Tryz.prog 72 #[.pointer (some ⟨b, i * 5, none⟩), .pointer (some ⟨u, p * 5, none⟩), .agg A] V fun e w' => ∃ R, e = .returned (.agg R) /\ Hid (DoR K0 V w' lo hi b n X i y (G v.ul) R)) :
  Calls Tryz.prog 101 #[.pointer (some ⟨b, i * 5, none⟩), .agg A, .pointer (some ⟨gd, 0, none⟩)] w fun e w' => ∃ R, e = .returned (.agg R) /\ Hid (DoR K0 w w' lo hi b n X i y (upO y.bk x.cm G) R) := by
 have HDO : Hid (∀ (V : World) (u p : Nat) (v : Ulx), Hid (Bs K0 V lo hi b n X i y) -> Hid (y.ux[p]? = some v) -> Hid (y.ua = some ⟨u, 0, none⟩) -> Hid (plcB (byU x.cm.u0 x.cm.u1 x.cm.u2) y.bk.uls = p) -> Below w.heap.size w V -> Calls Tryz.prog 72 #[.pointer (some ⟨b, i * 5, none⟩), .pointer (some ⟨u, p * 5, none⟩), .agg A] V fun e w' => ∃ R, e = .returned (.agg R) /\ Hid (DoR K0 V w' lo hi b n X i y (G v.ul) R)) := hdo
 clear hdo
 have a18 : A.size = 18 := encX_sz hX.out
 obtain ⟨w1, Hw1⟩ := nm ((w.alloc (.cells A 29)).alloc (.cells #[.int .i64 0,.string ⟨#[]⟩] 51))
 obtain ⟨g, Hg⟩ := nm (w.heap.size)
 have B1 : Hid (Below w.heap.size w w1) := by rw [<- Hw1.out]; exact alloc2 w _ _
 have kx : Hid (w1.heap[g]? = some (.cells A 29 (0, 0))) := by
  rw [<- Hw1.out, <- Hg.out]
  exact ((alloc1 (w.alloc (.cells A 29)) _).block w.heap.size (by simp)).trans (heap_alloc_new w _)
 have kr : Hid (w1.heap[g + 1]? = some (.cells #[.int .i64 0,.string ⟨#[]⟩] 51 (0, 0))) := by
  rw [<- Hw1.out, <- Hg.out]
  have e : (w.alloc (.cells A 29)).heap.size = w.heap.size + 1 := by simp
  rw [<- e]
  exact heap_alloc_new _ _
 have S1 : Hid (Bs K0 w1 lo hi b n X i y) := hB.out.below B1.out
 go_enter Tryz.func101, Tryz.ntmps101
 go_upto_region 1 with (fail)
 rw [Hw1.out, Hg.out]
 clear Hw1
 have A5 : Hid (A[5]? = some (.string x.cm.ke)) := by rw [hX.out]; rfl
 have A6 : Hid (A[6]? = some (.int .i64 x.cm.u0)) := by rw [hX.out]; rfl
 have A7 : Hid (A[7]? = some (.int .i64 x.cm.u1)) := by rw [hX.out]; rfl
 have A8 : Hid (A[8]? = some (.int .i64 x.cm.u2)) := by rw [hX.out]; rfl
 obtain ⟨wa, Hwa⟩ := nm (w1.drew)
 have BA : Hid (Below w.heap.size w wa) := by rw [<- Hwa.out]; exact B1.out.drew
 have SA : Hid (Bs K0 wa lo hi b n X i y /\ wa.heap[g]? = some (.cells A 29 (0, 0))) := by rw [<- Hwa.out]; exact ⟨⟨S1.out.r.keep (fun _ _ _ _ => rfl), S1.out.x, bkC_stays K0 _ _ _ _ _ S1.out.c (fun _ _ _ _ => rfl)⟩, kx.out⟩
 have KRA : Hid (wa.heap[g + 1]? = some (.cells #[.int .i64 0,.string ⟨#[]⟩] 51 (0, 0))) := by rw [<- Hwa.out]; exact kr.out
 have UD : Hid (Rw wa lo hi 77 EUl y.ua y.un y.uc y.ux) := SA.out.1.c.b.u
 have hoK : y.un <= 1048576 := Nat.le_trans SA.out.1.c.b.k.2 hK
 have LU : Hid (y.un = y.ux.length) := UD.out.len
 obtain ⟨p, Hp⟩ := nm (plcB (byU x.cm.u0 x.cm.u1 x.cm.u2) (y.ux.map Ulx.ul))
 obtain ⟨is, HIS⟩ := nm ((upL (y.ux.map Ulx.ul) x.cm.ke x.cm.u0 x.cm.u1 x.cm.u2).isSome)
 refine wp_region_till (S := fun L W => Bs K0 W lo hi b n X i y /\ W.heap[g]? = some (.cells A 29 (0, 0))) (by kernel_rfl) (by rw [Hwa.out]; exact SA.out) (fun hS => ?_)
 rw [Hwa.out] at hS ⊢
 clear Hwa
 refine tkg (i := 0) (v := .pointer (some ⟨b, i * 5, none⟩)) rfl hS (fun hSb => ?_)
 simp only [pA,pB,pC,Act.put,pD,pE,pF]
 clear hS
 refine tkg (i := 1) (v := .pointer (some ⟨b, i * 5, none⟩)) rfl hSb (fun hS => ?_)
 simp only [pA,pB,pC,Act.put,pD,pE,pF]
 clear hSb
 refine tkg (i := 2) (v := .pointer (some ⟨b, i * 5 + 4, none⟩)) rfl hS (fun hSb => ?_)
 simp only [pA,pB,pC,Act.put,pD,pE,pF]
 clear hS
 refine trx (i := 3) (c := 8) (v := .slice y.ua y.un y.uc) rfl rfl (Or.inl ⟨by rfl, fun w h => by have q9 := h.1.c4; go_simp⟩) hSb (fun hS => ?_)
 simp only [pA,pB,pC,Act.put,pD,pE,pF]
 clear hSb
 refine tkg (i := 4) (v := .pointer (some ⟨g, 5, none⟩)) rfl hS (fun hSb => ?_)
 simp only [pA,pB,pC,Act.put,pD,pE,pF]
 clear hS
 refine trx (i := 5) (c := 8) (v := .string x.cm.ke) rfl rfl (Or.inl ⟨by rfl, fun w h => by have q9 := cell_arr h.2 A5.out; go_simp⟩) hSb (fun hS => ?_)
 simp only [pA,pB,pC,Act.put,pD,pE,pF]
 clear hSb
 refine tkg (i := 6) (v := .pointer (some ⟨g, 6, none⟩)) rfl hS (fun hSb => ?_)
 simp only [pA,pB,pC,Act.put,pD,pE,pF]
 clear hS
 refine trx (i := 7) (c := 8) (v := .agg #[.int .i64 x.cm.u0,.int .i64 x.cm.u1,.int .i64 x.cm.u2]) rfl rfl (Or.inl ⟨by rfl, fun w h => by have q1 := cell_arr h.2 A6.out; have q2 := cell_arr h.2 A7.out; have q3 := cell_arr h.2 A8.out; go_simp⟩) hSb (fun hS => ?_)
 simp only [pA,pB,pC,Act.put,pD,pE,pF]
 clear hSb
 refine till_one (i := 8) (by kernel_rfl) rfl (fun K hK => ?_)
 simp only [pA,pB,pC]
 rw [if_pos (by rfl)]
 go_simp
 go_wp2_with (go_at_call 55; refine (findUpload_n x.cm.ke x.cm.u0 x.cm.u1 x.cm.u2 UD hoK).mono ?_; rintro e w2 ⟨rfl, H2⟩; rw [Hp.out, HIS.out])
 refine hK.out _ _ (⟨hS.1.below H2.out, (H2.out.block g (gl hS.2)).trans hS.2⟩) (fun hSb => ?_)
 clear hK K
 try simp only [pA,pB,pC,Act.put,pD,pE,pF]
 clear hS
 refine tkg (i := 9) (v := .tuple #[.int .i64 (p : Int), .bool is]) rfl hSb (fun hS => ?_)
 simp only [pA,pB,pC,Act.put,pD,pE,pF]
 clear hSb
 refine tkg (i := 10) (v := .int .i64 (p : Int)) rfl hS (fun hSb => ?_)
 simp only [pA,pB,pC,Act.put,pD,pE,pF]
 clear hS
 refine tkg (i := 11) (v := .bool is) rfl hSb (fun hS => ?_)
 simp only [pA,pB,pC,Act.put,pD,pE,pF]
 clear hSb
 refine till_one (i := 12) (by kernel_rfl) rfl (fun K hK => ?_)
 simp only [pA,pB,pC]
 rw [if_pos (by rfl)]
 go_simp
 refine hK.out _ _ (hS) (fun hSb => ?_)
 clear hK K
 try simp only [pA,pB,pC,Act.put,pD,pE,pF]
 clear hS
 refine till_one (i := 13) (by kernel_rfl) rfl (fun K hK => ?_)
 simp only [pA,pB,pC]
 rw [if_pos (by rfl)]
 go_simp
 refine hK.out _ _ (hSb) (fun hS => ?_)
 clear hK K
 try simp only [pA,pB,pC,Act.put,pD,pE,pF]
 clear hSb
 have S3 := hS
 refine till_done (by kernel_rfl) ?_ _
 clear hS
 show (Exit.then _ _) .normal _ _
 have S2 : Hid (Bs K0 w2 lo hi b n X i y /\ w2.heap[g]? = some (.cells A 29 (0, 0))) := S3
 clear S3
 have B2 := bt BA H2
 have kr2 := sh H2 KRA
 rcases is with _ | _
 . have IB : Hid (upO y.bk x.cm G = (y.bk, noO 3)) := by
    show _ = _
    unfold upO
    have e : upB y.bk x.cm = none := Option.isSome_eq_false_iff.1 HIS.out |> Option.isNone_iff_eq_none.1
    rw [e]
   obtain ⟨R, HR⟩ := nm ((#[.int .i64 3,.string ⟨#[]⟩] : Array Value))
   have a5' : (Tryz.prog.info? 51).map (·.size) = some R.size := by rw [<- HR.out]; exact outZ
   have AA : Hid (R.all (·.oneCell') = true) := (show R.all (·.oneCell') = true by rw [<- HR.out]; kernel_rfl)
   have a6' : Hid (R.size = 2) := (show R.size = 2 by rw [<- HR.out]; rfl)
   go_wp2_with (first
    | (go_at_call 78; refine (refused_n 3 _).mono ?_; rintro e w7 ⟨rfl, H7⟩; rw [HR.out]; have r7 := sh H7 kr2)
    | (refine wpList_store_row (by rfl) 51 (.tmp 5) (.tmp 22) (by rfl) (g + 1) R (by rfl) (by rfl) 51 _ r7.out a5' (by rw [a6'.out]; rfl) AA.out ?_))
   refine bodyPost_ret (results_cell_row Tryz.results101 _ _ (g + 1) 51 R (0, 0) _ (by rfl) (setRow_heap _ _ _ _ _ _ r7.out) Tryz.underlying51 rfl a5') rfl ?_
   refine ⟨R, rfl, ?_⟩
   rw [IB.out]
   exact do_same (g := g + 1) HR.out.symm rfl S2.out.1 B2.out H7.out kr2.out (by have := Hg.out; omega)
 . obtain ⟨v, EV, EUB⟩ : ∃ v : Ulx, Hid (y.ux[p]? = some v) /\ Hid (upB y.bk x.cm = some v.ul) := by
    obtain ⟨ul, e⟩ := Option.isSome_iff_exists.1 HIS.out
    have e2 : upB y.bk x.cm = some ul := e
    unfold upL at e
    rw [Hp.out, List.getElem?_map] at e
    obtain ⟨e3, _⟩ := Option.filter_eq_some_iff.1 e
    obtain ⟨v, e4, e5⟩ := Option.map_eq_some_iff.1 e3
    exact ⟨v, e4, by show _ = _; rw [e2, <- e5]⟩
   have IB : Hid (upO y.bk x.cm G = G v.ul) := by show _ = _; unfold upO; rw [EUB.out]
   have pl : p < y.un := by rw [LU.out]; exact (List.getElem?_eq_some_iff.1 EV.out).1
   have i1 : (p : Int) < (y.un : Int) := by omega
   obtain ⟨u, EA⟩ : ∃ u, Hid (y.ua = some ⟨u, 0, none⟩) := by
    obtain ⟨u, h, _⟩ := UD.out.at_ (i := p) (by rw [<- LU.out]; exact pl)
    exact ⟨u, h⟩
   have HPP : Hid (plcB (byU x.cm.u0 x.cm.u1 x.cm.u2) y.bk.uls = p) := Hp.out
   go_upto_region 4 with (fail)
   obtain ⟨wd, Hwd⟩ := nm (w2.drew)
   have BD : Hid (Below w.heap.size w wd) := by rw [<- Hwd.out]; exact B2.out.drew
   have SD2 : Hid (Bs K0 wd lo hi b n X i y /\ wd.heap[g]? = some (.cells A 29 (0, 0))) := by rw [<- Hwd.out]; exact ⟨⟨S2.out.1.r.keep (fun _ _ _ _ => rfl), S2.out.1.x, bkC_stays K0 _ _ _ _ _ S2.out.1.c (fun _ _ _ _ => rfl)⟩, S2.out.2⟩
   have SD : Hid (Bs K0 wd lo hi b n X i y) := SD2.out.1
   have DD := sh BD hD
   have KRD : Hid (wd.heap[g + 1]? = some (.cells #[.int .i64 0,.string ⟨#[]⟩] 51 (0, 0))) := by rw [<- Hwd.out]; exact kr2.out
   refine wp_region_till (S := tillP 9 (fun W => (Bs K0 W lo hi b n X i y /\ W.heap[g]? = some (.cells A 29 (0, 0))) /\ W.heap[gd]? = some (.cells #[.func (.func 72) #[] #[]] 117 (0, 0)))) (by kernel_rfl) (.inr (by rw [Hwd.out]; exact ⟨SD2.out, DD.out⟩)) (fun hS => ?_)
   rw [Hwd.out] at hS ⊢
   clear Hwd
   refine trd (i := 0) (c := 9) (v := .func (.func 72) #[] #[]) (T := fun W => (Bs K0 W lo hi b n X i y /\ W.heap[g]? = some (.cells A 29 (0, 0))) /\ W.heap[gd]? = some (.cells #[.func (.func 72) #[] #[]] 117 (0, 0))) rfl rfl (fun L w => tillP_set (by decide)) (fun L w h1 h2 => tillP_out h1 h2) (Or.inl ⟨by rfl, fun w h => by have q9 := cell_arr (i := 0) h.2 rfl; go_simp⟩) hS (fun hSb => ?_)
   simp only [pA,pB,pC,Act.put,pD,pE,pF]
   clear hS
   refine tkp (i := 1) (v := .pointer (some ⟨b, i * 5, none⟩)) rfl hSb (fun hS => ?_)
   simp only [pA,pB,pC,Act.put,pD,pE,pF]
   clear hSb
   refine tkp (i := 2) (v := .pointer (some ⟨b, i * 5, none⟩)) rfl hS (fun hSb => ?_)
   simp only [pA,pB,pC,Act.put,pD,pE,pF]
   clear hS
   refine tkp (i := 3) (v := .pointer (some ⟨b, i * 5, none⟩)) rfl hSb (fun hS => ?_)
   simp only [pA,pB,pC,Act.put,pD,pE,pF]
   clear hSb
   refine tkp (i := 4) (v := .pointer (some ⟨b, i * 5 + 4, none⟩)) rfl hS (fun hSb => ?_)
   simp only [pA,pB,pC,Act.put,pD,pE,pF]
   clear hS
   refine till_readc (i := 5) (cs := [7, 9]) (v := .slice (some ⟨u, 0, none⟩) y.un y.uc) (T := fun W => (Bs K0 W lo hi b n X i y /\ W.heap[g]? = some (.cells A 29 (0, 0))) /\ W.heap[gd]? = some (.cells #[.func (.func 72) #[] #[]] 117 (0, 0))) rfl (by kernel_rfl) (by kernel_rfl) (by kernel_rfl) (by kernel_rfl) (by kernel_rfl) (fun _ _ _ h => h) (fun L w => tillP_set (by decide)) (fun L w h1 h2 => tillP_out (h1 9 (by simp)) h2) (Or.inl ⟨by rfl, fun w h => by have q9 := h.1.1.c4; rw [EA.out] at q9; go_simp⟩) hSb (fun hS => ?_)
   simp only [pA,pB,pC,Act.put,pD,pE,pF]
   clear hSb
   refine tkp (i := 6) (v := .int .i64 (p : Int)) rfl hS (fun hSb => ?_)
   simp only [pA,pB,pC,Act.put,pD,pE,pF]
   clear hS
   refine tkp (i := 7) (v := .pointer (some ⟨u, p * 5, none⟩)) rfl hSb (fun hS => ?_)
   simp only [pA,pB,pC,Act.put,pD,pE,pF]
   clear hSb
   refine trd (i := 8) (c := 9) (v := .agg A) (T := fun W => (Bs K0 W lo hi b n X i y /\ W.heap[g]? = some (.cells A 29 (0, 0))) /\ W.heap[gd]? = some (.cells #[.func (.func 72) #[] #[]] 117 (0, 0))) rfl rfl (fun L w => tillP_set (by decide)) (fun L w h1 h2 => tillP_out h1 h2) (yl_any (by rfl) (by rfl) (by rfl) (fun W h => run_loadVar_row W g 29 29 A (0, 0) _ h.1.2 Tryz.underlying29 rfl (info29 a18))) hS (fun hSb => ?_)
   simp only [pA,pB,pC,Act.put,pD,pE,pF]
   clear hS
   refine till_one (i := 9) (by kernel_rfl) rfl (fun K hK => ?_)
   simp only [pA,pB,pC]
   rw [if_pos (by rfl)]
   go_simp
   go_wp2_with (go_at_call 72; refine (HDO.out wd u p v SD EV EA HPP BD.out).mono ?_; rintro e w5 ⟨R, rfl, H5⟩)
   refine hK.out _ _ (Or.inl (by kernel_rfl)) (fun hS => ?_)
   clear hK K
   try simp only [pA,pB,pC,Act.put,pD,pE,pF]
   clear hSb
   refine till_one (i := 10) (by kernel_rfl) rfl (fun K hK => ?_)
   simp only [pA,pB,pC]
   rw [if_pos (by rfl)]
   obtain ⟨kr5, r5, r6, RA⟩ := box_do SD.out KRD.out H5.out
   refine wp_store_row 51 (.tmp 5) (.tmp 32) (by rfl) (g + 1) R (by rfl) (by rfl) 51 _ kr5 r5 (by rw [r6]; rfl) RA ?_
   refine hK.out _ _ (Or.inl (by kernel_rfl)) (fun hSb => ?_)
   clear hK K
   try simp only [pA,pB,pC,Act.put,pD,pE,pF]
   clear hS
   refine till_done (by kernel_rfl) ?_ _
   clear hSb
   show (Exit.then _ _) .normal _ _
   go_wp2
   refine bodyPost_ret (results_cell_row Tryz.results101 _ _ (g + 1) 51 R (0, 0) _ (by rfl) (setRow_heap _ _ _ _ _ _ kr5) Tryz.underlying51 rfl r5) rfl ?_
   refine ⟨R, rfl, ?_⟩
   rw [IB.out]
   obtain ⟨h0, z, hz, h1, h2, h3⟩ := H5.out
   exact do_end (g := g + 1) h0 hz h1 h2 ((Ch.below BD.out).trans h3) (Below.refl _ _) kr5 (by have := Hg.out; omega)
set_option maxHeartbeats 16000000 in
theorem clo101_abo {K0 : Nat} (hK : K0 <= 1048576) {w : World} {A : Array Value} {x : Cx} {lo hi b n gd : Nat} {X : List Bkx} {i : Nat} {y : Bkx} {G : Uld -> Bkd × Outc} (hX : Hid (A = (encX x).toArray)) (hB : Hid (Bs K0 w lo hi b n X i y)) (hD : Hid (w.heap[gd]? = some (.cells #[.func (.func 74) #[] #[]] 117 (0, 0))))
  (hdo : ∀ (V : World) (u p : Nat) (v : Ulx), Hid (Bs K0 V lo hi b n X i y) -> Hid (y.ux[p]? = some v) -> Hid (y.ua = some ⟨u, 0, none⟩) -> Hid (plcB (byU x.cm.u0 x.cm.u1 x.cm.u2) y.bk.uls = p) -> Below w.heap.size w V -> Calls Tryz.prog 74 #[.pointer (some ⟨b, i * 5, none⟩), .pointer (some ⟨u, p * 5, none⟩), .agg A] V fun e w' => ∃ R, e = .returned (.agg R) /\ Hid (DoR K0 V w' lo hi b n X i y (G v.ul) R)) :
  Calls Tryz.prog 101 #[.pointer (some ⟨b, i * 5, none⟩), .agg A, .pointer (some ⟨gd, 0, none⟩)] w fun e w' => ∃ R, e = .returned (.agg R) /\ Hid (DoR K0 w w' lo hi b n X i y (upO y.bk x.cm G) R) := by
 have HDO : Hid (∀ (V : World) (u p : Nat) (v : Ulx), Hid (Bs K0 V lo hi b n X i y) -> Hid (y.ux[p]? = some v) -> Hid (y.ua = some ⟨u, 0, none⟩) -> Hid (plcB (byU x.cm.u0 x.cm.u1 x.cm.u2) y.bk.uls = p) -> Below w.heap.size w V -> Calls Tryz.prog 74 #[.pointer (some ⟨b, i * 5, none⟩), .pointer (some ⟨u, p * 5, none⟩), .agg A] V fun e w' => ∃ R, e = .returned (.agg R) /\ Hid (DoR K0 V w' lo hi b n X i y (G v.ul) R)) := hdo
 clear hdo
 have a18 : A.size = 18 := encX_sz hX.out
 obtain ⟨w1, Hw1⟩ := nm ((w.alloc (.cells A 29)).alloc (.cells #[.int .i64 0,.string ⟨#[]⟩] 51))
 obtain ⟨g, Hg⟩ := nm (w.heap.size)
 have B1 : Hid (Below w.heap.size w w1) := by rw [<- Hw1.out]; exact alloc2 w _ _
 have kx : Hid (w1.heap[g]? = some (.cells A 29 (0, 0))) := by
  rw [<- Hw1.out, <- Hg.out]
  exact ((alloc1 (w.alloc (.cells A 29)) _).block w.heap.size (by simp)).trans (heap_alloc_new w _)
 have kr : Hid (w1.heap[g + 1]? = some (.cells #[.int .i64 0,.string ⟨#[]⟩] 51 (0, 0))) := by
  rw [<- Hw1.out, <- Hg.out]
  have e : (w.alloc (.cells A 29)).heap.size = w.heap.size + 1 := by simp
  rw [<- e]
  exact heap_alloc_new _ _
 have S1 : Hid (Bs K0 w1 lo hi b n X i y) := hB.out.below B1.out
 go_enter Tryz.func101, Tryz.ntmps101
 go_upto_region 1 with (fail)
 rw [Hw1.out, Hg.out]
 clear Hw1
 have A5 : Hid (A[5]? = some (.string x.cm.ke)) := by rw [hX.out]; rfl
 have A6 : Hid (A[6]? = some (.int .i64 x.cm.u0)) := by rw [hX.out]; rfl
 have A7 : Hid (A[7]? = some (.int .i64 x.cm.u1)) := by rw [hX.out]; rfl
 have A8 : Hid (A[8]? = some (.int .i64 x.cm.u2)) := by rw [hX.out]; rfl
 obtain ⟨wa, Hwa⟩ := nm (w1.drew)
 have BA : Hid (Below w.heap.size w wa) := by rw [<- Hwa.out]; exact B1.out.drew
 have SA : Hid (Bs K0 wa lo hi b n X i y /\ wa.heap[g]? = some (.cells A 29 (0, 0))) := by rw [<- Hwa.out]; exact ⟨⟨S1.out.r.keep (fun _ _ _ _ => rfl), S1.out.x, bkC_stays K0 _ _ _ _ _ S1.out.c (fun _ _ _ _ => rfl)⟩, kx.out⟩
 have KRA : Hid (wa.heap[g + 1]? = some (.cells #[.int .i64 0,.string ⟨#[]⟩] 51 (0, 0))) := by rw [<- Hwa.out]; exact kr.out
 have UD : Hid (Rw wa lo hi 77 EUl y.ua y.un y.uc y.ux) := SA.out.1.c.b.u
 have hoK : y.un <= 1048576 := Nat.le_trans SA.out.1.c.b.k.2 hK
 have LU : Hid (y.un = y.ux.length) := UD.out.len
 obtain ⟨p, Hp⟩ := nm (plcB (byU x.cm.u0 x.cm.u1 x.cm.u2) (y.ux.map Ulx.ul))
 obtain ⟨is, HIS⟩ := nm ((upL (y.ux.map Ulx.ul) x.cm.ke x.cm.u0 x.cm.u1 x.cm.u2).isSome)
 refine wp_region_till (S := fun L W => Bs K0 W lo hi b n X i y /\ W.heap[g]? = some (.cells A 29 (0, 0))) (by kernel_rfl) (by rw [Hwa.out]; exact SA.out) (fun hS => ?_)
 rw [Hwa.out] at hS ⊢
 clear Hwa
 refine tkg (i := 0) (v := .pointer (some ⟨b, i * 5, none⟩)) rfl hS (fun hSb => ?_)
 simp only [pA,pB,pC,Act.put,pD,pE,pF]
 clear hS
 refine tkg (i := 1) (v := .pointer (some ⟨b, i * 5, none⟩)) rfl hSb (fun hS => ?_)
 simp only [pA,pB,pC,Act.put,pD,pE,pF]
 clear hSb
 refine tkg (i := 2) (v := .pointer (some ⟨b, i * 5 + 4, none⟩)) rfl hS (fun hSb => ?_)
 simp only [pA,pB,pC,Act.put,pD,pE,pF]
 clear hS
 refine trx (i := 3) (c := 8) (v := .slice y.ua y.un y.uc) rfl rfl (Or.inl ⟨by rfl, fun w h => by have q9 := h.1.c4; go_simp⟩) hSb (fun hS => ?_)
 simp only [pA,pB,pC,Act.put,pD,pE,pF]
 clear hSb
 refine tkg (i := 4) (v := .pointer (some ⟨g, 5, none⟩)) rfl hS (fun hSb => ?_)
 simp only [pA,pB,pC,Act.put,pD,pE,pF]
 clear hS
 refine trx (i := 5) (c := 8) (v := .string x.cm.ke) rfl rfl (Or.inl ⟨by rfl, fun w h => by have q9 := cell_arr h.2 A5.out; go_simp⟩) hSb (fun hS => ?_)
 simp only [pA,pB,pC,Act.put,pD,pE,pF]
 clear hSb
 refine tkg (i := 6) (v := .pointer (some ⟨g, 6, none⟩)) rfl hS (fun hSb => ?_)
 simp only [pA,pB,pC,Act.put,pD,pE,pF]
 clear hS
 refine trx (i := 7) (c := 8) (v := .agg #[.int .i64 x.cm.u0,.int .i64 x.cm.u1,.int .i64 x.cm.u2]) rfl rfl (Or.inl ⟨by rfl, fun w h => by have q1 := cell_arr h.2 A6.out; have q2 := cell_arr h.2 A7.out; have q3 := cell_arr h.2 A8.out; go_simp⟩) hSb (fun hS => ?_)
 simp only [pA,pB,pC,Act.put,pD,pE,pF]
 clear hSb
 refine till_one (i := 8) (by kernel_rfl) rfl (fun K hK => ?_)
 simp only [pA,pB,pC]
 rw [if_pos (by rfl)]
 go_simp
 go_wp2_with (go_at_call 55; refine (findUpload_n x.cm.ke x.cm.u0 x.cm.u1 x.cm.u2 UD hoK).mono ?_; rintro e w2 ⟨rfl, H2⟩; rw [Hp.out, HIS.out])
 refine hK.out _ _ (⟨hS.1.below H2.out, (H2.out.block g (gl hS.2)).trans hS.2⟩) (fun hSb => ?_)
 clear hK K
 try simp only [pA,pB,pC,Act.put,pD,pE,pF]
 clear hS
 refine tkg (i := 9) (v := .tuple #[.int .i64 (p : Int), .bool is]) rfl hSb (fun hS => ?_)
 simp only [pA,pB,pC,Act.put,pD,pE,pF]
 clear hSb
 refine tkg (i := 10) (v := .int .i64 (p : Int)) rfl hS (fun hSb => ?_)
 simp only [pA,pB,pC,Act.put,pD,pE,pF]
 clear hS
 refine tkg (i := 11) (v := .bool is) rfl hSb (fun hS => ?_)
 simp only [pA,pB,pC,Act.put,pD,pE,pF]
 clear hSb
 refine till_one (i := 12) (by kernel_rfl) rfl (fun K hK => ?_)
 simp only [pA,pB,pC]
 rw [if_pos (by rfl)]
 go_simp
 refine hK.out _ _ (hS) (fun hSb => ?_)
 clear hK K
 try simp only [pA,pB,pC,Act.put,pD,pE,pF]
 clear hS
 refine till_one (i := 13) (by kernel_rfl) rfl (fun K hK => ?_)
 simp only [pA,pB,pC]
 rw [if_pos (by rfl)]
 go_simp
 refine hK.out _ _ (hSb) (fun hS => ?_)
 clear hK K
 try simp only [pA,pB,pC,Act.put,pD,pE,pF]
 clear hSb
 have S3 := hS
 refine till_done (by kernel_rfl) ?_ _
 clear hS
 show (Exit.then _ _) .normal _ _
 have S2 : Hid (Bs K0 w2 lo hi b n X i y /\ w2.heap[g]? = some (.cells A 29 (0, 0))) := S3
 clear S3
 have B2 := bt BA H2
 have kr2 := sh H2 KRA
 rcases is with _ | _
 . have IB : Hid (upO y.bk x.cm G = (y.bk, noO 3)) := by
    show _ = _
    unfold upO
    have e : upB y.bk x.cm = none := Option.isSome_eq_false_iff.1 HIS.out |> Option.isNone_iff_eq_none.1
    rw [e]
   obtain ⟨R, HR⟩ := nm ((#[.int .i64 3,.string ⟨#[]⟩] : Array Value))
   have a5' : (Tryz.prog.info? 51).map (·.size) = some R.size := by rw [<- HR.out]; exact outZ
   have AA : Hid (R.all (·.oneCell') = true) := (show R.all (·.oneCell') = true by rw [<- HR.out]; kernel_rfl)
   have a6' : Hid (R.size = 2) := (show R.size = 2 by rw [<- HR.out]; rfl)
   go_wp2_with (first
    | (go_at_call 78; refine (refused_n 3 _).mono ?_; rintro e w7 ⟨rfl, H7⟩; rw [HR.out]; have r7 := sh H7 kr2)
    | (refine wpList_store_row (by rfl) 51 (.tmp 5) (.tmp 22) (by rfl) (g + 1) R (by rfl) (by rfl) 51 _ r7.out a5' (by rw [a6'.out]; rfl) AA.out ?_))
   refine bodyPost_ret (results_cell_row Tryz.results101 _ _ (g + 1) 51 R (0, 0) _ (by rfl) (setRow_heap _ _ _ _ _ _ r7.out) Tryz.underlying51 rfl a5') rfl ?_
   refine ⟨R, rfl, ?_⟩
   rw [IB.out]
   exact do_same (g := g + 1) HR.out.symm rfl S2.out.1 B2.out H7.out kr2.out (by have := Hg.out; omega)
 . obtain ⟨v, EV, EUB⟩ : ∃ v : Ulx, Hid (y.ux[p]? = some v) /\ Hid (upB y.bk x.cm = some v.ul) := by
    obtain ⟨ul, e⟩ := Option.isSome_iff_exists.1 HIS.out
    have e2 : upB y.bk x.cm = some ul := e
    unfold upL at e
    rw [Hp.out, List.getElem?_map] at e
    obtain ⟨e3, _⟩ := Option.filter_eq_some_iff.1 e
    obtain ⟨v, e4, e5⟩ := Option.map_eq_some_iff.1 e3
    exact ⟨v, e4, by show _ = _; rw [e2, <- e5]⟩
   have IB : Hid (upO y.bk x.cm G = G v.ul) := by show _ = _; unfold upO; rw [EUB.out]
   have pl : p < y.un := by rw [LU.out]; exact (List.getElem?_eq_some_iff.1 EV.out).1
   have i1 : (p : Int) < (y.un : Int) := by omega
   obtain ⟨u, EA⟩ : ∃ u, Hid (y.ua = some ⟨u, 0, none⟩) := by
    obtain ⟨u, h, _⟩ := UD.out.at_ (i := p) (by rw [<- LU.out]; exact pl)
    exact ⟨u, h⟩
   have HPP : Hid (plcB (byU x.cm.u0 x.cm.u1 x.cm.u2) y.bk.uls = p) := Hp.out
   go_upto_region 4 with (fail)
   obtain ⟨wd, Hwd⟩ := nm (w2.drew)
   have BD : Hid (Below w.heap.size w wd) := by rw [<- Hwd.out]; exact B2.out.drew
   have SD2 : Hid (Bs K0 wd lo hi b n X i y /\ wd.heap[g]? = some (.cells A 29 (0, 0))) := by rw [<- Hwd.out]; exact ⟨⟨S2.out.1.r.keep (fun _ _ _ _ => rfl), S2.out.1.x, bkC_stays K0 _ _ _ _ _ S2.out.1.c (fun _ _ _ _ => rfl)⟩, S2.out.2⟩
   have SD : Hid (Bs K0 wd lo hi b n X i y) := SD2.out.1
   have DD := sh BD hD
   have KRD : Hid (wd.heap[g + 1]? = some (.cells #[.int .i64 0,.string ⟨#[]⟩] 51 (0, 0))) := by rw [<- Hwd.out]; exact kr2.out
   refine wp_region_till (S := tillP 9 (fun W => (Bs K0 W lo hi b n X i y /\ W.heap[g]? = some (.cells A 29 (0, 0))) /\ W.heap[gd]? = some (.cells #[.func (.func 74) #[] #[]] 117 (0, 0)))) (by kernel_rfl) (.inr (by rw [Hwd.out]; exact ⟨SD2.out, DD.out⟩)) (fun hS => ?_)
   rw [Hwd.out] at hS ⊢
   clear Hwd
   refine trd (i := 0) (c := 9) (v := .func (.func 74) #[] #[]) (T := fun W => (Bs K0 W lo hi b n X i y /\ W.heap[g]? = some (.cells A 29 (0, 0))) /\ W.heap[gd]? = some (.cells #[.func (.func 74) #[] #[]] 117 (0, 0))) rfl rfl (fun L w => tillP_set (by decide)) (fun L w h1 h2 => tillP_out h1 h2) (Or.inl ⟨by rfl, fun w h => by have q9 := cell_arr (i := 0) h.2 rfl; go_simp⟩) hS (fun hSb => ?_)
   simp only [pA,pB,pC,Act.put,pD,pE,pF]
   clear hS
   refine tkp (i := 1) (v := .pointer (some ⟨b, i * 5, none⟩)) rfl hSb (fun hS => ?_)
   simp only [pA,pB,pC,Act.put,pD,pE,pF]
   clear hSb
   refine tkp (i := 2) (v := .pointer (some ⟨b, i * 5, none⟩)) rfl hS (fun hSb => ?_)
   simp only [pA,pB,pC,Act.put,pD,pE,pF]
   clear hS
   refine tkp (i := 3) (v := .pointer (some ⟨b, i * 5, none⟩)) rfl hSb (fun hS => ?_)
   simp only [pA,pB,pC,Act.put,pD,pE,pF]
   clear hSb
   refine tkp (i := 4) (v := .pointer (some ⟨b, i * 5 + 4, none⟩)) rfl hS (fun hSb => ?_)
   simp only [pA,pB,pC,Act.put,pD,pE,pF]
   clear hS
   refine till_readc (i := 5) (cs := [7, 9]) (v := .slice (some ⟨u, 0, none⟩) y.un y.uc) (T := fun W => (Bs K0 W lo hi b n X i y /\ W.heap[g]? = some (.cells A 29 (0, 0))) /\ W.heap[gd]? = some (.cells #[.func (.func 74) #[] #[]] 117 (0, 0))) rfl (by kernel_rfl) (by kernel_rfl) (by kernel_rfl) (by kernel_rfl) (by kernel_rfl) (fun _ _ _ h => h) (fun L w => tillP_set (by decide)) (fun L w h1 h2 => tillP_out (h1 9 (by simp)) h2) (Or.inl ⟨by rfl, fun w h => by have q9 := h.1.1.c4; rw [EA.out] at q9; go_simp⟩) hSb (fun hS => ?_)
   simp only [pA,pB,pC,Act.put,pD,pE,pF]
   clear hSb
   refine tkp (i := 6) (v := .int .i64 (p : Int)) rfl hS (fun hSb => ?_)
   simp only [pA,pB,pC,Act.put,pD,pE,pF]
   clear hS
   refine tkp (i := 7) (v := .pointer (some ⟨u, p * 5, none⟩)) rfl hSb (fun hS => ?_)
   simp only [pA,pB,pC,Act.put,pD,pE,pF]
   clear hSb
   refine trd (i := 8) (c := 9) (v := .agg A) (T := fun W => (Bs K0 W lo hi b n X i y /\ W.heap[g]? = some (.cells A 29 (0, 0))) /\ W.heap[gd]? = some (.cells #[.func (.func 74) #[] #[]] 117 (0, 0))) rfl rfl (fun L w => tillP_set (by decide)) (fun L w h1 h2 => tillP_out h1 h2) (yl_any (by rfl) (by rfl) (by rfl) (fun W h => run_loadVar_row W g 29 29 A (0, 0) _ h.1.2 Tryz.underlying29 rfl (info29 a18))) hS (fun hSb => ?_)
   simp only [pA,pB,pC,Act.put,pD,pE,pF]
   clear hS
   refine till_one (i := 9) (by kernel_rfl) rfl (fun K hK => ?_)
   simp only [pA,pB,pC]
   rw [if_pos (by rfl)]
   go_simp
   go_wp2_with (go_at_call 74; refine (HDO.out wd u p v SD EV EA HPP BD.out).mono ?_; rintro e w5 ⟨R, rfl, H5⟩)
   refine hK.out _ _ (Or.inl (by kernel_rfl)) (fun hS => ?_)
   clear hK K
   try simp only [pA,pB,pC,Act.put,pD,pE,pF]
   clear hSb
   refine till_one (i := 10) (by kernel_rfl) rfl (fun K hK => ?_)
   simp only [pA,pB,pC]
   rw [if_pos (by rfl)]
   obtain ⟨kr5, r5, r6, RA⟩ := box_do SD.out KRD.out H5.out
   refine wp_store_row 51 (.tmp 5) (.tmp 32) (by rfl) (g + 1) R (by rfl) (by rfl) 51 _ kr5 r5 (by rw [r6]; rfl) RA ?_
   refine hK.out _ _ (Or.inl (by kernel_rfl)) (fun hSb => ?_)
   clear hK K
   try simp only [pA,pB,pC,Act.put,pD,pE,pF]
   clear hS
   refine till_done (by kernel_rfl) ?_ _
   clear hSb
   show (Exit.then _ _) .normal _ _
   go_wp2
   refine bodyPost_ret (results_cell_row Tryz.results101 _ _ (g + 1) 51 R (0, 0) _ (by rfl) (setRow_heap _ _ _ _ _ _ kr5) Tryz.underlying51 rfl r5) rfl ?_
   refine ⟨R, rfl, ?_⟩
   rw [IB.out]
   obtain ⟨h0, z, hz, h1, h2, h3⟩ := H5.out
   exact do_end (g := g + 1) h0 hz h1 h2 ((Ch.below BD.out).trans h3) (Below.refl _ _) kr5 (by have := Hg.out; omega)
set_option maxHeartbeats 16000000 in
theorem clo101_com {K0 : Nat} (hK : K0 <= 1048576) {w : World} {A : Array Value} {x : Cx} {lo hi b n gd : Nat} {X : List Bkx} {i : Nat} {y : Bkx} {G : Uld -> Bkd × Outc} (hX : Hid (A = (encX x).toArray)) (hB : Hid (Bs K0 w lo hi b n X i y)) (hD : Hid (w.heap[gd]? = some (.cells #[.func (.func 73) #[] #[]] 117 (0, 0))))
  (hdo : ∀ (V : World) (u p : Nat) (v : Ulx), Hid (Bs K0 V lo hi b n X i y) -> Hid (y.ux[p]? = some v) -> Hid (y.ua = some ⟨u, 0, none⟩) -> Hid (plcB (byU x.cm.u0 x.cm.u1 x.cm.u2) y.bk.uls = p) -> Below w.heap.size w V -> Calls Tryz.prog 73 #[.pointer (some ⟨b, i * 5, none⟩), .pointer (some ⟨u, p * 5, none⟩), .agg A] V fun e w' => ∃ R, e = .returned (.agg R) /\ Hid (DoR K0 V w' lo hi b n X i y (G v.ul) R)) :
  Calls Tryz.prog 101 #[.pointer (some ⟨b, i * 5, none⟩), .agg A, .pointer (some ⟨gd, 0, none⟩)] w fun e w' => ∃ R, e = .returned (.agg R) /\ Hid (DoR K0 w w' lo hi b n X i y (upO y.bk x.cm G) R) := by
 have HDO : Hid (∀ (V : World) (u p : Nat) (v : Ulx), Hid (Bs K0 V lo hi b n X i y) -> Hid (y.ux[p]? = some v) -> Hid (y.ua = some ⟨u, 0, none⟩) -> Hid (plcB (byU x.cm.u0 x.cm.u1 x.cm.u2) y.bk.uls = p) -> Below w.heap.size w V -> Calls Tryz.prog 73 #[.pointer (some ⟨b, i * 5, none⟩), .pointer (some ⟨u, p * 5, none⟩), .agg A] V fun e w' => ∃ R, e = .returned (.agg R) /\ Hid (DoR K0 V w' lo hi b n X i y (G v.ul) R)) := hdo
 clear hdo
 have a18 : A.size = 18 := encX_sz hX.out
 obtain ⟨w1, Hw1⟩ := nm ((w.alloc (.cells A 29)).alloc (.cells #[.int .i64 0,.string ⟨#[]⟩] 51))
 obtain ⟨g, Hg⟩ := nm (w.heap.size)
 have B1 : Hid (Below w.heap.size w w1) := by rw [<- Hw1.out]; exact alloc2 w _ _
 have kx : Hid (w1.heap[g]? = some (.cells A 29 (0, 0))) := by
  rw [<- Hw1.out, <- Hg.out]
  exact ((alloc1 (w.alloc (.cells A 29)) _).block w.heap.size (by simp)).trans (heap_alloc_new w _)
 have kr : Hid (w1.heap[g + 1]? = some (.cells #[.int .i64 0,.string ⟨#[]⟩] 51 (0, 0))) := by
  rw [<- Hw1.out, <- Hg.out]
  have e : (w.alloc (.cells A 29)).heap.size = w.heap.size + 1 := by simp
  rw [<- e]
  exact heap_alloc_new _ _
 have S1 : Hid (Bs K0 w1 lo hi b n X i y) := hB.out.below B1.out
 go_enter Tryz.func101, Tryz.ntmps101
 go_upto_region 1 with (fail)
 rw [Hw1.out, Hg.out]
 clear Hw1
 have A5 : Hid (A[5]? = some (.string x.cm.ke)) := by rw [hX.out]; rfl
 have A6 : Hid (A[6]? = some (.int .i64 x.cm.u0)) := by rw [hX.out]; rfl
 have A7 : Hid (A[7]? = some (.int .i64 x.cm.u1)) := by rw [hX.out]; rfl
 have A8 : Hid (A[8]? = some (.int .i64 x.cm.u2)) := by rw [hX.out]; rfl
 obtain ⟨wa, Hwa⟩ := nm (w1.drew)
 have BA : Hid (Below w.heap.size w wa) := by rw [<- Hwa.out]; exact B1.out.drew
 have SA : Hid (Bs K0 wa lo hi b n X i y /\ wa.heap[g]? = some (.cells A 29 (0, 0))) := by rw [<- Hwa.out]; exact ⟨⟨S1.out.r.keep (fun _ _ _ _ => rfl), S1.out.x, bkC_stays K0 _ _ _ _ _ S1.out.c (fun _ _ _ _ => rfl)⟩, kx.out⟩
 have KRA : Hid (wa.heap[g + 1]? = some (.cells #[.int .i64 0,.string ⟨#[]⟩] 51 (0, 0))) := by rw [<- Hwa.out]; exact kr.out
 have UD : Hid (Rw wa lo hi 77 EUl y.ua y.un y.uc y.ux) := SA.out.1.c.b.u
 have hoK : y.un <= 1048576 := Nat.le_trans SA.out.1.c.b.k.2 hK
 have LU : Hid (y.un = y.ux.length) := UD.out.len
 obtain ⟨p, Hp⟩ := nm (plcB (byU x.cm.u0 x.cm.u1 x.cm.u2) (y.ux.map Ulx.ul))
 obtain ⟨is, HIS⟩ := nm ((upL (y.ux.map Ulx.ul) x.cm.ke x.cm.u0 x.cm.u1 x.cm.u2).isSome)
 refine wp_region_till (S := fun L W => Bs K0 W lo hi b n X i y /\ W.heap[g]? = some (.cells A 29 (0, 0))) (by kernel_rfl) (by rw [Hwa.out]; exact SA.out) (fun hS => ?_)
 rw [Hwa.out] at hS ⊢
 clear Hwa
 refine tkg (i := 0) (v := .pointer (some ⟨b, i * 5, none⟩)) rfl hS (fun hSb => ?_)
 simp only [pA,pB,pC,Act.put,pD,pE,pF]
 clear hS
 refine tkg (i := 1) (v := .pointer (some ⟨b, i * 5, none⟩)) rfl hSb (fun hS => ?_)
 simp only [pA,pB,pC,Act.put,pD,pE,pF]
 clear hSb
 refine tkg (i := 2) (v := .pointer (some ⟨b, i * 5 + 4, none⟩)) rfl hS (fun hSb => ?_)
 simp only [pA,pB,pC,Act.put,pD,pE,pF]
 clear hS
 refine trx (i := 3) (c := 8) (v := .slice y.ua y.un y.uc) rfl rfl (Or.inl ⟨by rfl, fun w h => by have q9 := h.1.c4; go_simp⟩) hSb (fun hS => ?_)
 simp only [pA,pB,pC,Act.put,pD,pE,pF]
 clear hSb
 refine tkg (i := 4) (v := .pointer (some ⟨g, 5, none⟩)) rfl hS (fun hSb => ?_)
 simp only [pA,pB,pC,Act.put,pD,pE,pF]
 clear hS
 refine trx (i := 5) (c := 8) (v := .string x.cm.ke) rfl rfl (Or.inl ⟨by rfl, fun w h => by have q9 := cell_arr h.2 A5.out; go_simp⟩) hSb (fun hS => ?_)
 simp only [pA,pB,pC,Act.put,pD,pE,pF]
 clear hSb
 refine tkg (i := 6) (v := .pointer (some ⟨g, 6, none⟩)) rfl hS (fun hSb => ?_)
 simp only [pA,pB,pC,Act.put,pD,pE,pF]
 clear hS
 refine trx (i := 7) (c := 8) (v := .agg #[.int .i64 x.cm.u0,.int .i64 x.cm.u1,.int .i64 x.cm.u2]) rfl rfl (Or.inl ⟨by rfl, fun w h => by have q1 := cell_arr h.2 A6.out; have q2 := cell_arr h.2 A7.out; have q3 := cell_arr h.2 A8.out; go_simp⟩) hSb (fun hS => ?_)
 simp only [pA,pB,pC,Act.put,pD,pE,pF]
 clear hSb
 refine till_one (i := 8) (by kernel_rfl) rfl (fun K hK => ?_)
 simp only [pA,pB,pC]
 rw [if_pos (by rfl)]
 go_simp
 go_wp2_with (go_at_call 55; refine (findUpload_n x.cm.ke x.cm.u0 x.cm.u1 x.cm.u2 UD hoK).mono ?_; rintro e w2 ⟨rfl, H2⟩; rw [Hp.out, HIS.out])
 refine hK.out _ _ (⟨hS.1.below H2.out, (H2.out.block g (gl hS.2)).trans hS.2⟩) (fun hSb => ?_)
 clear hK K
 try simp only [pA,pB,pC,Act.put,pD,pE,pF]
 clear hS
 refine tkg (i := 9) (v := .tuple #[.int .i64 (p : Int), .bool is]) rfl hSb (fun hS => ?_)
 simp only [pA,pB,pC,Act.put,pD,pE,pF]
 clear hSb
 refine tkg (i := 10) (v := .int .i64 (p : Int)) rfl hS (fun hSb => ?_)
 simp only [pA,pB,pC,Act.put,pD,pE,pF]
 clear hS
 refine tkg (i := 11) (v := .bool is) rfl hSb (fun hS => ?_)
 simp only [pA,pB,pC,Act.put,pD,pE,pF]
 clear hSb
 refine till_one (i := 12) (by kernel_rfl) rfl (fun K hK => ?_)
 simp only [pA,pB,pC]
 rw [if_pos (by rfl)]
 go_simp
 refine hK.out _ _ (hS) (fun hSb => ?_)
 clear hK K
 try simp only [pA,pB,pC,Act.put,pD,pE,pF]
 clear hS
 refine till_one (i := 13) (by kernel_rfl) rfl (fun K hK => ?_)
 simp only [pA,pB,pC]
 rw [if_pos (by rfl)]
 go_simp
 refine hK.out _ _ (hSb) (fun hS => ?_)
 clear hK K
 try simp only [pA,pB,pC,Act.put,pD,pE,pF]
 clear hSb
 have S3 := hS
 refine till_done (by kernel_rfl) ?_ _
 clear hS
 show (Exit.then _ _) .normal _ _
 have S2 : Hid (Bs K0 w2 lo hi b n X i y /\ w2.heap[g]? = some (.cells A 29 (0, 0))) := S3
 clear S3
 have B2 := bt BA H2
 have kr2 := sh H2 KRA
 rcases is with _ | _
 . have IB : Hid (upO y.bk x.cm G = (y.bk, noO 3)) := by
    show _ = _
    unfold upO
    have e : upB y.bk x.cm = none := Option.isSome_eq_false_iff.1 HIS.out |> Option.isNone_iff_eq_none.1
    rw [e]
   obtain ⟨R, HR⟩ := nm ((#[.int .i64 3,.string ⟨#[]⟩] : Array Value))
   have a5' : (Tryz.prog.info? 51).map (·.size) = some R.size := by rw [<- HR.out]; exact outZ
   have AA : Hid (R.all (·.oneCell') = true) := (show R.all (·.oneCell') = true by rw [<- HR.out]; kernel_rfl)
   have a6' : Hid (R.size = 2) := (show R.size = 2 by rw [<- HR.out]; rfl)
   go_wp2_with (first
    | (go_at_call 78; refine (refused_n 3 _).mono ?_; rintro e w7 ⟨rfl, H7⟩; rw [HR.out]; have r7 := sh H7 kr2)
    | (refine wpList_store_row (by rfl) 51 (.tmp 5) (.tmp 22) (by rfl) (g + 1) R (by rfl) (by rfl) 51 _ r7.out a5' (by rw [a6'.out]; rfl) AA.out ?_))
   refine bodyPost_ret (results_cell_row Tryz.results101 _ _ (g + 1) 51 R (0, 0) _ (by rfl) (setRow_heap _ _ _ _ _ _ r7.out) Tryz.underlying51 rfl a5') rfl ?_
   refine ⟨R, rfl, ?_⟩
   rw [IB.out]
   exact do_same (g := g + 1) HR.out.symm rfl S2.out.1 B2.out H7.out kr2.out (by have := Hg.out; omega)
 . obtain ⟨v, EV, EUB⟩ : ∃ v : Ulx, Hid (y.ux[p]? = some v) /\ Hid (upB y.bk x.cm = some v.ul) := by
    obtain ⟨ul, e⟩ := Option.isSome_iff_exists.1 HIS.out
    have e2 : upB y.bk x.cm = some ul := e
    unfold upL at e
    rw [Hp.out, List.getElem?_map] at e
    obtain ⟨e3, _⟩ := Option.filter_eq_some_iff.1 e
    obtain ⟨v, e4, e5⟩ := Option.map_eq_some_iff.1 e3
    exact ⟨v, e4, by show _ = _; rw [e2, <- e5]⟩
   have IB : Hid (upO y.bk x.cm G = G v.ul) := by show _ = _; unfold upO; rw [EUB.out]
   have pl : p < y.un := by rw [LU.out]; exact (List.getElem?_eq_some_iff.1 EV.out).1
   have i1 : (p : Int) < (y.un : Int) := by omega
   obtain ⟨u, EA⟩ : ∃ u, Hid (y.ua = some ⟨u, 0, none⟩) := by
    obtain ⟨u, h, _⟩ := UD.out.at_ (i := p) (by rw [<- LU.out]; exact pl)
    exact ⟨u, h⟩
   have HPP : Hid (plcB (byU x.cm.u0 x.cm.u1 x.cm.u2) y.bk.uls = p) := Hp.out
   go_upto_region 4 with (fail)
   obtain ⟨wd, Hwd⟩ := nm (w2.drew)
   have BD : Hid (Below w.heap.size w wd) := by rw [<- Hwd.out]; exact B2.out.drew
   have SD2 : Hid (Bs K0 wd lo hi b n X i y /\ wd.heap[g]? = some (.cells A 29 (0, 0))) := by rw [<- Hwd.out]; exact ⟨⟨S2.out.1.r.keep (fun _ _ _ _ => rfl), S2.out.1.x, bkC_stays K0 _ _ _ _ _ S2.out.1.c (fun _ _ _ _ => rfl)⟩, S2.out.2⟩
   have SD : Hid (Bs K0 wd lo hi b n X i y) := SD2.out.1
   have DD := sh BD hD
   have KRD : Hid (wd.heap[g + 1]? = some (.cells #[.int .i64 0,.string ⟨#[]⟩] 51 (0, 0))) := by rw [<- Hwd.out]; exact kr2.out
   refine wp_region_till (S := tillP 9 (fun W => (Bs K0 W lo hi b n X i y /\ W.heap[g]? = some (.cells A 29 (0, 0))) /\ W.heap[gd]? = some (.cells #[.func (.func 73) #[] #[]] 117 (0, 0)))) (by kernel_rfl) (.inr (by rw [Hwd.out]; exact ⟨SD2.out, DD.out⟩)) (fun hS => ?_)
   rw [Hwd.out] at hS ⊢
   clear Hwd
   refine trd (i := 0) (c := 9) (v := .func (.func 73) #[] #[]) (T := fun W => (Bs K0 W lo hi b n X i y /\ W.heap[g]? = some (.cells A 29 (0, 0))) /\ W.heap[gd]? = some (.cells #[.func (.func 73) #[] #[]] 117 (0, 0))) rfl rfl (fun L w => tillP_set (by decide)) (fun L w h1 h2 => tillP_out h1 h2) (Or.inl ⟨by rfl, fun w h => by have q9 := cell_arr (i := 0) h.2 rfl; go_simp⟩) hS (fun hSb => ?_)
   simp only [pA,pB,pC,Act.put,pD,pE,pF]
   clear hS
   refine tkp (i := 1) (v := .pointer (some ⟨b, i * 5, none⟩)) rfl hSb (fun hS => ?_)
   simp only [pA,pB,pC,Act.put,pD,pE,pF]
   clear hSb
   refine tkp (i := 2) (v := .pointer (some ⟨b, i * 5, none⟩)) rfl hS (fun hSb => ?_)
   simp only [pA,pB,pC,Act.put,pD,pE,pF]
   clear hS
   refine tkp (i := 3) (v := .pointer (some ⟨b, i * 5, none⟩)) rfl hSb (fun hS => ?_)
   simp only [pA,pB,pC,Act.put,pD,pE,pF]
   clear hSb
   refine tkp (i := 4) (v := .pointer (some ⟨b, i * 5 + 4, none⟩)) rfl hS (fun hSb => ?_)
   simp only [pA,pB,pC,Act.put,pD,pE,pF]
   clear hS
   refine till_readc (i := 5) (cs := [7, 9]) (v := .slice (some ⟨u, 0, none⟩) y.un y.uc) (T := fun W => (Bs K0 W lo hi b n X i y /\ W.heap[g]? = some (.cells A 29 (0, 0))) /\ W.heap[gd]? = some (.cells #[.func (.func 73) #[] #[]] 117 (0, 0))) rfl (by kernel_rfl) (by kernel_rfl) (by kernel_rfl) (by kernel_rfl) (by kernel_rfl) (fun _ _ _ h => h) (fun L w => tillP_set (by decide)) (fun L w h1 h2 => tillP_out (h1 9 (by simp)) h2) (Or.inl ⟨by rfl, fun w h => by have q9 := h.1.1.c4; rw [EA.out] at q9; go_simp⟩) hSb (fun hS => ?_)
   simp only [pA,pB,pC,Act.put,pD,pE,pF]
   clear hSb
   refine tkp (i := 6) (v := .int .i64 (p : Int)) rfl hS (fun hSb => ?_)
   simp only [pA,pB,pC,Act.put,pD,pE,pF]
   clear hS
   refine tkp (i := 7) (v := .pointer (some ⟨u, p * 5, none⟩)) rfl hSb (fun hS => ?_)
   simp only [pA,pB,pC,Act.put,pD,pE,pF]
   clear hSb
   refine trd (i := 8) (c := 9) (v := .agg A) (T := fun W => (Bs K0 W lo hi b n X i y /\ W.heap[g]? = some (.cells A 29 (0, 0))) /\ W.heap[gd]? = some (.cells #[.func (.func 73) #[] #[]] 117 (0, 0))) rfl rfl (fun L w => tillP_set (by decide)) (fun L w h1 h2 => tillP_out h1 h2) (yl_any (by rfl) (by rfl) (by rfl) (fun W h => run_loadVar_row W g 29 29 A (0, 0) _ h.1.2 Tryz.underlying29 rfl (info29 a18))) hS (fun hSb => ?_)
   simp only [pA,pB,pC,Act.put,pD,pE,pF]
   clear hS
   refine till_one (i := 9) (by kernel_rfl) rfl (fun K hK => ?_)
   simp only [pA,pB,pC]
   rw [if_pos (by rfl)]
   go_simp
   go_wp2_with (go_at_call 73; refine (HDO.out wd u p v SD EV EA HPP BD.out).mono ?_; rintro e w5 ⟨R, rfl, H5⟩)
   refine hK.out _ _ (Or.inl (by kernel_rfl)) (fun hS => ?_)
   clear hK K
   try simp only [pA,pB,pC,Act.put,pD,pE,pF]
   clear hSb
   refine till_one (i := 10) (by kernel_rfl) rfl (fun K hK => ?_)
   simp only [pA,pB,pC]
   rw [if_pos (by rfl)]
   obtain ⟨kr5, r5, r6, RA⟩ := box_do SD.out KRD.out H5.out
   refine wp_store_row 51 (.tmp 5) (.tmp 32) (by rfl) (g + 1) R (by rfl) (by rfl) 51 _ kr5 r5 (by rw [r6]; rfl) RA ?_
   refine hK.out _ _ (Or.inl (by kernel_rfl)) (fun hSb => ?_)
   clear hK K
   try simp only [pA,pB,pC,Act.put,pD,pE,pF]
   clear hS
   refine till_done (by kernel_rfl) ?_ _
   clear hSb
   show (Exit.then _ _) .normal _ _
   go_wp2
   refine bodyPost_ret (results_cell_row Tryz.results101 _ _ (g + 1) 51 R (0, 0) _ (by rfl) (setRow_heap _ _ _ _ _ _ kr5) Tryz.underlying51 rfl r5) rfl ?_
   refine ⟨R, rfl, ?_⟩
   rw [IB.out]
   obtain ⟨h0, z, hz, h1, h2, h3⟩ := H5.out
   exact do_end (g := g + 1) h0 hz h1 h2 ((Ch.below BD.out).trans h3) (Below.refl _ _) kr5 (by have := Hg.out; omega)
end Go.Proofs.YtfabnnbljkkihaaGreatDoor
