import Derived.Test.YtfabnnbljkkihaaGreatDoorMxp
import Derived.Test.YtfabnnbljkkihaaGreatDoorMx21
namespace Go.Proofs.YtfabnnbljkkihaaGreatDoor
open Go.ChangeShapes Go.WideShapes Go.ChangeAt Go.RowKit
set_option maxRecDepth 20000
set_option linter.unusedVariables false
set_option linter.unusedSimpArgs false
set_option maxHeartbeats 16000000 in
theorem inBucket_day {K : Nat} (hK : K <= 1048576) {w : World} {A : Array Value} {x : Cx} {lo hi gc : Nat} {a : Option Addr} {n : Nat} {X : List Bkx} {fa : Option Addr} {fn fc : Nat} {F : List Idd} {f : Bkd -> Cm -> Bkd × Outc} (hX : Hid (A = (encX x).toArray)) (hC : Hid (CtC K w lo hi a n X fa fn fc F)) (hk : Hid (w.heap[gc]? = some (.cells #[.slice a n n,.slice fa fn fc] 58 (0, 0)))) (hlo : lo <= w.heap.size)
  (hdo : ∀ (V : World) (b i : Nat) (y : Bkx), Hid (Bs K V lo hi b n X i y) -> Below w.heap.size w V -> Calls Tryz.prog 75 #[.pointer (some ⟨b, i * 5, none⟩), .agg A] V fun e w' => ∃ R, e = .returned (.agg R) /\ Hid (DoR K V w' lo hi b n X i y (f y.bk x.cm) R)) :
  Calls Tryz.prog 67 #[.pointer (some ⟨gc, 0, none⟩), .agg A, .func (.func 75) #[] #[]] w fun e w' => ∃ R, e = .returned (.agg R) /\ Hid (ChR K w w' lo gc (inB ⟨X.map Bkx.bk, F⟩ x.cm f) R) := by
 have a18 : A.size = 18 := encX_sz hX.out
 have A4 : Hid (A[4]? = some (.string x.cm.bu)) := by rw [hX.out]; rfl
 have HDO : Hid (∀ (V : World) (b i : Nat) (y : Bkx), Hid (Bs K V lo hi b n X i y) -> Below w.heap.size w V -> Calls Tryz.prog 75 #[.pointer (some ⟨b, i * 5, none⟩), .agg A] V fun e w' => ∃ R, e = .returned (.agg R) /\ Hid (DoR K V w' lo hi b n X i y (f y.bk x.cm) R)) := hdo
 clear hdo
 have LX : Hid (n = X.length) := hC.out.b.len
 obtain ⟨w1, Hw1⟩ := nm ((w.alloc (.cells A 29)).alloc (.cells #[.int .i64 0,.string ⟨#[]⟩] 51))
 obtain ⟨g, Hg⟩ := nm (w.heap.size)
 have B1 : Hid (Below w.heap.size w w1) := by rw [<- Hw1.out]; exact alloc2 w _ _
 have kx : Hid (w1.heap[g]? = some (.cells A 29 (0, 0))) := by
  rw [<- Hw1.out, <- Hg.out]
  exact ((alloc1 (w.alloc (.cells A 29)) _).block w.heap.size (by simp)).trans (heap_alloc_new w _)
 have kr : Hid (w1.heap[g + 1]? = some (.cells #[.int .i64 0,.string ⟨#[]⟩] 51 (0, 0))) := by
  rw [<- Hw1.out, <- Hg.out]
  have e : (w.alloc (.cells A 29)).heap.size = w.heap.size + 1 := by simp
  rw [<- e]
  exact heap_alloc_new _ _
 have K0 : Cq2 w1.drew gc g A a n fa fn fc := ⟨(B1.out.block _ (gl hk.out)).trans hk.out, kx.out⟩
 have AD : Hid (Rw w1.drew lo hi 65 EBk a n n X) := (hC.out.b.below B1.out).keep (fun _ _ _ _ => rfl)
 have hnK : n <= 1048576 := Nat.le_trans hC.out.k.1 hK
 obtain ⟨p, Hp⟩ := nm (plcB (byN x.cm.bu) (X.map Bkx.bk))
 obtain ⟨is, HIS⟩ := nm (isB (byN x.cm.bu) (X.map Bkx.bk))
 go_enter Tryz.func67, Tryz.ntmps67
 go_upto_region 1 with (fail)
 rw [Hw1.out, Hg.out]
 clear Hw1
 refine wp_region_till (S := fun L W => Cq2 W gc g A a n fa fn fc) (by kernel_rfl) K0 (fun hS => ?_)
 clear K0
 refine tkg (i := 0) (v := .pointer (some ⟨gc, 0, none⟩)) rfl hS (fun hSb => ?_)
 simp only [pA,pB,pC,Act.put,pD,pE,pF]
 clear hS
 refine tkg (i := 1) (v := .pointer (some ⟨gc, 0, none⟩)) rfl hSb (fun hS => ?_)
 simp only [pA,pB,pC,Act.put,pD,pE,pF]
 clear hSb
 refine tkg (i := 2) (v := .pointer (some ⟨gc, 0, none⟩)) rfl hS (fun hSb => ?_)
 simp only [pA,pB,pC,Act.put,pD,pE,pF]
 clear hS
 refine trx (i := 3) (c := 6) (v := .slice a n n) rfl rfl (Or.inl ⟨by rfl, fun w h => by have q9 := h.c0; go_simp⟩) hSb (fun hS => ?_)
 simp only [pA,pB,pC,Act.put,pD,pE,pF]
 clear hSb
 refine tkg (i := 4) (v := .pointer (some ⟨g, 4, none⟩)) rfl hS (fun hSb => ?_)
 simp only [pA,pB,pC,Act.put,pD,pE,pF]
 clear hS
 refine trx (i := 5) (c := 6) (v := .string x.cm.bu) rfl rfl (Or.inl ⟨by rfl, fun w h => by have q9 := cell_arr h.x A4.out; go_simp⟩) hSb (fun hS => ?_)
 simp only [pA,pB,pC,Act.put,pD,pE,pF]
 clear hSb
 refine till_one (i := 6) (by kernel_rfl) rfl (fun K hK => ?_)
 simp only [pA,pB,pC]
 rw [if_pos (by rfl)]
 go_simp
 go_wp2_with (go_at_call 49; refine (findB x.cm.bu AD hnK).mono ?_; rintro e w2 ⟨rfl, H2⟩; rw [Hp.out, HIS.out])
 refine hK.out _ _ (hS.below H2.out) (fun hSb => ?_)
 clear hK K
 try simp only [pA,pB,pC,Act.put,pD,pE,pF]
 clear hS
 refine tkg (i := 7) (v := .tuple #[.int .i64 (p : Int), .bool is]) rfl hSb (fun hS => ?_)
 simp only [pA,pB,pC,Act.put,pD,pE,pF]
 clear hSb
 refine tkg (i := 8) (v := .int .i64 (p : Int)) rfl hS (fun hSb => ?_)
 simp only [pA,pB,pC,Act.put,pD,pE,pF]
 clear hS
 refine tkg (i := 9) (v := .bool is) rfl hSb (fun hS => ?_)
 simp only [pA,pB,pC,Act.put,pD,pE,pF]
 clear hSb
 refine till_one (i := 10) (by kernel_rfl) rfl (fun K hK => ?_)
 simp only [pA,pB,pC]
 rw [if_pos (by rfl)]
 go_simp
 refine hK.out _ _ (hS) (fun hSb => ?_)
 clear hK K
 try simp only [pA,pB,pC,Act.put,pD,pE,pF]
 clear hS
 refine till_one (i := 11) (by kernel_rfl) rfl (fun K hK => ?_)
 simp only [pA,pB,pC]
 rw [if_pos (by rfl)]
 go_simp
 refine hK.out _ _ (hSb) (fun hS => ?_)
 clear hK K
 try simp only [pA,pB,pC,Act.put,pD,pE,pF]
 clear hSb
 have S3 := hS
 refine till_done (by kernel_rfl) ?_ _
 clear hS
 show (Exit.then _ _) .normal _ _
 have S3h : Hid (Cq2 w2 gc g A a n fa fn fc) := S3
 clear S3
 have B2 : Hid (Below w.heap.size w w2) := (B1.out.drew).trans (H2.out.mono B1.out.size)
 have kr2 := sh H2 kr
 clear H2 AD kr kx B1
 rcases is with _ | _
 . have IB : Hid (inB ⟨X.map Bkx.bk, F⟩ x.cm f = (⟨X.map Bkx.bk, F⟩, noO 1)) := by show _ = _; unfold inB; simp only; rw [HIS.out]; rfl
   obtain ⟨R, HR⟩ := nm ((#[.int .i64 1,.string ⟨#[]⟩] : Array Value))
   have a5' : (Tryz.prog.info? 51).map (·.size) = some R.size := by rw [<- HR.out]; exact outZ
   have AA : Hid (R.all (·.oneCell') = true) := (show R.all (·.oneCell') = true by rw [<- HR.out]; kernel_rfl)
   have a6' : Hid (R.size = 2) := (show R.size = 2 by rw [<- HR.out]; rfl)
   go_wp2_with (first
    | (go_at_call 78; refine (refused_n 1 _).mono ?_; rintro e w7 ⟨rfl, H7⟩; rw [HR.out]; have r7 := sh H7 kr2)
    | (refine wpList_store_row (by rfl) 51 (.tmp 6) (.tmp 21) (by rfl) (g + 1) R (by rfl) (by rfl) 51 _ r7.out a5' (by rw [a6'.out]; rfl) AA.out ?_))
   refine bodyPost_ret (results_cell_row Tryz.results67 _ _ (g + 1) 51 R (0, 0) _ (by rfl) (setRow_heap _ _ _ _ _ _ r7.out) Tryz.underlying51 rfl a5') rfl ?_
   refine ⟨R, rfl, ?_⟩
   rw [IB.out]
   have B7 : Below w.heap.size w w7 := B2.out.trans (H7.out.mono B2.out.size)
   have hg1 : w.heap.size <= g + 1 := by have := Hg.out; omega
   have B8 : Below w.heap.size w (w7.setRow (g + 1) R) := below_setRow B7 hg1 _
   exact ⟨HR.out.symm, a, n, n, X, fa, fn, fc, F, (B8.block gc (gl hk.out)).trans hk.out, ((hC.out.ct.below B8).up (Nat.le_succ K)).full, rfl, rfl, B8.mono hlo, K51.below B8⟩
 . have pl : p < n := by rw [<- Hp.out, LX.out]; rw [<- List.length_map (f := Bkx.bk)]; exact isB_lt HIS.out
   have i1 : (p : Int) < (n : Int) := by omega
   obtain ⟨b, rfl, _, _, _⟩ := hC.out.b.at_ (i := p) (by rw [<- LX.out]; exact pl)
   obtain ⟨y, EY⟩ : ∃ y, Hid (X[p]? = some y) := ⟨X[p]'(by rw [<- LX.out]; exact pl), List.getElem?_eq_getElem _⟩
   have IB : Hid (inB ⟨X.map Bkx.bk, F⟩ x.cm f = (⟨(X.map Bkx.bk).set p (f y.bk x.cm).1, F⟩, (f y.bk x.cm).2)) := by show _ = _; unfold inB; simp only; rw [HIS.out, if_pos rfl, Hp.out, List.getElem?_map, EY.out]; rfl
   go_upto_region 4 with (fail)
   obtain ⟨wd, Hwd⟩ := nm (w2.drew)
   have BD : Hid (Below w.heap.size w wd) := by rw [<- Hwd.out]; exact B2.out.drew
   have CC : Hid (CtC K wd lo hi (some ⟨b, 0, none⟩) n X fa fn fc F) := hC.out.below BD.out
   have SD : Hid (Bs K wd lo hi b n X p y) := ⟨CC.out.b, EY.out, CC.out.bb y (List.mem_of_getElem? EY.out)⟩
   have KD : Hid (Cq2 wd gc g A (some ⟨b, 0, none⟩) n fa fn fc) := by rw [<- Hwd.out]; exact ⟨S3h.out.k, S3h.out.x⟩
   have KRD : Hid (wd.heap[g + 1]? = some (.cells #[.int .i64 0,.string ⟨#[]⟩] 51 (0, 0))) := by rw [<- Hwd.out]; exact kr2.out
   refine wp_region_till (S := tillP 8 (fun W => Cq2 W gc g A (some ⟨b, 0, none⟩) n fa fn fc)) (by kernel_rfl) (.inr (by rw [Hwd.out]; exact KD.out)) (fun hS => ?_)
   rw [Hwd.out] at hS ⊢
   clear Hwd
   refine tkp (i := 0) (v := .func (.func 75) #[] #[]) rfl hS (fun hSb => ?_)
   simp only [pA,pB,pC,Act.put,pD,pE,pF]
   clear hS
   refine tkp (i := 1) (v := .pointer (some ⟨gc, 0, none⟩)) rfl hSb (fun hS => ?_)
   simp only [pA,pB,pC,Act.put,pD,pE,pF]
   clear hSb
   refine tkp (i := 2) (v := .pointer (some ⟨gc, 0, none⟩)) rfl hS (fun hSb => ?_)
   simp only [pA,pB,pC,Act.put,pD,pE,pF]
   clear hS
   refine tkp (i := 3) (v := .pointer (some ⟨gc, 0, none⟩)) rfl hSb (fun hS => ?_)
   simp only [pA,pB,pC,Act.put,pD,pE,pF]
   clear hSb
   refine till_readc (i := 4) (cs := [6, 8]) (v := .slice (some ⟨b, 0, none⟩) n n) (T := fun W => Cq2 W gc g A (some ⟨b, 0, none⟩) n fa fn fc) rfl (by kernel_rfl) (by kernel_rfl) (by kernel_rfl) (by kernel_rfl) (by kernel_rfl) (fun _ _ _ h => h) (fun L w => tillP_set (by decide)) (fun L w h1 h2 => tillP_out (h1 8 (by simp)) h2) (Or.inl ⟨by rfl, fun w h => by have q9 := h.c0; go_simp⟩) hS (fun hSb => ?_)
   simp only [pA,pB,pC,Act.put,pD,pE,pF]
   clear hS
   refine tkp (i := 5) (v := .int .i64 (p : Int)) rfl hSb (fun hS => ?_)
   simp only [pA,pB,pC,Act.put,pD,pE,pF]
   clear hSb
   refine tkp (i := 6) (v := .pointer (some ⟨b, p * 5, none⟩)) rfl hS (fun hSb => ?_)
   simp only [pA,pB,pC,Act.put,pD,pE,pF]
   clear hS
   refine trd (i := 7) (c := 8) (v := .agg A) (T := fun W => Cq2 W gc g A (some ⟨b, 0, none⟩) n fa fn fc) rfl rfl (fun L w => tillP_set (by decide)) (fun L w h1 h2 => tillP_out h1 h2) (yl_any (by rfl) (by rfl) (by rfl) (fun W h => run_loadVar_row W g 29 29 A (0, 0) _ h.x Tryz.underlying29 rfl (info29 a18))) hSb (fun hS => ?_)
   simp only [pA,pB,pC,Act.put,pD,pE,pF]
   clear hSb
   refine till_one (i := 8) (by kernel_rfl) rfl (fun K hK => ?_)
   simp only [pA,pB,pC]
   rw [if_pos (by rfl)]
   go_simp
   go_wp2_with (go_at_call 75; refine (HDO.out wd b p y SD BD.out).mono ?_; rintro e w5 ⟨R, rfl, H5⟩)
   refine hK.out _ _ (Or.inl (by kernel_rfl)) (fun hSb => ?_)
   clear hK K
   try simp only [pA,pB,pC,Act.put,pD,pE,pF]
   clear hS
   refine till_one (i := 9) (by kernel_rfl) rfl (fun K hK => ?_)
   simp only [pA,pB,pC]
   rw [if_pos (by rfl)]
   obtain ⟨kr5, r5, r6, RA⟩ := box_of CC.out EY.out KD.out.k KRD.out H5.out
   refine wp_store_row 51 (.tmp 6) (.tmp 30) (by rfl) (g + 1) R (by rfl) (by rfl) 51 _ kr5 r5 (by rw [r6]; rfl) RA ?_
   refine hK.out _ _ (Or.inl (by kernel_rfl)) (fun hS => ?_)
   clear hK K
   try simp only [pA,pB,pC,Act.put,pD,pE,pF]
   clear hSb
   refine till_done (by kernel_rfl) ?_ _
   clear hS
   show (Exit.then _ _) .normal _ _
   go_wp2
   refine bodyPost_ret (results_cell_row Tryz.results67 _ _ (g + 1) 51 R (0, 0) _ (by rfl) (setRow_heap _ _ _ _ _ _ kr5) Tryz.underlying51 rfl r5) rfl ?_
   refine ⟨R, rfl, ?_⟩
   rw [IB.out]
   obtain ⟨X', k1, k2, k3, k4, k51⟩ := do_cat CC.out EY.out KD.out.k H5.out
   have ng : ∀ q, q < w5.heap.size -> q ≠ g + 1 -> (w5.setRow (g + 1) R).heap[q]? = w5.heap[q]? := fun q hq hn => setRow_other _ _ _ _ hn
   have hg1 : lo <= g + 1 := by have := Hg.out; omega
   refine ⟨H5.out.1, _, n, n, X', fa, fn, fc, F, (ng gc (gl k1) (fun e => ?_)).trans k1, (k2.off ng kr5).full, k3, rfl, below_setRow ((BD.out.mono hlo).trans k4) hg1 _, fun q cs h => (setRow_other _ _ _ _ (fun e2 => by have h2 := (gl h); have h3 := Hg.out; omega)).trans (k51 q cs (K51.below BD.out q cs h))⟩
   rw [e, kr5] at k1
   simp at k1
set_option maxHeartbeats 16000000 in
theorem inBucket_put {K : Nat} (hK : K <= 1048576) {w : World} {A : Array Value} {x : Cx} {lo hi gc : Nat} {a : Option Addr} {n : Nat} {X : List Bkx} {fa : Option Addr} {fn fc : Nat} {F : List Idd} {f : Bkd -> Cm -> Bkd × Outc} (hX : Hid (A = (encX x).toArray)) (hC : Hid (CtC K w lo hi a n X fa fn fc F)) (hk : Hid (w.heap[gc]? = some (.cells #[.slice a n n,.slice fa fn fc] 58 (0, 0)))) (hlo : lo <= w.heap.size)
  (hdo : ∀ (V : World) (b i : Nat) (y : Bkx), Hid (Bs K V lo hi b n X i y) -> Below w.heap.size w V -> Calls Tryz.prog 68 #[.pointer (some ⟨b, i * 5, none⟩), .agg A] V fun e w' => ∃ R, e = .returned (.agg R) /\ Hid (DoR K V w' lo hi b n X i y (f y.bk x.cm) R)) :
  Calls Tryz.prog 67 #[.pointer (some ⟨gc, 0, none⟩), .agg A, .func (.func 68) #[] #[]] w fun e w' => ∃ R, e = .returned (.agg R) /\ Hid (ChR K w w' lo gc (inB ⟨X.map Bkx.bk, F⟩ x.cm f) R) := by
 have a18 : A.size = 18 := encX_sz hX.out
 have A4 : Hid (A[4]? = some (.string x.cm.bu)) := by rw [hX.out]; rfl
 have HDO : Hid (∀ (V : World) (b i : Nat) (y : Bkx), Hid (Bs K V lo hi b n X i y) -> Below w.heap.size w V -> Calls Tryz.prog 68 #[.pointer (some ⟨b, i * 5, none⟩), .agg A] V fun e w' => ∃ R, e = .returned (.agg R) /\ Hid (DoR K V w' lo hi b n X i y (f y.bk x.cm) R)) := hdo
 clear hdo
 have LX : Hid (n = X.length) := hC.out.b.len
 obtain ⟨w1, Hw1⟩ := nm ((w.alloc (.cells A 29)).alloc (.cells #[.int .i64 0,.string ⟨#[]⟩] 51))
 obtain ⟨g, Hg⟩ := nm (w.heap.size)
 have B1 : Hid (Below w.heap.size w w1) := by rw [<- Hw1.out]; exact alloc2 w _ _
 have kx : Hid (w1.heap[g]? = some (.cells A 29 (0, 0))) := by
  rw [<- Hw1.out, <- Hg.out]
  exact ((alloc1 (w.alloc (.cells A 29)) _).block w.heap.size (by simp)).trans (heap_alloc_new w _)
 have kr : Hid (w1.heap[g + 1]? = some (.cells #[.int .i64 0,.string ⟨#[]⟩] 51 (0, 0))) := by
  rw [<- Hw1.out, <- Hg.out]
  have e : (w.alloc (.cells A 29)).heap.size = w.heap.size + 1 := by simp
  rw [<- e]
  exact heap_alloc_new _ _
 have K0 : Cq2 w1.drew gc g A a n fa fn fc := ⟨(B1.out.block _ (gl hk.out)).trans hk.out, kx.out⟩
 have AD : Hid (Rw w1.drew lo hi 65 EBk a n n X) := (hC.out.b.below B1.out).keep (fun _ _ _ _ => rfl)
 have hnK : n <= 1048576 := Nat.le_trans hC.out.k.1 hK
 obtain ⟨p, Hp⟩ := nm (plcB (byN x.cm.bu) (X.map Bkx.bk))
 obtain ⟨is, HIS⟩ := nm (isB (byN x.cm.bu) (X.map Bkx.bk))
 go_enter Tryz.func67, Tryz.ntmps67
 go_upto_region 1 with (fail)
 rw [Hw1.out, Hg.out]
 clear Hw1
 refine wp_region_till (S := fun L W => Cq2 W gc g A a n fa fn fc) (by kernel_rfl) K0 (fun hS => ?_)
 clear K0
 refine tkg (i := 0) (v := .pointer (some ⟨gc, 0, none⟩)) rfl hS (fun hSb => ?_)
 simp only [pA,pB,pC,Act.put,pD,pE,pF]
 clear hS
 refine tkg (i := 1) (v := .pointer (some ⟨gc, 0, none⟩)) rfl hSb (fun hS => ?_)
 simp only [pA,pB,pC,Act.put,pD,pE,pF]
 clear hSb
 refine tkg (i := 2) (v := .pointer (some ⟨gc, 0, none⟩)) rfl hS (fun hSb => ?_)
 simp only [pA,pB,pC,Act.put,pD,pE,pF]
 clear hS
 refine trx (i := 3) (c := 6) (v := .slice a n n) rfl rfl (Or.inl ⟨by rfl, fun w h => by have q9 := h.c0; go_simp⟩) hSb (fun hS => ?_)
 simp only [pA,pB,pC,Act.put,pD,pE,pF]
 clear hSb
 refine tkg (i := 4) (v := .pointer (some ⟨g, 4, none⟩)) rfl hS (fun hSb => ?_)
 simp only [pA,pB,pC,Act.put,pD,pE,pF]
 clear hS
 refine trx (i := 5) (c := 6) (v := .string x.cm.bu) rfl rfl (Or.inl ⟨by rfl, fun w h => by have q9 := cell_arr h.x A4.out; go_simp⟩) hSb (fun hS => ?_)
 simp only [pA,pB,pC,Act.put,pD,pE,pF]
 clear hSb
 refine till_one (i := 6) (by kernel_rfl) rfl (fun K hK => ?_)
 simp only [pA,pB,pC]
 rw [if_pos (by rfl)]
 go_simp
 go_wp2_with (go_at_call 49; refine (findB x.cm.bu AD hnK).mono ?_; rintro e w2 ⟨rfl, H2⟩; rw [Hp.out, HIS.out])
 refine hK.out _ _ (hS.below H2.out) (fun hSb => ?_)
 clear hK K
 try simp only [pA,pB,pC,Act.put,pD,pE,pF]
 clear hS
 refine tkg (i := 7) (v := .tuple #[.int .i64 (p : Int), .bool is]) rfl hSb (fun hS => ?_)
 simp only [pA,pB,pC,Act.put,pD,pE,pF]
 clear hSb
 refine tkg (i := 8) (v := .int .i64 (p : Int)) rfl hS (fun hSb => ?_)
 simp only [pA,pB,pC,Act.put,pD,pE,pF]
 clear hS
 refine tkg (i := 9) (v := .bool is) rfl hSb (fun hS => ?_)
 simp only [pA,pB,pC,Act.put,pD,pE,pF]
 clear hSb
 refine till_one (i := 10) (by kernel_rfl) rfl (fun K hK => ?_)
 simp only [pA,pB,pC]
 rw [if_pos (by rfl)]
 go_simp
 refine hK.out _ _ (hS) (fun hSb => ?_)
 clear hK K
 try simp only [pA,pB,pC,Act.put,pD,pE,pF]
 clear hS
 refine till_one (i := 11) (by kernel_rfl) rfl (fun K hK => ?_)
 simp only [pA,pB,pC]
 rw [if_pos (by rfl)]
 go_simp
 refine hK.out _ _ (hSb) (fun hS => ?_)
 clear hK K
 try simp only [pA,pB,pC,Act.put,pD,pE,pF]
 clear hSb
 have S3 := hS
 refine till_done (by kernel_rfl) ?_ _
 clear hS
 show (Exit.then _ _) .normal _ _
 have S3h : Hid (Cq2 w2 gc g A a n fa fn fc) := S3
 clear S3
 have B2 : Hid (Below w.heap.size w w2) := (B1.out.drew).trans (H2.out.mono B1.out.size)
 have kr2 := sh H2 kr
 clear H2 AD kr kx B1
 rcases is with _ | _
 . have IB : Hid (inB ⟨X.map Bkx.bk, F⟩ x.cm f = (⟨X.map Bkx.bk, F⟩, noO 1)) := by show _ = _; unfold inB; simp only; rw [HIS.out]; rfl
   obtain ⟨R, HR⟩ := nm ((#[.int .i64 1,.string ⟨#[]⟩] : Array Value))
   have a5' : (Tryz.prog.info? 51).map (·.size) = some R.size := by rw [<- HR.out]; exact outZ
   have AA : Hid (R.all (·.oneCell') = true) := (show R.all (·.oneCell') = true by rw [<- HR.out]; kernel_rfl)
   have a6' : Hid (R.size = 2) := (show R.size = 2 by rw [<- HR.out]; rfl)
   go_wp2_with (first
    | (go_at_call 78; refine (refused_n 1 _).mono ?_; rintro e w7 ⟨rfl, H7⟩; rw [HR.out]; have r7 := sh H7 kr2)
    | (refine wpList_store_row (by rfl) 51 (.tmp 6) (.tmp 21) (by rfl) (g + 1) R (by rfl) (by rfl) 51 _ r7.out a5' (by rw [a6'.out]; rfl) AA.out ?_))
   refine bodyPost_ret (results_cell_row Tryz.results67 _ _ (g + 1) 51 R (0, 0) _ (by rfl) (setRow_heap _ _ _ _ _ _ r7.out) Tryz.underlying51 rfl a5') rfl ?_
   refine ⟨R, rfl, ?_⟩
   rw [IB.out]
   have B7 : Below w.heap.size w w7 := B2.out.trans (H7.out.mono B2.out.size)
   have hg1 : w.heap.size <= g + 1 := by have := Hg.out; omega
   have B8 : Below w.heap.size w (w7.setRow (g + 1) R) := below_setRow B7 hg1 _
   exact ⟨HR.out.symm, a, n, n, X, fa, fn, fc, F, (B8.block gc (gl hk.out)).trans hk.out, ((hC.out.ct.below B8).up (Nat.le_succ K)).full, rfl, rfl, B8.mono hlo, K51.below B8⟩
 . have pl : p < n := by rw [<- Hp.out, LX.out]; rw [<- List.length_map (f := Bkx.bk)]; exact isB_lt HIS.out
   have i1 : (p : Int) < (n : Int) := by omega
   obtain ⟨b, rfl, _, _, _⟩ := hC.out.b.at_ (i := p) (by rw [<- LX.out]; exact pl)
   obtain ⟨y, EY⟩ : ∃ y, Hid (X[p]? = some y) := ⟨X[p]'(by rw [<- LX.out]; exact pl), List.getElem?_eq_getElem _⟩
   have IB : Hid (inB ⟨X.map Bkx.bk, F⟩ x.cm f = (⟨(X.map Bkx.bk).set p (f y.bk x.cm).1, F⟩, (f y.bk x.cm).2)) := by show _ = _; unfold inB; simp only; rw [HIS.out, if_pos rfl, Hp.out, List.getElem?_map, EY.out]; rfl
   go_upto_region 4 with (fail)
   obtain ⟨wd, Hwd⟩ := nm (w2.drew)
   have BD : Hid (Below w.heap.size w wd) := by rw [<- Hwd.out]; exact B2.out.drew
   have CC : Hid (CtC K wd lo hi (some ⟨b, 0, none⟩) n X fa fn fc F) := hC.out.below BD.out
   have SD : Hid (Bs K wd lo hi b n X p y) := ⟨CC.out.b, EY.out, CC.out.bb y (List.mem_of_getElem? EY.out)⟩
   have KD : Hid (Cq2 wd gc g A (some ⟨b, 0, none⟩) n fa fn fc) := by rw [<- Hwd.out]; exact ⟨S3h.out.k, S3h.out.x⟩
   have KRD : Hid (wd.heap[g + 1]? = some (.cells #[.int .i64 0,.string ⟨#[]⟩] 51 (0, 0))) := by rw [<- Hwd.out]; exact kr2.out
   refine wp_region_till (S := tillP 8 (fun W => Cq2 W gc g A (some ⟨b, 0, none⟩) n fa fn fc)) (by kernel_rfl) (.inr (by rw [Hwd.out]; exact KD.out)) (fun hS => ?_)
   rw [Hwd.out] at hS ⊢
   clear Hwd
   refine tkp (i := 0) (v := .func (.func 68) #[] #[]) rfl hS (fun hSb => ?_)
   simp only [pA,pB,pC,Act.put,pD,pE,pF]
   clear hS
   refine tkp (i := 1) (v := .pointer (some ⟨gc, 0, none⟩)) rfl hSb (fun hS => ?_)
   simp only [pA,pB,pC,Act.put,pD,pE,pF]
   clear hSb
   refine tkp (i := 2) (v := .pointer (some ⟨gc, 0, none⟩)) rfl hS (fun hSb => ?_)
   simp only [pA,pB,pC,Act.put,pD,pE,pF]
   clear hS
   refine tkp (i := 3) (v := .pointer (some ⟨gc, 0, none⟩)) rfl hSb (fun hS => ?_)
   simp only [pA,pB,pC,Act.put,pD,pE,pF]
   clear hSb
   refine till_readc (i := 4) (cs := [6, 8]) (v := .slice (some ⟨b, 0, none⟩) n n) (T := fun W => Cq2 W gc g A (some ⟨b, 0, none⟩) n fa fn fc) rfl (by kernel_rfl) (by kernel_rfl) (by kernel_rfl) (by kernel_rfl) (by kernel_rfl) (fun _ _ _ h => h) (fun L w => tillP_set (by decide)) (fun L w h1 h2 => tillP_out (h1 8 (by simp)) h2) (Or.inl ⟨by rfl, fun w h => by have q9 := h.c0; go_simp⟩) hS (fun hSb => ?_)
   simp only [pA,pB,pC,Act.put,pD,pE,pF]
   clear hS
   refine tkp (i := 5) (v := .int .i64 (p : Int)) rfl hSb (fun hS => ?_)
   simp only [pA,pB,pC,Act.put,pD,pE,pF]
   clear hSb
   refine tkp (i := 6) (v := .pointer (some ⟨b, p * 5, none⟩)) rfl hS (fun hSb => ?_)
   simp only [pA,pB,pC,Act.put,pD,pE,pF]
   clear hS
   refine trd (i := 7) (c := 8) (v := .agg A) (T := fun W => Cq2 W gc g A (some ⟨b, 0, none⟩) n fa fn fc) rfl rfl (fun L w => tillP_set (by decide)) (fun L w h1 h2 => tillP_out h1 h2) (yl_any (by rfl) (by rfl) (by rfl) (fun W h => run_loadVar_row W g 29 29 A (0, 0) _ h.x Tryz.underlying29 rfl (info29 a18))) hSb (fun hS => ?_)
   simp only [pA,pB,pC,Act.put,pD,pE,pF]
   clear hSb
   refine till_one (i := 8) (by kernel_rfl) rfl (fun K hK => ?_)
   simp only [pA,pB,pC]
   rw [if_pos (by rfl)]
   go_simp
   go_wp2_with (go_at_call 68; refine (HDO.out wd b p y SD BD.out).mono ?_; rintro e w5 ⟨R, rfl, H5⟩)
   refine hK.out _ _ (Or.inl (by kernel_rfl)) (fun hSb => ?_)
   clear hK K
   try simp only [pA,pB,pC,Act.put,pD,pE,pF]
   clear hS
   refine till_one (i := 9) (by kernel_rfl) rfl (fun K hK => ?_)
   simp only [pA,pB,pC]
   rw [if_pos (by rfl)]
   obtain ⟨kr5, r5, r6, RA⟩ := box_of CC.out EY.out KD.out.k KRD.out H5.out
   refine wp_store_row 51 (.tmp 6) (.tmp 30) (by rfl) (g + 1) R (by rfl) (by rfl) 51 _ kr5 r5 (by rw [r6]; rfl) RA ?_
   refine hK.out _ _ (Or.inl (by kernel_rfl)) (fun hS => ?_)
   clear hK K
   try simp only [pA,pB,pC,Act.put,pD,pE,pF]
   clear hSb
   refine till_done (by kernel_rfl) ?_ _
   clear hS
   show (Exit.then _ _) .normal _ _
   go_wp2
   refine bodyPost_ret (results_cell_row Tryz.results67 _ _ (g + 1) 51 R (0, 0) _ (by rfl) (setRow_heap _ _ _ _ _ _ kr5) Tryz.underlying51 rfl r5) rfl ?_
   refine ⟨R, rfl, ?_⟩
   rw [IB.out]
   obtain ⟨X', k1, k2, k3, k4, k51⟩ := do_cat CC.out EY.out KD.out.k H5.out
   have ng : ∀ q, q < w5.heap.size -> q ≠ g + 1 -> (w5.setRow (g + 1) R).heap[q]? = w5.heap[q]? := fun q hq hn => setRow_other _ _ _ _ hn
   have hg1 : lo <= g + 1 := by have := Hg.out; omega
   refine ⟨H5.out.1, _, n, n, X', fa, fn, fc, F, (ng gc (gl k1) (fun e => ?_)).trans k1, (k2.off ng kr5).full, k3, rfl, below_setRow ((BD.out.mono hlo).trans k4) hg1 _, fun q cs h => (setRow_other _ _ _ _ (fun e2 => by have h2 := (gl h); have h3 := Hg.out; omega)).trans (k51 q cs (K51.below BD.out q cs h))⟩
   rw [e, kr5] at k1
   simp at k1
set_option maxHeartbeats 16000000 in
theorem inBucket_sta {K : Nat} (hK : K <= 1048576) {w : World} {A : Array Value} {x : Cx} {lo hi gc : Nat} {a : Option Addr} {n : Nat} {X : List Bkx} {fa : Option Addr} {fn fc : Nat} {F : List Idd} {f : Bkd -> Cm -> Bkd × Outc} (hX : Hid (A = (encX x).toArray)) (hC : Hid (CtC K w lo hi a n X fa fn fc F)) (hk : Hid (w.heap[gc]? = some (.cells #[.slice a n n,.slice fa fn fc] 58 (0, 0)))) (hlo : lo <= w.heap.size)
  (hdo : ∀ (V : World) (b i : Nat) (y : Bkx), Hid (Bs K V lo hi b n X i y) -> Below w.heap.size w V -> Calls Tryz.prog 70 #[.pointer (some ⟨b, i * 5, none⟩), .agg A] V fun e w' => ∃ R, e = .returned (.agg R) /\ Hid (DoR K V w' lo hi b n X i y (f y.bk x.cm) R)) :
  Calls Tryz.prog 67 #[.pointer (some ⟨gc, 0, none⟩), .agg A, .func (.func 70) #[] #[]] w fun e w' => ∃ R, e = .returned (.agg R) /\ Hid (ChR K w w' lo gc (inB ⟨X.map Bkx.bk, F⟩ x.cm f) R) := by
 have a18 : A.size = 18 := encX_sz hX.out
 have A4 : Hid (A[4]? = some (.string x.cm.bu)) := by rw [hX.out]; rfl
 have HDO : Hid (∀ (V : World) (b i : Nat) (y : Bkx), Hid (Bs K V lo hi b n X i y) -> Below w.heap.size w V -> Calls Tryz.prog 70 #[.pointer (some ⟨b, i * 5, none⟩), .agg A] V fun e w' => ∃ R, e = .returned (.agg R) /\ Hid (DoR K V w' lo hi b n X i y (f y.bk x.cm) R)) := hdo
 clear hdo
 have LX : Hid (n = X.length) := hC.out.b.len
 obtain ⟨w1, Hw1⟩ := nm ((w.alloc (.cells A 29)).alloc (.cells #[.int .i64 0,.string ⟨#[]⟩] 51))
 obtain ⟨g, Hg⟩ := nm (w.heap.size)
 have B1 : Hid (Below w.heap.size w w1) := by rw [<- Hw1.out]; exact alloc2 w _ _
 have kx : Hid (w1.heap[g]? = some (.cells A 29 (0, 0))) := by
  rw [<- Hw1.out, <- Hg.out]
  exact ((alloc1 (w.alloc (.cells A 29)) _).block w.heap.size (by simp)).trans (heap_alloc_new w _)
 have kr : Hid (w1.heap[g + 1]? = some (.cells #[.int .i64 0,.string ⟨#[]⟩] 51 (0, 0))) := by
  rw [<- Hw1.out, <- Hg.out]
  have e : (w.alloc (.cells A 29)).heap.size = w.heap.size + 1 := by simp
  rw [<- e]
  exact heap_alloc_new _ _
 have K0 : Cq2 w1.drew gc g A a n fa fn fc := ⟨(B1.out.block _ (gl hk.out)).trans hk.out, kx.out⟩
 have AD : Hid (Rw w1.drew lo hi 65 EBk a n n X) := (hC.out.b.below B1.out).keep (fun _ _ _ _ => rfl)
 have hnK : n <= 1048576 := Nat.le_trans hC.out.k.1 hK
 obtain ⟨p, Hp⟩ := nm (plcB (byN x.cm.bu) (X.map Bkx.bk))
 obtain ⟨is, HIS⟩ := nm (isB (byN x.cm.bu) (X.map Bkx.bk))
 go_enter Tryz.func67, Tryz.ntmps67
 go_upto_region 1 with (fail)
 rw [Hw1.out, Hg.out]
 clear Hw1
 refine wp_region_till (S := fun L W => Cq2 W gc g A a n fa fn fc) (by kernel_rfl) K0 (fun hS => ?_)
 clear K0
 refine tkg (i := 0) (v := .pointer (some ⟨gc, 0, none⟩)) rfl hS (fun hSb => ?_)
 simp only [pA,pB,pC,Act.put,pD,pE,pF]
 clear hS
 refine tkg (i := 1) (v := .pointer (some ⟨gc, 0, none⟩)) rfl hSb (fun hS => ?_)
 simp only [pA,pB,pC,Act.put,pD,pE,pF]
 clear hSb
 refine tkg (i := 2) (v := .pointer (some ⟨gc, 0, none⟩)) rfl hS (fun hSb => ?_)
 simp only [pA,pB,pC,Act.put,pD,pE,pF]
 clear hS
 refine trx (i := 3) (c := 6) (v := .slice a n n) rfl rfl (Or.inl ⟨by rfl, fun w h => by have q9 := h.c0; go_simp⟩) hSb (fun hS => ?_)
 simp only [pA,pB,pC,Act.put,pD,pE,pF]
 clear hSb
 refine tkg (i := 4) (v := .pointer (some ⟨g, 4, none⟩)) rfl hS (fun hSb => ?_)
 simp only [pA,pB,pC,Act.put,pD,pE,pF]
 clear hS
 refine trx (i := 5) (c := 6) (v := .string x.cm.bu) rfl rfl (Or.inl ⟨by rfl, fun w h => by have q9 := cell_arr h.x A4.out; go_simp⟩) hSb (fun hS => ?_)
 simp only [pA,pB,pC,Act.put,pD,pE,pF]
 clear hSb
 refine till_one (i := 6) (by kernel_rfl) rfl (fun K hK => ?_)
 simp only [pA,pB,pC]
 rw [if_pos (by rfl)]
 go_simp
 go_wp2_with (go_at_call 49; refine (findB x.cm.bu AD hnK).mono ?_; rintro e w2 ⟨rfl, H2⟩; rw [Hp.out, HIS.out])
 refine hK.out _ _ (hS.below H2.out) (fun hSb => ?_)
 clear hK K
 try simp only [pA,pB,pC,Act.put,pD,pE,pF]
 clear hS
 refine tkg (i := 7) (v := .tuple #[.int .i64 (p : Int), .bool is]) rfl hSb (fun hS => ?_)
 simp only [pA,pB,pC,Act.put,pD,pE,pF]
 clear hSb
 refine tkg (i := 8) (v := .int .i64 (p : Int)) rfl hS (fun hSb => ?_)
 simp only [pA,pB,pC,Act.put,pD,pE,pF]
 clear hS
 refine tkg (i := 9) (v := .bool is) rfl hSb (fun hS => ?_)
 simp only [pA,pB,pC,Act.put,pD,pE,pF]
 clear hSb
 refine till_one (i := 10) (by kernel_rfl) rfl (fun K hK => ?_)
 simp only [pA,pB,pC]
 rw [if_pos (by rfl)]
 go_simp
 refine hK.out _ _ (hS) (fun hSb => ?_)
 clear hK K
 try simp only [pA,pB,pC,Act.put,pD,pE,pF]
 clear hS
 refine till_one (i := 11) (by kernel_rfl) rfl (fun K hK => ?_)
 simp only [pA,pB,pC]
 rw [if_pos (by rfl)]
 go_simp
 refine hK.out _ _ (hSb) (fun hS => ?_)
 clear hK K
 try simp only [pA,pB,pC,Act.put,pD,pE,pF]
 clear hSb
 have S3 := hS
 refine till_done (by kernel_rfl) ?_ _
 clear hS
 show (Exit.then _ _) .normal _ _
 have S3h : Hid (Cq2 w2 gc g A a n fa fn fc) := S3
 clear S3
 have B2 : Hid (Below w.heap.size w w2) := (B1.out.drew).trans (H2.out.mono B1.out.size)
 have kr2 := sh H2 kr
 clear H2 AD kr kx B1
 rcases is with _ | _
 . have IB : Hid (inB ⟨X.map Bkx.bk, F⟩ x.cm f = (⟨X.map Bkx.bk, F⟩, noO 1)) := by show _ = _; unfold inB; simp only; rw [HIS.out]; rfl
   obtain ⟨R, HR⟩ := nm ((#[.int .i64 1,.string ⟨#[]⟩] : Array Value))
   have a5' : (Tryz.prog.info? 51).map (·.size) = some R.size := by rw [<- HR.out]; exact outZ
   have AA : Hid (R.all (·.oneCell') = true) := (show R.all (·.oneCell') = true by rw [<- HR.out]; kernel_rfl)
   have a6' : Hid (R.size = 2) := (show R.size = 2 by rw [<- HR.out]; rfl)
   go_wp2_with (first
    | (go_at_call 78; refine (refused_n 1 _).mono ?_; rintro e w7 ⟨rfl, H7⟩; rw [HR.out]; have r7 := sh H7 kr2)
    | (refine wpList_store_row (by rfl) 51 (.tmp 6) (.tmp 21) (by rfl) (g + 1) R (by rfl) (by rfl) 51 _ r7.out a5' (by rw [a6'.out]; rfl) AA.out ?_))
   refine bodyPost_ret (results_cell_row Tryz.results67 _ _ (g + 1) 51 R (0, 0) _ (by rfl) (setRow_heap _ _ _ _ _ _ r7.out) Tryz.underlying51 rfl a5') rfl ?_
   refine ⟨R, rfl, ?_⟩
   rw [IB.out]
   have B7 : Below w.heap.size w w7 := B2.out.trans (H7.out.mono B2.out.size)
   have hg1 : w.heap.size <= g + 1 := by have := Hg.out; omega
   have B8 : Below w.heap.size w (w7.setRow (g + 1) R) := below_setRow B7 hg1 _
   exact ⟨HR.out.symm, a, n, n, X, fa, fn, fc, F, (B8.block gc (gl hk.out)).trans hk.out, ((hC.out.ct.below B8).up (Nat.le_succ K)).full, rfl, rfl, B8.mono hlo, K51.below B8⟩
 . have pl : p < n := by rw [<- Hp.out, LX.out]; rw [<- List.length_map (f := Bkx.bk)]; exact isB_lt HIS.out
   have i1 : (p : Int) < (n : Int) := by omega
   obtain ⟨b, rfl, _, _, _⟩ := hC.out.b.at_ (i := p) (by rw [<- LX.out]; exact pl)
   obtain ⟨y, EY⟩ : ∃ y, Hid (X[p]? = some y) := ⟨X[p]'(by rw [<- LX.out]; exact pl), List.getElem?_eq_getElem _⟩
   have IB : Hid (inB ⟨X.map Bkx.bk, F⟩ x.cm f = (⟨(X.map Bkx.bk).set p (f y.bk x.cm).1, F⟩, (f y.bk x.cm).2)) := by show _ = _; unfold inB; simp only; rw [HIS.out, if_pos rfl, Hp.out, List.getElem?_map, EY.out]; rfl
   go_upto_region 4 with (fail)
   obtain ⟨wd, Hwd⟩ := nm (w2.drew)
   have BD : Hid (Below w.heap.size w wd) := by rw [<- Hwd.out]; exact B2.out.drew
   have CC : Hid (CtC K wd lo hi (some ⟨b, 0, none⟩) n X fa fn fc F) := hC.out.below BD.out
   have SD : Hid (Bs K wd lo hi b n X p y) := ⟨CC.out.b, EY.out, CC.out.bb y (List.mem_of_getElem? EY.out)⟩
   have KD : Hid (Cq2 wd gc g A (some ⟨b, 0, none⟩) n fa fn fc) := by rw [<- Hwd.out]; exact ⟨S3h.out.k, S3h.out.x⟩
   have KRD : Hid (wd.heap[g + 1]? = some (.cells #[.int .i64 0,.string ⟨#[]⟩] 51 (0, 0))) := by rw [<- Hwd.out]; exact kr2.out
   refine wp_region_till (S := tillP 8 (fun W => Cq2 W gc g A (some ⟨b, 0, none⟩) n fa fn fc)) (by kernel_rfl) (.inr (by rw [Hwd.out]; exact KD.out)) (fun hS => ?_)
   rw [Hwd.out] at hS ⊢
   clear Hwd
   refine tkp (i := 0) (v := .func (.func 70) #[] #[]) rfl hS (fun hSb => ?_)
   simp only [pA,pB,pC,Act.put,pD,pE,pF]
   clear hS
   refine tkp (i := 1) (v := .pointer (some ⟨gc, 0, none⟩)) rfl hSb (fun hS => ?_)
   simp only [pA,pB,pC,Act.put,pD,pE,pF]
   clear hSb
   refine tkp (i := 2) (v := .pointer (some ⟨gc, 0, none⟩)) rfl hS (fun hSb => ?_)
   simp only [pA,pB,pC,Act.put,pD,pE,pF]
   clear hS
   refine tkp (i := 3) (v := .pointer (some ⟨gc, 0, none⟩)) rfl hSb (fun hS => ?_)
   simp only [pA,pB,pC,Act.put,pD,pE,pF]
   clear hSb
   refine till_readc (i := 4) (cs := [6, 8]) (v := .slice (some ⟨b, 0, none⟩) n n) (T := fun W => Cq2 W gc g A (some ⟨b, 0, none⟩) n fa fn fc) rfl (by kernel_rfl) (by kernel_rfl) (by kernel_rfl) (by kernel_rfl) (by kernel_rfl) (fun _ _ _ h => h) (fun L w => tillP_set (by decide)) (fun L w h1 h2 => tillP_out (h1 8 (by simp)) h2) (Or.inl ⟨by rfl, fun w h => by have q9 := h.c0; go_simp⟩) hS (fun hSb => ?_)
   simp only [pA,pB,pC,Act.put,pD,pE,pF]
   clear hS
   refine tkp (i := 5) (v := .int .i64 (p : Int)) rfl hSb (fun hS => ?_)
   simp only [pA,pB,pC,Act.put,pD,pE,pF]
   clear hSb
   refine tkp (i := 6) (v := .pointer (some ⟨b, p * 5, none⟩)) rfl hS (fun hSb => ?_)
   simp only [pA,pB,pC,Act.put,pD,pE,pF]
   clear hS
   refine trd (i := 7) (c := 8) (v := .agg A) (T := fun W => Cq2 W gc g A (some ⟨b, 0, none⟩) n fa fn fc) rfl rfl (fun L w => tillP_set (by decide)) (fun L w h1 h2 => tillP_out h1 h2) (yl_any (by rfl) (by rfl) (by rfl) (fun W h => run_loadVar_row W g 29 29 A (0, 0) _ h.x Tryz.underlying29 rfl (info29 a18))) hSb (fun hS => ?_)
   simp only [pA,pB,pC,Act.put,pD,pE,pF]
   clear hSb
   refine till_one (i := 8) (by kernel_rfl) rfl (fun K hK => ?_)
   simp only [pA,pB,pC]
   rw [if_pos (by rfl)]
   go_simp
   go_wp2_with (go_at_call 70; refine (HDO.out wd b p y SD BD.out).mono ?_; rintro e w5 ⟨R, rfl, H5⟩)
   refine hK.out _ _ (Or.inl (by kernel_rfl)) (fun hSb => ?_)
   clear hK K
   try simp only [pA,pB,pC,Act.put,pD,pE,pF]
   clear hS
   refine till_one (i := 9) (by kernel_rfl) rfl (fun K hK => ?_)
   simp only [pA,pB,pC]
   rw [if_pos (by rfl)]
   obtain ⟨kr5, r5, r6, RA⟩ := box_of CC.out EY.out KD.out.k KRD.out H5.out
   refine wp_store_row 51 (.tmp 6) (.tmp 30) (by rfl) (g + 1) R (by rfl) (by rfl) 51 _ kr5 r5 (by rw [r6]; rfl) RA ?_
   refine hK.out _ _ (Or.inl (by kernel_rfl)) (fun hS => ?_)
   clear hK K
   try simp only [pA,pB,pC,Act.put,pD,pE,pF]
   clear hSb
   refine till_done (by kernel_rfl) ?_ _
   clear hS
   show (Exit.then _ _) .normal _ _
   go_wp2
   refine bodyPost_ret (results_cell_row Tryz.results67 _ _ (g + 1) 51 R (0, 0) _ (by rfl) (setRow_heap _ _ _ _ _ _ kr5) Tryz.underlying51 rfl r5) rfl ?_
   refine ⟨R, rfl, ?_⟩
   rw [IB.out]
   obtain ⟨X', k1, k2, k3, k4, k51⟩ := do_cat CC.out EY.out KD.out.k H5.out
   have ng : ∀ q, q < w5.heap.size -> q ≠ g + 1 -> (w5.setRow (g + 1) R).heap[q]? = w5.heap[q]? := fun q hq hn => setRow_other _ _ _ _ hn
   have hg1 : lo <= g + 1 := by have := Hg.out; omega
   refine ⟨H5.out.1, _, n, n, X', fa, fn, fc, F, (ng gc (gl k1) (fun e => ?_)).trans k1, (k2.off ng kr5).full, k3, rfl, below_setRow ((BD.out.mono hlo).trans k4) hg1 _, fun q cs h => (setRow_other _ _ _ _ (fun e2 => by have h2 := (gl h); have h3 := Hg.out; omega)).trans (k51 q cs (K51.below BD.out q cs h))⟩
   rw [e, kr5] at k1
   simp at k1
set_option maxHeartbeats 16000000 in
theorem inBucket_up {K : Nat} (hK : K <= 1048576) {w : World} {A : Array Value} {x : Cx} {lo hi gc : Nat} {a : Option Addr} {n : Nat} {X : List Bkx} {fa : Option Addr} {fn fc : Nat} {F : List Idd} {gd : Nat} {f : Bkd -> Cm -> Bkd × Outc} (hX : Hid (A = (encX x).toArray)) (hC : Hid (CtC K w lo hi a n X fa fn fc F)) (hk : Hid (w.heap[gc]? = some (.cells #[.slice a n n,.slice fa fn fc] 58 (0, 0)))) (hlo : lo <= w.heap.size)
  (hdo : ∀ (V : World) (b i : Nat) (y : Bkx), Hid (Bs K V lo hi b n X i y) -> Below w.heap.size w V -> Calls Tryz.prog 101 #[.pointer (some ⟨b, i * 5, none⟩), .agg A, .pointer (some ⟨gd, 0, none⟩)] V fun e w' => ∃ R, e = .returned (.agg R) /\ Hid (DoR K V w' lo hi b n X i y (f y.bk x.cm) R)) :
  Calls Tryz.prog 67 #[.pointer (some ⟨gc, 0, none⟩), .agg A, .func (.func 101) #[] #[.pointer (some ⟨gd, 0, none⟩)]] w fun e w' => ∃ R, e = .returned (.agg R) /\ Hid (ChR K w w' lo gc (inB ⟨X.map Bkx.bk, F⟩ x.cm f) R) := by
 have a18 : A.size = 18 := encX_sz hX.out
 have A4 : Hid (A[4]? = some (.string x.cm.bu)) := by rw [hX.out]; rfl
 have HDO : Hid (∀ (V : World) (b i : Nat) (y : Bkx), Hid (Bs K V lo hi b n X i y) -> Below w.heap.size w V -> Calls Tryz.prog 101 #[.pointer (some ⟨b, i * 5, none⟩), .agg A, .pointer (some ⟨gd, 0, none⟩)] V fun e w' => ∃ R, e = .returned (.agg R) /\ Hid (DoR K V w' lo hi b n X i y (f y.bk x.cm) R)) := hdo
 clear hdo
 have LX : Hid (n = X.length) := hC.out.b.len
 obtain ⟨w1, Hw1⟩ := nm ((w.alloc (.cells A 29)).alloc (.cells #[.int .i64 0,.string ⟨#[]⟩] 51))
 obtain ⟨g, Hg⟩ := nm (w.heap.size)
 have B1 : Hid (Below w.heap.size w w1) := by rw [<- Hw1.out]; exact alloc2 w _ _
 have kx : Hid (w1.heap[g]? = some (.cells A 29 (0, 0))) := by
  rw [<- Hw1.out, <- Hg.out]
  exact ((alloc1 (w.alloc (.cells A 29)) _).block w.heap.size (by simp)).trans (heap_alloc_new w _)
 have kr : Hid (w1.heap[g + 1]? = some (.cells #[.int .i64 0,.string ⟨#[]⟩] 51 (0, 0))) := by
  rw [<- Hw1.out, <- Hg.out]
  have e : (w.alloc (.cells A 29)).heap.size = w.heap.size + 1 := by simp
  rw [<- e]
  exact heap_alloc_new _ _
 have K0 : Cq2 w1.drew gc g A a n fa fn fc := ⟨(B1.out.block _ (gl hk.out)).trans hk.out, kx.out⟩
 have AD : Hid (Rw w1.drew lo hi 65 EBk a n n X) := (hC.out.b.below B1.out).keep (fun _ _ _ _ => rfl)
 have hnK : n <= 1048576 := Nat.le_trans hC.out.k.1 hK
 obtain ⟨p, Hp⟩ := nm (plcB (byN x.cm.bu) (X.map Bkx.bk))
 obtain ⟨is, HIS⟩ := nm (isB (byN x.cm.bu) (X.map Bkx.bk))
 go_enter Tryz.func67, Tryz.ntmps67
 go_upto_region 1 with (fail)
 rw [Hw1.out, Hg.out]
 clear Hw1
 refine wp_region_till (S := fun L W => Cq2 W gc g A a n fa fn fc) (by kernel_rfl) K0 (fun hS => ?_)
 clear K0
 refine tkg (i := 0) (v := .pointer (some ⟨gc, 0, none⟩)) rfl hS (fun hSb => ?_)
 simp only [pA,pB,pC,Act.put,pD,pE,pF]
 clear hS
 refine tkg (i := 1) (v := .pointer (some ⟨gc, 0, none⟩)) rfl hSb (fun hS => ?_)
 simp only [pA,pB,pC,Act.put,pD,pE,pF]
 clear hSb
 refine tkg (i := 2) (v := .pointer (some ⟨gc, 0, none⟩)) rfl hS (fun hSb => ?_)
 simp only [pA,pB,pC,Act.put,pD,pE,pF]
 clear hS
 refine trx (i := 3) (c := 6) (v := .slice a n n) rfl rfl (Or.inl ⟨by rfl, fun w h => by have q9 := h.c0; go_simp⟩) hSb (fun hS => ?_)
 simp only [pA,pB,pC,Act.put,pD,pE,pF]
 clear hSb
 refine tkg (i := 4) (v := .pointer (some ⟨g, 4, none⟩)) rfl hS (fun hSb => ?_)
 simp only [pA,pB,pC,Act.put,pD,pE,pF]
 clear hS
 refine trx (i := 5) (c := 6) (v := .string x.cm.bu) rfl rfl (Or.inl ⟨by rfl, fun w h => by have q9 := cell_arr h.x A4.out; go_simp⟩) hSb (fun hS => ?_)
 simp only [pA,pB,pC,Act.put,pD,pE,pF]
 clear hSb
 refine till_one (i := 6) (by kernel_rfl) rfl (fun K hK => ?_)
 simp only [pA,pB,pC]
 rw [if_pos (by rfl)]
 go_simp
 go_wp2_with (go_at_call 49; refine (findB x.cm.bu AD hnK).mono ?_; rintro e w2 ⟨rfl, H2⟩; rw [Hp.out, HIS.out])
 refine hK.out _ _ (hS.below H2.out) (fun hSb => ?_)
 clear hK K
 try simp only [pA,pB,pC,Act.put,pD,pE,pF]
 clear hS
 refine tkg (i := 7) (v := .tuple #[.int .i64 (p : Int), .bool is]) rfl hSb (fun hS => ?_)
 simp only [pA,pB,pC,Act.put,pD,pE,pF]
 clear hSb
 refine tkg (i := 8) (v := .int .i64 (p : Int)) rfl hS (fun hSb => ?_)
 simp only [pA,pB,pC,Act.put,pD,pE,pF]
 clear hS
 refine tkg (i := 9) (v := .bool is) rfl hSb (fun hS => ?_)
 simp only [pA,pB,pC,Act.put,pD,pE,pF]
 clear hSb
 refine till_one (i := 10) (by kernel_rfl) rfl (fun K hK => ?_)
 simp only [pA,pB,pC]
 rw [if_pos (by rfl)]
 go_simp
 refine hK.out _ _ (hS) (fun hSb => ?_)
 clear hK K
 try simp only [pA,pB,pC,Act.put,pD,pE,pF]
 clear hS
 refine till_one (i := 11) (by kernel_rfl) rfl (fun K hK => ?_)
 simp only [pA,pB,pC]
 rw [if_pos (by rfl)]
 go_simp
 refine hK.out _ _ (hSb) (fun hS => ?_)
 clear hK K
 try simp only [pA,pB,pC,Act.put,pD,pE,pF]
 clear hSb
 have S3 := hS
 refine till_done (by kernel_rfl) ?_ _
 clear hS
 show (Exit.then _ _) .normal _ _
 have S3h : Hid (Cq2 w2 gc g A a n fa fn fc) := S3
 clear S3
 have B2 : Hid (Below w.heap.size w w2) := (B1.out.drew).trans (H2.out.mono B1.out.size)
 have kr2 := sh H2 kr
 clear H2 AD kr kx B1
 rcases is with _ | _
 . have IB : Hid (inB ⟨X.map Bkx.bk, F⟩ x.cm f = (⟨X.map Bkx.bk, F⟩, noO 1)) := by show _ = _; unfold inB; simp only; rw [HIS.out]; rfl
   obtain ⟨R, HR⟩ := nm ((#[.int .i64 1,.string ⟨#[]⟩] : Array Value))
   have a5' : (Tryz.prog.info? 51).map (·.size) = some R.size := by rw [<- HR.out]; exact outZ
   have AA : Hid (R.all (·.oneCell') = true) := (show R.all (·.oneCell') = true by rw [<- HR.out]; kernel_rfl)
   have a6' : Hid (R.size = 2) := (show R.size = 2 by rw [<- HR.out]; rfl)
   go_wp2_with (first
    | (go_at_call 78; refine (refused_n 1 _).mono ?_; rintro e w7 ⟨rfl, H7⟩; rw [HR.out]; have r7 := sh H7 kr2)
    | (refine wpList_store_row (by rfl) 51 (.tmp 6) (.tmp 21) (by rfl) (g + 1) R (by rfl) (by rfl) 51 _ r7.out a5' (by rw [a6'.out]; rfl) AA.out ?_))
   refine bodyPost_ret (results_cell_row Tryz.results67 _ _ (g + 1) 51 R (0, 0) _ (by rfl) (setRow_heap _ _ _ _ _ _ r7.out) Tryz.underlying51 rfl a5') rfl ?_
   refine ⟨R, rfl, ?_⟩
   rw [IB.out]
   have B7 : Below w.heap.size w w7 := B2.out.trans (H7.out.mono B2.out.size)
   have hg1 : w.heap.size <= g + 1 := by have := Hg.out; omega
   have B8 : Below w.heap.size w (w7.setRow (g + 1) R) := below_setRow B7 hg1 _
   exact ⟨HR.out.symm, a, n, n, X, fa, fn, fc, F, (B8.block gc (gl hk.out)).trans hk.out, ((hC.out.ct.below B8).up (Nat.le_succ K)).full, rfl, rfl, B8.mono hlo, K51.below B8⟩
 . have pl : p < n := by rw [<- Hp.out, LX.out]; rw [<- List.length_map (f := Bkx.bk)]; exact isB_lt HIS.out
   have i1 : (p : Int) < (n : Int) := by omega
   obtain ⟨b, rfl, _, _, _⟩ := hC.out.b.at_ (i := p) (by rw [<- LX.out]; exact pl)
   obtain ⟨y, EY⟩ : ∃ y, Hid (X[p]? = some y) := ⟨X[p]'(by rw [<- LX.out]; exact pl), List.getElem?_eq_getElem _⟩
   have IB : Hid (inB ⟨X.map Bkx.bk, F⟩ x.cm f = (⟨(X.map Bkx.bk).set p (f y.bk x.cm).1, F⟩, (f y.bk x.cm).2)) := by show _ = _; unfold inB; simp only; rw [HIS.out, if_pos rfl, Hp.out, List.getElem?_map, EY.out]; rfl
   go_upto_region 4 with (fail)
   obtain ⟨wd, Hwd⟩ := nm (w2.drew)
   have BD : Hid (Below w.heap.size w wd) := by rw [<- Hwd.out]; exact B2.out.drew
   have CC : Hid (CtC K wd lo hi (some ⟨b, 0, none⟩) n X fa fn fc F) := hC.out.below BD.out
   have SD : Hid (Bs K wd lo hi b n X p y) := ⟨CC.out.b, EY.out, CC.out.bb y (List.mem_of_getElem? EY.out)⟩
   have KD : Hid (Cq2 wd gc g A (some ⟨b, 0, none⟩) n fa fn fc) := by rw [<- Hwd.out]; exact ⟨S3h.out.k, S3h.out.x⟩
   have KRD : Hid (wd.heap[g + 1]? = some (.cells #[.int .i64 0,.string ⟨#[]⟩] 51 (0, 0))) := by rw [<- Hwd.out]; exact kr2.out
   refine wp_region_till (S := tillP 8 (fun W => Cq2 W gc g A (some ⟨b, 0, none⟩) n fa fn fc)) (by kernel_rfl) (.inr (by rw [Hwd.out]; exact KD.out)) (fun hS => ?_)
   rw [Hwd.out] at hS ⊢
   clear Hwd
   refine tkp (i := 0) (v := .func (.func 101) #[] #[.pointer (some ⟨gd, 0, none⟩)]) rfl hS (fun hSb => ?_)
   simp only [pA,pB,pC,Act.put,pD,pE,pF]
   clear hS
   refine tkp (i := 1) (v := .pointer (some ⟨gc, 0, none⟩)) rfl hSb (fun hS => ?_)
   simp only [pA,pB,pC,Act.put,pD,pE,pF]
   clear hSb
   refine tkp (i := 2) (v := .pointer (some ⟨gc, 0, none⟩)) rfl hS (fun hSb => ?_)
   simp only [pA,pB,pC,Act.put,pD,pE,pF]
   clear hS
   refine tkp (i := 3) (v := .pointer (some ⟨gc, 0, none⟩)) rfl hSb (fun hS => ?_)
   simp only [pA,pB,pC,Act.put,pD,pE,pF]
   clear hSb
   refine till_readc (i := 4) (cs := [6, 8]) (v := .slice (some ⟨b, 0, none⟩) n n) (T := fun W => Cq2 W gc g A (some ⟨b, 0, none⟩) n fa fn fc) rfl (by kernel_rfl) (by kernel_rfl) (by kernel_rfl) (by kernel_rfl) (by kernel_rfl) (fun _ _ _ h => h) (fun L w => tillP_set (by decide)) (fun L w h1 h2 => tillP_out (h1 8 (by simp)) h2) (Or.inl ⟨by rfl, fun w h => by have q9 := h.c0; go_simp⟩) hS (fun hSb => ?_)
   simp only [pA,pB,pC,Act.put,pD,pE,pF]
   clear hS
   refine tkp (i := 5) (v := .int .i64 (p : Int)) rfl hSb (fun hS => ?_)
   simp only [pA,pB,pC,Act.put,pD,pE,pF]
   clear hSb
   refine tkp (i := 6) (v := .pointer (some ⟨b, p * 5, none⟩)) rfl hS (fun hSb => ?_)
   simp only [pA,pB,pC,Act.put,pD,pE,pF]
   clear hS
   refine trd (i := 7) (c := 8) (v := .agg A) (T := fun W => Cq2 W gc g A (some ⟨b, 0, none⟩) n fa fn fc) rfl rfl (fun L w => tillP_set (by decide)) (fun L w h1 h2 => tillP_out h1 h2) (yl_any (by rfl) (by rfl) (by rfl) (fun W h => run_loadVar_row W g 29 29 A (0, 0) _ h.x Tryz.underlying29 rfl (info29 a18))) hSb (fun hS => ?_)
   simp only [pA,pB,pC,Act.put,pD,pE,pF]
   clear hSb
   refine till_one (i := 8) (by kernel_rfl) rfl (fun K hK => ?_)
   simp only [pA,pB,pC]
   rw [if_pos (by rfl)]
   go_simp
   go_wp2_with (go_at_call 101; refine (HDO.out wd b p y SD BD.out).mono ?_; rintro e w5 ⟨R, rfl, H5⟩)
   refine hK.out _ _ (Or.inl (by kernel_rfl)) (fun hSb => ?_)
   clear hK K
   try simp only [pA,pB,pC,Act.put,pD,pE,pF]
   clear hS
   refine till_one (i := 9) (by kernel_rfl) rfl (fun K hK => ?_)
   simp only [pA,pB,pC]
   rw [if_pos (by rfl)]
   obtain ⟨kr5, r5, r6, RA⟩ := box_of CC.out EY.out KD.out.k KRD.out H5.out
   refine wp_store_row 51 (.tmp 6) (.tmp 30) (by rfl) (g + 1) R (by rfl) (by rfl) 51 _ kr5 r5 (by rw [r6]; rfl) RA ?_
   refine hK.out _ _ (Or.inl (by kernel_rfl)) (fun hS => ?_)
   clear hK K
   try simp only [pA,pB,pC,Act.put,pD,pE,pF]
   clear hSb
   refine till_done (by kernel_rfl) ?_ _
   clear hS
   show (Exit.then _ _) .normal _ _
   go_wp2
   refine bodyPost_ret (results_cell_row Tryz.results67 _ _ (g + 1) 51 R (0, 0) _ (by rfl) (setRow_heap _ _ _ _ _ _ kr5) Tryz.underlying51 rfl r5) rfl ?_
   refine ⟨R, rfl, ?_⟩
   rw [IB.out]
   obtain ⟨X', k1, k2, k3, k4, k51⟩ := do_cat CC.out EY.out KD.out.k H5.out
   have ng : ∀ q, q < w5.heap.size -> q ≠ g + 1 -> (w5.setRow (g + 1) R).heap[q]? = w5.heap[q]? := fun q hq hn => setRow_other _ _ _ _ hn
   have hg1 : lo <= g + 1 := by have := Hg.out; omega
   refine ⟨H5.out.1, _, n, n, X', fa, fn, fc, F, (ng gc (gl k1) (fun e => ?_)).trans k1, (k2.off ng kr5).full, k3, rfl, below_setRow ((BD.out.mono hlo).trans k4) hg1 _, fun q cs h => (setRow_other _ _ _ _ (fun e2 => by have h2 := (gl h); have h3 := Hg.out; omega)).trans (k51 q cs (K51.below BD.out q cs h))⟩
   rw [e, kr5] at k1
   simp at k1
end Go.Proofs.YtfabnnbljkkihaaGreatDoor
