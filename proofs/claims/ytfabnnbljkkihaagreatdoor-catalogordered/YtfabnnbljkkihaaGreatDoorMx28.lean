import Derived.Test.YtfabnnbljkkihaaGreatDoorMxp
import Derived.Test.YtfabnnbljkkihaaGreatDoorMx19
import Derived.Test.YtfabnnbljkkihaaGreatDoorMx23
import Derived.Test.YtfabnnbljkkihaaGreatDoorMx27
namespace Go.Proofs.YtfabnnbljkkihaaGreatDoor
open Go.ChangeShapes Go.WideShapes Go.ChangeAt Go.RowKit
set_option maxRecDepth 20000
set_option linter.unusedVariables false
set_option linter.unusedSimpArgs false
def comG (b : Bkd) (x : Cm) (u : Uld) : Bkd × Outc :=
 match pcsO u.pts x.ps with
 | none => (b, noO 6)
 | some l => if roomO b x.ke then ({ b with uls := outB (byU x.u0 x.u1 x.u2) b.uls, obs := setB (byK x.ke) b.obs (obO x (sumO l) l) }, ⟨0, sumO l⟩) else (b, noO 7)
theorem comO_eq : comO sumO = fun b x => upO b x (comG b x) := by
 funext b x
 unfold comO upO comG
 cases upB b x <;> rfl
theorem sumO_size (l : List Pcd) (h : l.length <= 16) : (sumO l).size <= K48 := by
 have h1 := Sh.itS_size (l.length : Int) (by omega) (by omega)
 have h2 : (Sh.spell (Sh.hexL (Sh.Gs.sum (sumL l)))).size = 64 := by rw [Sh.spell_size, Sh.hexL_length, Sh.sum_length]
 unfold sumO K48
 rw [ByteArray.size_append, ByteArray.size_append, h2]
 have h3 : (ByteArray.mk #[45]).size = 1 := rfl
 omega
def nwP (x : Cm) (et : ByteArray) (l : List Pcd) (ra : Option Addr) (rn rc : Nat) : Obx := ⟨obO x et l, ra, rn, rc⟩
structure Cu (W : World) (g u j : Nat) (A : Array Value) (v : Ulx) : Prop where
 x : W.heap[g]? = some (.cells A 29 (0, 0))
 p : W.cell? ⟨u, j * 5 + 4, none⟩ = some (.slice v.a v.n v.c)
 l : u < W.heap.size
theorem Cu.below {W W' : World} {g u j : Nat} {A : Array Value} {v : Ulx} (h : Cu W g u j A v) (hb : Below W.heap.size W W') : Cu W' g u j A v := ⟨(hb.block _ (gl h.x)).trans h.x, (World.cell?_of_block (w := W) (a := ⟨u, j * 5 + 4, none⟩) (hb.block u h.l)).trans h.p, Nat.lt_of_lt_of_le h.l hb.size⟩
theorem do_objs2 {K : Nat} {W W2 : World} {lo hi h1 h2 b n : Nat} {X : List Bkx} {i : Nat} {y : Bkx} {a' : Option Addr} {n' c' : Nat} {Y : List Obx} (hr : Rw W lo hi 65 EBk (some ⟨b, 0, none⟩) n n X) (hx : X[i]? = some y) (hb : BkO K W lo h1 y) (hc : Ch W W2 (fun q => blkOf y.oa = some q)) (RN : Rw W2 lo h2 71 EOb a' n' c' Y) (OY : ∀ o ∈ Y, ObO K W2 lo h2 o) (hn' : n' <= K) (hh : h1 <= h2) :
  Rw (W2.setCell ⟨b, i * 5 + 3, none⟩ (.slice a' n' c')) lo hi 65 EBk (some ⟨b, 0, none⟩) n n (X.set i { y with oa := a', on := n', oc := c', ox := Y }) /\ BkO K (W2.setCell ⟨b, i * 5 + 3, none⟩ (.slice a' n' c')) lo h2 { y with oa := a', on := n', oc := c', ox := Y } /\ Ch W (W2.setCell ⟨b, i * 5 + 3, none⟩ (.slice a' n' c')) (fun q => q = b ∨ blkOf y.oa = some q) := by
 have r1 : Rw W2 lo hi 65 EBk (some ⟨b, 0, none⟩) n n X := hr.keep1 (fun q e => hc.block q (hr.lt e).2 (fun e2 => hr.apart hb.o (by decide) e e2))
 have r3 : Rw W2 lo h1 77 EUl y.ua y.un y.uc y.ux := hb.u.keep1 (fun q e => hc.block q (hb.u.lt e).2 (fun e2 => hb.u.apart hb.o (by decide) e e2))
 have r4 : ∀ u ∈ y.ux, UlO K W2 lo h1 u := fun u hu => ⟨(hb.uu u hu).r.keep1 (fun q e => hc.block q ((hb.uu u hu).r.lt e).2 (fun e2 => (hb.uu u hu).r.apart hb.o (by decide) e e2)), (hb.uu u hu).p, (hb.uu u hu).k, (hb.uu u hu).s⟩
 obtain ⟨cur, hcur, _⟩ := r1.blk (q := b) rfl
 have ho : ∀ q, q < W2.heap.size -> q ≠ b -> (W2.setCell ⟨b, i * 5 + 3, none⟩ (.slice a' n' c')).heap[q]? = W2.heap[q]? := fun q _ hq => Below.heap_setCell _ _ _ _ hq
 refine ⟨r1.setC hx (by decide) rfl, ?_, ?_⟩
 . have bo : BkO K W2 lo h2 { y with oa := a', on := n', oc := c', ox := Y } := ⟨RN, OY, r3.mono (Nat.le_refl _) hh, fun u hu => (r4 u hu).mono (Nat.le_refl _) hh, ⟨hn', hb.k.2⟩, hb.s⟩
   exact bo.off ho hcur (by decide)
 . exact (hc.weak (fun q _ e => .inr e)).trans ((Ch.set W2 b _ _).weak (fun q _ e => .inl e))
set_option maxHeartbeats 32000000 in
theorem completeUpload_n {K : Nat} (hK : K + 1 <= 1048576) {w : World} {A : Array Value} {x : Cx} {lo hi b n u : Nat} {X : List Bkx} {i j : Nat} {y : Bkx} {v : Ulx} (hX : Hid (A = (encX x).toArray)) (hT : x.cm.ke.size <= K48) (hlo : lo <= w.heap.size) (hhi : hi <= w.heap.size) (hB : Hid (Bs K w lo hi b n X i y)) (EV : Hid (y.ux[j]? = some v)) (EA : Hid (y.ua = some ⟨u, 0, none⟩)) (hI : Hid (Irow w 0 x.pa x.pn x.cm.ps)) (hps : x.cm.ps.length <= 16) (hp1 : Hid (x.cm.ps.length <= K + 1)) (hE : Hid (∀ p ∈ v.ul.pts, p.pc.et.size <= 140737488352256)) (hKs : Hid (Sh.Kst w)) (h0 : Hid (20 < w.heap.size)) (hTb : Hid (Sh.Tab w)) :
  Calls Tryz.prog 73 #[.pointer (some ⟨b, i * 5, none⟩), .pointer (some ⟨u, j * 5, none⟩), .agg A] w fun e w' => ∃ R, e = .returned (.agg R) /\ Hid (DoR K w w' lo hi b n X i y (comG y.bk x.cm v.ul) R) := by
 have a18 : A.size = 18 := encX_sz hX.out
 obtain ⟨w1, Hw1⟩ := nm ((w.alloc (.cells A 29)).alloc (.cells #[.int .i64 0,.string ⟨#[]⟩] 51))
 obtain ⟨g, Hg⟩ := nm (w.heap.size)
 have B1 : Hid (Below w.heap.size w w1) := by rw [<- Hw1.out]; exact alloc2 w _ _
 have kx : Hid (w1.heap[g]? = some (.cells A 29 (0, 0))) := by
  rw [<- Hw1.out, <- Hg.out]
  exact ((alloc1 (w.alloc (.cells A 29)) _).block w.heap.size (by simp)).trans (heap_alloc_new w _)
 have kr : Hid (w1.heap[g + 1]? = some (.cells #[.int .i64 0,.string ⟨#[]⟩] 51 (0, 0))) := by
  rw [<- Hw1.out, <- Hg.out]
  have e : (w.alloc (.cells A 29)).heap.size = w.heap.size + 1 := by simp
  rw [<- e]
  exact heap_alloc_new _ _
 have S1 : Hid (Bs K w1 lo hi b n X i y) := hB.out.below B1.out
 go_enter Tryz.func73, Tryz.ntmps73
 go_upto_region 1 with (fail)
 rw [Hw1.out, Hg.out]
 clear Hw1
 have A5 : Hid (A[5]? = some (.string x.cm.ke)) := by rw [hX.out]; rfl
 have A6 : Hid (A[6]? = some (.int .i64 x.cm.u0)) := by rw [hX.out]; rfl
 have A7 : Hid (A[7]? = some (.int .i64 x.cm.u1)) := by rw [hX.out]; rfl
 have A8 : Hid (A[8]? = some (.int .i64 x.cm.u2)) := by rw [hX.out]; rfl
 have A15 : Hid (A[15]? = some (.slice x.pa x.pn x.pc)) := by rw [hX.out]; rfl
 have hK' : K <= 1048576 := by omega
 have LPS : Hid (x.pn = x.cm.ps.length) := hI.out.len
 have hpn : x.pn <= 1000 := by have := LPS.out; omega
 obtain ⟨w0, Hw0⟩ := nm (w1.drew)
 have B0 : Hid (Below w.heap.size w w0) := by rw [<- Hw0.out]; exact B1.out.drew
 have UM : Hid (v ∈ y.ux) := List.mem_of_getElem? EV.out
 have VO : Hid (UlO K w0 lo hi v) := (hB.out.c.b.uu v UM.out).keep (fun q _ _ hq => B0.out.block q hq)
 have VP : Hid (Rw w0 lo hi 108 EPt v.a v.n v.c v.ul.pts) := VO.out.r
 have hvK : v.n <= 1048576 := Nat.le_trans VO.out.k hK'
 have IP : Hid (Irow w0 0 x.pa x.pn x.cm.ps) := hI.out.below B0.out
 have CU : Hid (Cu w0 g u j A v) := by
  have hu := hB.out.c.b.u
  rw [EA.out] at hu
  obtain ⟨hj, ej⟩ := List.getElem?_eq_some_iff.1 EV.out
  obtain ⟨q, eq, _, lq, hr⟩ := hu.at_ hj
  cases eq
  rw [ej] at hr
  refine ⟨by rw [<- Hw0.out]; exact kx.out, ?_, Nat.lt_of_lt_of_le lq B0.out.size⟩
  exact (World.cell?_of_block (w := w) (a := ⟨u, j * 5 + 4, none⟩) (B0.out.block u lq)).trans (hr 4 _ rfl)
 obtain ⟨oo, HO⟩ := nm (pcsO v.ul.pts x.cm.ps)
 refine wp_region_till (S := fun L W => Cu W g u j A v) (by kernel_rfl) (by rw [Hw0.out]; exact CU.out) (fun hS => ?_)
 rw [Hw0.out] at hS ⊢
 refine tkg (i := 0) (v := .pointer (some ⟨u, j * 5, none⟩)) rfl hS (fun hSb => ?_)
 simp only [pA,pB,pC,Act.put,pD,pE,pF]
 clear hS
 refine tkg (i := 1) (v := .pointer (some ⟨u, j * 5, none⟩)) rfl hSb (fun hS => ?_)
 simp only [pA,pB,pC,Act.put,pD,pE,pF]
 clear hSb
 refine tkg (i := 2) (v := .pointer (some ⟨u, j * 5 + 4, none⟩)) rfl hS (fun hSb => ?_)
 simp only [pA,pB,pC,Act.put,pD,pE,pF]
 clear hS
 refine trx (i := 3) (c := 6) (v := .slice v.a v.n v.c) rfl rfl (Or.inl ⟨by rfl, fun w h => by have q9 := h.p; go_simp⟩) hSb (fun hS => ?_)
 simp only [pA,pB,pC,Act.put,pD,pE,pF]
 clear hSb
 refine tkg (i := 4) (v := .pointer (some ⟨g, 15, none⟩)) rfl hS (fun hSb => ?_)
 simp only [pA,pB,pC,Act.put,pD,pE,pF]
 clear hS
 refine trx (i := 5) (c := 6) (v := .slice x.pa x.pn x.pc) rfl rfl (Or.inl ⟨by rfl, fun w h => by have q9 := cell_arr h.x A15.out; go_simp⟩) hSb (fun hS => ?_)
 simp only [pA,pB,pC,Act.put,pD,pE,pF]
 clear hSb
 refine till_one (i := 6) (by kernel_rfl) rfl (fun K hK => ?_)
 simp only [pA,pB,pC]
 rw [if_pos (by rfl)]
 go_simp
 go_wp2_with (go_at_call 104; refine (piecesOf_n VP hvK IP hpn).mono ?_; rintro e w2 ⟨ra, rn, rc, rfl, H2⟩; rw [HO.out])
 refine hK.out _ _ (hS.below H2.out.2) (fun hSb => ?_)
 clear hK K
 try simp only [pA,pB,pC,Act.put,pD,pE,pF]
 clear hS
 refine tkg (i := 7) (v := .tuple #[.slice ra rn rc, .bool oo.isSome]) rfl hSb (fun hS => ?_)
 simp only [pA,pB,pC,Act.put,pD,pE,pF]
 clear hSb
 refine tkg (i := 8) (v := .slice ra rn rc) rfl hS (fun hSb => ?_)
 simp only [pA,pB,pC,Act.put,pD,pE,pF]
 clear hS
 refine tkg (i := 9) (v := .bool oo.isSome) rfl hSb (fun hS => ?_)
 simp only [pA,pB,pC,Act.put,pD,pE,pF]
 clear hSb
 refine till_one (i := 10) (by kernel_rfl) rfl (fun K hK => ?_)
 simp only [pA,pB,pC]
 rw [if_pos (by rfl)]
 go_simp
 refine hK.out _ _ (hS) (fun hSb => ?_)
 clear hK K
 try simp only [pA,pB,pC,Act.put,pD,pE,pF]
 clear hS
 refine till_one (i := 11) (by kernel_rfl) rfl (fun K hK => ?_)
 simp only [pA,pB,pC]
 rw [if_pos (by rfl)]
 go_simp
 refine hK.out _ _ (hSb) (fun hS => ?_)
 clear hK K
 try simp only [pA,pB,pC,Act.put,pD,pE,pF]
 clear hSb
 refine till_done (by kernel_rfl) ?_ _
 clear hS
 show (Exit.then _ _) .normal _ _
 have B2 : Hid (Below w.heap.size w w2) := B0.out.trans (H2.out.2.mono B0.out.size)
 have S2 : Hid (Bs K w2 lo hi b n X i y) := hB.out.below B2.out
 have kr2 : Hid (w2.heap[g + 1]? = some (.cells #[.int .i64 0,.string ⟨#[]⟩] 51 (0, 0))) := (H2.out.2.block (g + 1) (by rw [<- Hw0.out]; exact (gl kr.out))).trans (by rw [<- Hw0.out]; exact kr.out)
 have kx2 : Hid (w2.heap[g]? = some (.cells A 29 (0, 0))) := (H2.out.2.block g (gl CU.out.x)).trans CU.out.x
 have PR : Hid (∀ l, oo = some l -> Rw w2 w0.heap.size w2.heap.size 26 EPc ra rn rc l) := fun l h => H2.out.1 l (by rw [HO.out]; exact h)
 have z0 : Hid (w.heap.size <= w0.heap.size) := B0.out.size
 clear H2 CU Hw0 kx kr B1 S1 VP IP
 rcases oo with _ | l
 . have IB : Hid (comG y.bk x.cm v.ul = (y.bk, noO 6)) := by show _ = _; unfold comG; rw [HO.out]
   obtain ⟨R, HR⟩ := nm ((#[.int .i64 6,.string ⟨#[]⟩] : Array Value))
   have a5' : (Tryz.prog.info? 51).map (·.size) = some R.size := by rw [<- HR.out]; exact outZ
   have AA : Hid (R.all (·.oneCell') = true) := (show R.all (·.oneCell') = true by rw [<- HR.out]; kernel_rfl)
   have a6' : Hid (R.size = 2) := (show R.size = 2 by rw [<- HR.out]; rfl)
   go_wp2_with (first
    | (go_at_call 78; refine (refused_n 6 _).mono ?_; rintro e w7 ⟨rfl, H7⟩; rw [HR.out]; have r7 := sh H7 kr2)
    | (refine wpList_store_row (by rfl) 51 (.tmp 6) (.tmp 22) (by rfl) (g + 1) R (by rfl) (by rfl) 51 _ r7.out a5' (by rw [a6'.out]; rfl) AA.out ?_))
   refine bodyPost_ret (results_cell_row Tryz.results73 _ _ (g + 1) 51 R (0, 0) _ (by rfl) (setRow_heap _ _ _ _ _ _ r7.out) Tryz.underlying51 rfl a5') rfl ?_
   refine ⟨R, rfl, ?_⟩
   rw [IB.out]
   exact do_same (g := g + 1) HR.out.symm rfl S2.out B2.out H7.out kr2.out (by have := Hg.out; omega)
 . have P2 : Hid (Rw w2 lo w2.heap.size 26 EPc ra rn rc l) := (PR.out l rfl).mono (Nat.le_trans hlo z0.out) (Nat.le_refl _)
   have LL : Hid (l.length = x.cm.ps.length) := pcsO_len HO.out
   have rnl : Hid (rn = l.length) := P2.out.len
   have hr16 : rn <= 16 := by have := LL.out; have := rnl.out; omega
   have EL : Hid (∀ p ∈ l, p.et.size <= 140737488352256) := fun p hp => by obtain ⟨q, hq, rfl⟩ := pcsO_mem HO.out p hp; exact hE.out q hq
   have PL : Hid (∀ p ∈ l, PcO p) := fun p hp => by obtain ⟨q, hq, rfl⟩ := pcsO_mem HO.out p hp; exact VO.out.p q hq
   have q1 : w2.cell? ⟨g, 5, none⟩ = some (.string x.cm.ke) := cell_arr kx2.out A5.out
   obtain ⟨rm, HRM⟩ := nm (roomO y.bk x.cm.ke)
   rcases rm with _ | _
   . have IB : Hid (comG y.bk x.cm v.ul = (y.bk, noO 7)) := by show _ = _; unfold comG; rw [HO.out]; simp only; rw [HRM.out, if_neg (by decide)]
     go_upto_region 5 with (go_at_call 95; refine (hasRoom_n hK' x.cm.ke S2).mono ?_; rintro e w3 ⟨rfl, H3⟩; rw [HRM.out])
     clear q1
     have kr3 := sh H3 kr2
     have S3 : Hid (Bs K w3 lo hi b n X i y) := S2.out.below H3.out
     have B3 := bt B2 H3
     obtain ⟨R, HR⟩ := nm ((#[.int .i64 7,.string ⟨#[]⟩] : Array Value))
     have a5' : (Tryz.prog.info? 51).map (·.size) = some R.size := by rw [<- HR.out]; exact outZ
     have AA : Hid (R.all (·.oneCell') = true) := (show R.all (·.oneCell') = true by rw [<- HR.out]; kernel_rfl)
     have a6' : Hid (R.size = 2) := (show R.size = 2 by rw [<- HR.out]; rfl)
     go_wp2_with (first
      | (go_at_call 78; refine (refused_n 7 _).mono ?_; rintro e w7 ⟨rfl, H7⟩; rw [HR.out]; have r7 := sh H7 kr3)
      | (refine wpList_store_row (by rfl) 51 (.tmp 6) (.tmp 28) (by rfl) (g + 1) R (by rfl) (by rfl) 51 _ r7.out a5' (by rw [a6'.out]; rfl) AA.out ?_))
     refine bodyPost_ret (results_cell_row Tryz.results73 _ _ (g + 1) 51 R (0, 0) _ (by rfl) (setRow_heap _ _ _ _ _ _ r7.out) Tryz.underlying51 rfl a5') rfl ?_
     refine ⟨R, rfl, ?_⟩
     rw [IB.out]
     exact do_same (g := g + 1) HR.out.symm rfl S3.out B3.out H7.out kr3.out (by have := Hg.out; omega)
   . obtain ⟨et, Het⟩ := nm (sumO l)
     have IB : Hid (comG y.bk x.cm v.ul = ({ y.bk with uls := outB (byU x.cm.u0 x.cm.u1 x.cm.u2) y.bk.uls, obs := setB (byK x.cm.ke) y.bk.obs (obO x.cm et l) }, ⟨0, et⟩)) := by show _ = _; unfold comG; rw [HO.out]; simp only; rw [HRM.out, if_pos rfl, Het.out]
     go_upto_region 6 with (go_at_call 95; refine (hasRoom_n hK' x.cm.ke S2).mono ?_; rintro e w3 ⟨rfl, H3⟩; rw [HRM.out])
     clear q1
     have B3 := bt B2 H3
     have P3 : Hid (Rw w3 lo w3.heap.size 26 EPc ra rn rc l) := (P2.out.below H3.out).full
     have K3 : Hid (Sh.Kst w3) := hKs.out.below B3.out (by have := h0.out; omega)
     have z3 : Hid (20 < w3.heap.size) := Nat.lt_of_lt_of_le h0.out B3.out.size
     have T3 : Hid (Sh.Tab w3) := hTb.out.below B3.out
     go_upto_region 7 with (go_at_call 105; refine (sum_n P3 hr16 EL K3 z3 T3).mono ?_; rintro e w4 ⟨rfl, H4⟩; rw [Het.out])
     have B4 := bt B3 H4
     have B24 := bt H3 H4
     obtain ⟨wd, Hwd⟩ := nm (w4.drew)
     obtain ⟨K0, HK0⟩ := nm (K)
     have BD : Hid (Below w.heap.size w wd) := by rw [<- Hwd.out]; exact B4.out.drew
     have B2D : Hid (Below w2.heap.size w2 wd) := by rw [<- Hwd.out]; exact B24.out.drew
     have SD : Hid (Bs K0 wd lo hi b n X i y /\ wd.heap[g]? = some (.cells A 29 (0, 0))) := by rw [<- HK0.out]; exact ⟨S2.out.below B2D.out, (B2D.out.block g (gl kx2.out)).trans kx2.out⟩
     have KRD := sh B2D kr2
     have PWD : Hid (Rw wd lo w2.heap.size 26 EPc ra rn rc l) := P2.out.below B2D.out
     have UC : Hid (y.uc = y.un) := SD.out.1.c.c.2
     have OC : Hid (y.oc = y.on) := SD.out.1.c.c.1
     have UW : Hid (Rw wd lo hi 77 EUl y.ua y.un y.un y.ux) := by have h := SD.out.1.c.b.u; rw [UC.out] at h; exact h
     have hoU : y.un <= 1048576 := by have := SD.out.1.c.b.k.2; have := HK0.out; omega
     have hoK : y.on + 1 <= 1048576 := by have := SD.out.1.c.b.k.1; have := HK0.out; omega
     refine wp_region_till (S := tillP 7 (fun W => Bs K0 W lo hi b n X i y /\ W.heap[g]? = some (.cells A 29 (0, 0)))) (by kernel_rfl) (.inr (by rw [Hwd.out]; exact SD.out)) (fun hS => ?_)
     rw [Hwd.out] at hS ⊢
     clear Hwd
     refine tkp (i := 0) (v := .pointer (some ⟨b, i * 5, none⟩)) rfl hS (fun hSb => ?_)
     simp only [pA,pB,pC,Act.put,pD,pE,pF]
     clear hS
     refine tkp (i := 1) (v := .pointer (some ⟨b, i * 5, none⟩)) rfl hSb (fun hS => ?_)
     simp only [pA,pB,pC,Act.put,pD,pE,pF]
     clear hSb
     refine tkp (i := 2) (v := .pointer (some ⟨b, i * 5, none⟩)) rfl hS (fun hSb => ?_)
     simp only [pA,pB,pC,Act.put,pD,pE,pF]
     clear hS
     refine tkp (i := 3) (v := .pointer (some ⟨b, i * 5 + 4, none⟩)) rfl hSb (fun hS => ?_)
     simp only [pA,pB,pC,Act.put,pD,pE,pF]
     clear hSb
     refine trd (i := 4) (c := 7) (v := .slice y.ua y.un y.uc) (T := fun W => Bs K0 W lo hi b n X i y /\ W.heap[g]? = some (.cells A 29 (0, 0))) rfl rfl (fun L w => tillP_set (by decide)) (fun L w h1 h2 => tillP_out h1 h2) (Or.inl ⟨by rfl, fun w h => by have q9 := h.1.c4; go_simp⟩) hS (fun hSb => ?_)
     simp only [pA,pB,pC,Act.put,pD,pE,pF]
     clear hS
     refine tkp (i := 5) (v := .pointer (some ⟨g, 6, none⟩)) rfl hSb (fun hS => ?_)
     simp only [pA,pB,pC,Act.put,pD,pE,pF]
     clear hSb
     refine trd (i := 6) (c := 7) (v := .agg #[.int .i64 x.cm.u0,.int .i64 x.cm.u1,.int .i64 x.cm.u2]) (T := fun W => Bs K0 W lo hi b n X i y /\ W.heap[g]? = some (.cells A 29 (0, 0))) rfl rfl (fun L w => tillP_set (by decide)) (fun L w h1 h2 => tillP_out h1 h2) (Or.inl ⟨by rfl, fun w h => by have q1 := cell_arr h.2 A6.out; have q2 := cell_arr h.2 A7.out; have q3 := cell_arr h.2 A8.out; go_simp⟩) hS (fun hSb => ?_)
     simp only [pA,pB,pC,Act.put,pD,pE,pF]
     clear hS
     refine till_one (i := 7) (by kernel_rfl) rfl (fun K hK => ?_)
     simp only [pA,pB,pC]
     rw [if_pos (by rfl)]
     go_simp
     rw [UC.out]
     go_wp2_with (go_at_call 106; refine (out_U x.cm.u0 x.cm.u1 x.cm.u2 UW hoU).mono ?_; rintro e w5 ⟨n5, rfl, H5⟩)
     have S5 := (SD.out.1.upl H5.out.2).1
     have q3 := row4 S5 SD.out.1.x
     have f3 := S5.row.frozenAt (i * 5 + 4)
     refine hK.out _ _ (Or.inl (by kernel_rfl)) (fun hS => ?_)
     clear hK K
     try simp only [pA,pB,pC,Act.put,pD,pE,pF]
     clear hSb
     refine tkp (i := 8) (v := .pointer (some ⟨b, i * 5, none⟩)) rfl hS (fun hSb => ?_)
     simp only [pA,pB,pC,Act.put,pD,pE,pF]
     clear hS
     refine tkp (i := 9) (v := .pointer (some ⟨b, i * 5 + 4, none⟩)) rfl hSb (fun hS => ?_)
     simp only [pA,pB,pC,Act.put,pD,pE,pF]
     clear hSb
     refine till_one (i := 10) (by kernel_rfl) rfl (fun K hK => ?_)
     simp only [pA,pB,pC]
     rw [if_pos (by rfl)]
     go_simp
     refine hK.out _ _ (Or.inl (by kernel_rfl)) (fun hSb => ?_)
     clear hK K
     try simp only [pA,pB,pC,Act.put,pD,pE,pF]
     clear hS
     refine till_done (by kernel_rfl) ?_ _
     clear hSb
     show (Exit.then _ _) .normal _ _
     have HH := do_upls (K := K0) (h2 := hi) SD.out.1 BD.out H5.out.2 H5.out.1 (fun o ho => ((SD.out.1.upl H5.out.2).2.1 o (outX_mem ho)).up (Nat.le_succ K0)) (by have h1 := H5.out.1.len; have h2 := outX_len (byU x.cm.u0 x.cm.u1 x.cm.u2) Ulx.ul y.ux; have h3 := UW.out.len; have h4 := SD.out.1.c.b.k.2; omega) (Nat.le_refl _)
     obtain ⟨y1, Hy1⟩ : ∃ y1 : Bkx, Hid ({ y with ua := y.ua, un := n5, uc := y.un, ux := outX (byU x.cm.u0 x.cm.u1 x.cm.u2) Ulx.ul y.ux } = y1) := ⟨_, rfl⟩
     obtain ⟨X1, HX1⟩ := nm (X.set i y1)
     rw [Hy1.out, HX1.out] at HH
     have Y1e : Hid (y1 = { y with ua := y.ua, un := n5, uc := y.un, ux := outX (byU x.cm.u0 x.cm.u1 x.cm.u2) Ulx.ul y.ux }) := Hy1.out.symm
     have Y1o : Hid ((.slice y1.oa y1.on y1.oc : Value) = .slice y.oa y.on y.oc) := by rw [Y1e.out]; exact rfl
     have EX1 : Hid (X1[i]? = some y1) := by show _ = _; rw [<- HX1.out]; exact List.getElem?_set_self (List.getElem?_eq_some_iff.1 SD.out.1.x).1
     have off7 : ∀ {q : Nat} {cs : Array Value} {t : TypeId}, t ≠ 65 -> t ≠ 77 -> wd.heap[q]? = some (.cells cs t (0, 0)) -> (w5.setCell ⟨b, i * 5 + 4, none⟩ (.slice y.ua n5 y.un)).heap[q]? = some (.cells cs t (0, 0)) := fun {q cs t} h1 h2 hq => by
      refine (Below.heap_setCell _ _ _ _ (fun e => ?_)).trans ((H5.out.2.block q (gl hq) (fun e => ?_)).trans hq)
      . obtain ⟨cur, hc, _⟩ := SD.out.1.r.blk (q := b) rfl
        rw [e, hc] at hq
        cases hq
        exact h1 rfl
      . obtain ⟨cur, hc, _⟩ := UW.out.blk e
        rw [hc] at hq
        cases hq
        exact h2 rfl
     have kr6 : Hid ((w5.setCell ⟨b, i * 5 + 4, none⟩ (.slice y.ua n5 y.un)).heap[g + 1]? = some (.cells #[.int .i64 0,.string ⟨#[]⟩] 51 (0, 0))) := off7 (by decide) (by decide) KRD.out
     have kx6 : Hid ((w5.setCell ⟨b, i * 5 + 4, none⟩ (.slice y.ua n5 y.un)).heap[g]? = some (.cells A 29 (0, 0))) := off7 (by decide) (by decide) SD.out.2
     have P6 : Hid (Rw (w5.setCell ⟨b, i * 5 + 4, none⟩ (.slice y.ua n5 y.un)) lo w2.heap.size 26 EPc ra rn rc l) := PWD.out.keep1 (fun q e => by obtain ⟨cur, hc, _⟩ := PWD.out.blk e; rw [hc]; exact off7 (by decide) (by decide) hc)
     have z6 : Hid (wd.heap.size <= (w5.setCell ⟨b, i * 5 + 4, none⟩ (.slice y.ua n5 y.un)).heap.size) := Nat.le_trans H5.out.2.size (by simp [World.setCell])
     have R6 : Hid _ := HH.1
     have Y6 : Hid _ := HH.2.1
     have C6 : Hid _ := HH.2.2
     obtain ⟨w6, Hw6⟩ := nm (w5.setCell ⟨b, i * 5 + 4, none⟩ (.slice y.ua n5 y.un))
     rw [Hw6.out] at R6 Y6 C6 kr6 kx6 P6 z6 ⊢
     clear Hw6 HH H5 q3 f3 S5 off7 Hy1
     go_upto_region 8 with (fail)
     obtain ⟨we, Hwe⟩ := nm (w6.drew)
     have RD : Hid (Rw we lo hi 65 EBk (some ⟨b, 0, none⟩) n n X1) := by rw [<- Hwe.out]; exact R6.out.keep (fun _ _ _ _ => rfl)
     have YD : Hid (BkO (K0 + 1) we lo hi y1) := by rw [<- Hwe.out]; exact Y6.out.keep (fun _ _ _ _ => rfl)
     have KXD : Hid (we.heap[g]? = some (.cells A 29 (0, 0))) := by rw [<- Hwe.out]; exact kx6.out
     have kre : Hid (we.heap[g + 1]? = some (.cells #[.int .i64 0,.string ⟨#[]⟩] 51 (0, 0))) := by rw [<- Hwe.out]; exact kr6.out
     have PD : Hid (Rw we lo we.heap.size 26 EPc ra rn rc l) := by rw [<- Hwe.out]; exact (P6.out.keep (w' := w6.drew) (fun _ _ _ _ => rfl)).full
     have CD : Hid (Ch w we (SB b y)) := by rw [<- Hwe.out]; exact C6.out.trans (Ch.drew _ _)
     have hrK : rn <= 1048576 := by omega
     have hloD : lo <= we.heap.size := Nat.le_trans hlo CD.out.size
     refine wp_region_till (S := tillP 14 (fun W => Rw W lo hi 65 EBk (some ⟨b, 0, none⟩) n n X1 /\ W.heap[g]? = some (.cells A 29 (0, 0)))) (by kernel_rfl) (.inr (by rw [Hwe.out]; exact ⟨RD.out, KXD.out⟩)) (fun hS => ?_)
     rw [Hwe.out] at hS ⊢
     clear Hwe
     refine tkp (i := 0) (v := .pointer (some ⟨b, i * 5, none⟩)) rfl hS (fun hSb => ?_)
     simp only [pA,pB,pC,Act.put,pD,pE,pF]
     clear hS
     refine tkp (i := 1) (v := .pointer (some ⟨b, i * 5, none⟩)) rfl hSb (fun hS => ?_)
     simp only [pA,pB,pC,Act.put,pD,pE,pF]
     clear hSb
     refine tkp (i := 2) (v := .pointer (some ⟨b, i * 5, none⟩)) rfl hS (fun hSb => ?_)
     simp only [pA,pB,pC,Act.put,pD,pE,pF]
     clear hS
     refine tkp (i := 3) (v := .pointer (some ⟨b, i * 5 + 3, none⟩)) rfl hSb (fun hS => ?_)
     simp only [pA,pB,pC,Act.put,pD,pE,pF]
     clear hSb
     refine trd (i := 4) (c := 14) (v := .slice y.oa y.on y.oc) (T := fun W => Rw W lo hi 65 EBk (some ⟨b, 0, none⟩) n n X1 /\ W.heap[g]? = some (.cells A 29 (0, 0))) rfl rfl (fun L w => tillP_set (by decide)) (fun L w h1 h2 => tillP_out h1 h2) (Or.inl ⟨by rfl, fun w h => by have q9 := row3 h.1 EX1.out; rw [Y1o.out] at q9; go_simp⟩) hS (fun hSb => ?_)
     simp only [pA,pB,pC,Act.put,pD,pE,pF]
     clear hS
     refine tkp (i := 5) (v := .pointer (some ⟨g, 5, none⟩)) rfl hSb (fun hS => ?_)
     simp only [pA,pB,pC,Act.put,pD,pE,pF]
     clear hSb
     refine trd (i := 6) (c := 14) (v := .string x.cm.ke) (T := fun W => Rw W lo hi 65 EBk (some ⟨b, 0, none⟩) n n X1 /\ W.heap[g]? = some (.cells A 29 (0, 0))) rfl rfl (fun L w => tillP_set (by decide)) (fun L w h1 h2 => tillP_out h1 h2) (Or.inl ⟨by rfl, fun w h => by have q9 := cell_arr h.2 A5.out; go_simp⟩) hS (fun hSb => ?_)
     simp only [pA,pB,pC,Act.put,pD,pE,pF]
     clear hS
     refine trd (i := 7) (c := 14) (v := .agg A) (T := fun W => Rw W lo hi 65 EBk (some ⟨b, 0, none⟩) n n X1 /\ W.heap[g]? = some (.cells A 29 (0, 0))) rfl rfl (fun L w => tillP_set (by decide)) (fun L w h1 h2 => tillP_out h1 h2) (yl_any (by rfl) (by rfl) (by rfl) (fun W h => run_loadVar_row W g 29 29 A (0, 0) _ h.2 Tryz.underlying29 rfl (info29 a18))) hSb (fun hS => ?_)
     simp only [pA,pB,pC,Act.put,pD,pE,pF]
     clear hSb
     refine tkp (i := 8) (v := .string et) rfl hS (fun hSb => ?_)
     simp only [pA,pB,pC,Act.put,pD,pE,pF]
     clear hS
     refine tkp (i := 9) (v := .slice ra rn rc) rfl hSb (fun hS => ?_)
     simp only [pA,pB,pC,Act.put,pD,pE,pF]
     clear hSb
     refine till_one (i := 10) (by kernel_rfl) rfl (fun K hK => ?_)
     simp only [pA,pB,pC]
     rw [if_pos (by rfl)]
     go_simp
     go_wp2_with (go_at_call 97; refine (objectOf_n et hX PD hrK).mono ?_; rintro e w8 ⟨rfl, H8⟩)
     have R8 : Hid (Rw w8 lo hi 65 EBk (some ⟨b, 0, none⟩) n n X1) := RD.out.below H8.out
     have kx8 := sh H8 KXD
     have Y8 : Hid (BkO (K0 + 1) w8 lo hi y1) := YD.out.keep (fun q _ _ hq => H8.out.block q hq)
     have P8 : Hid (Rw w8 lo w8.heap.size 26 EPc ra rn rc l) := (PD.out.below H8.out).full
     have OW8 : Hid (Rw w8 lo hi 71 EOb y.oa y.on y.on y.ox) := (by have h := Y8.out.o; rw [Y1e.out] at h; have h2 : Rw w8 lo hi 71 EOb y.oa y.on y.oc y.ox := h; rw [OC.out] at h2; exact h2)
     have hlo8 : lo <= w8.heap.size := Nat.le_trans hloD H8.out.size
     refine hK.out _ _ (Or.inr ⟨R8.out, kx8.out⟩) (fun hSb => ?_)
     clear hK K
     try simp only [pA,pB,pC,Act.put,pD,pE,pF]
     clear hS
     refine till_one (i := 11) (by kernel_rfl) rfl (fun K hK => ?_)
     simp only [pA,pB,pC]
     rw [if_pos (by rfl)]
     go_simp
     rw [OC.out]
     go_wp2_with (go_at_call 96; refine (set_O (y := nwP x.cm et l ra rn rc) x.cm.ke OW8 hlo8 hoK (show Hid _ from rfl)).mono ?_; rintro e w9 ⟨a9, n9, c9', rfl, H9⟩)
     have R9 : Hid (Rw w9 lo hi 65 EBk (some ⟨b, 0, none⟩) n n X1) := R8.out.keep1 (fun q e => H9.out.2.block q (R8.out.lt e).2 (fun e2 => R8.out.apart OW8.out (by decide) e e2))
     have q3 : w9.cell? ⟨b, i * 5 + 3, none⟩ = some (.slice y.oa y.on y.oc) := (by have q9 := row3 R9.out EX1.out; rw [Y1o.out] at q9; exact q9)
     have f3 := R9.out.row.frozenAt (i * 5 + 3)
     have kx9 : Hid (w9.heap[g]? = some (.cells A 29 (0, 0))) := (H9.out.2.block g (gl kx8.out) (fun e => by have h2 := kx8.out; obtain ⟨cur, h1, _⟩ := OW8.out.blk e; rw [h1] at h2; simp at h2)).trans kx8.out
     refine hK.out _ _ (Or.inr ⟨R9.out, kx9.out⟩) (fun hS => ?_)
     clear hK K
     try simp only [pA,pB,pC,Act.put,pD,pE,pF]
     clear hSb
     refine tkp (i := 12) (v := .pointer (some ⟨b, i * 5, none⟩)) rfl hS (fun hSb => ?_)
     simp only [pA,pB,pC,Act.put,pD,pE,pF]
     clear hS
     refine tkp (i := 13) (v := .pointer (some ⟨b, i * 5 + 3, none⟩)) rfl hSb (fun hS => ?_)
     simp only [pA,pB,pC,Act.put,pD,pE,pF]
     clear hSb
     refine till_one (i := 14) (by kernel_rfl) rfl (fun K hK => ?_)
     simp only [pA,pB,pC]
     rw [if_pos (by rfl)]
     go_simp
     refine hK.out _ _ (Or.inl (by kernel_rfl)) (fun hSb => ?_)
     clear hK K
     try simp only [pA,pB,pC,Act.put,pD,pE,pF]
     clear hS
     refine till_done (by kernel_rfl) ?_ _
     clear hSb
     show (Exit.then _ _) .normal _ _
     have hh9 : hi <= w9.heap.size := Nat.le_trans hhi (Nat.le_trans CD.out.size (Nat.le_trans H8.out.size H9.out.2.size))
     have OE : Hid (y1.oa = y.oa /\ y1.on = y.on /\ y1.ox = y.ox) := by rw [Y1e.out]; exact ⟨rfl, rfl, rfl⟩
     have c9 : Hid (Ch w8 w9 (fun q => blkOf y1.oa = some q)) := by rw [OE.out.1]; exact H9.out.2
     have P9 : Hid (Rw w9 lo w9.heap.size 26 EPc ra rn rc l) := (P8.out.keep1 (fun q e => H9.out.2.block q (P8.out.lt e).2 (fun e2 => P8.out.apart OW8.out (by decide) e e2))).full
     have HJ := do_objs2 (h2 := w9.heap.size) R8.out EX1.out Y8.out c9.out H9.out.1 (fun o ho => by
      rcases setX_mem ho with rfl | h
      . exact ⟨P9.out, PL.out, (show rn <= K0 + 1 by have h1 := hp1.out; have h2 := HK0.out; have h3 := LL.out; have h4 := rnl.out; omega), hT, (by show et.size <= K48; rw [<- Het.out]; exact sumO_size l (by have := rnl.out; omega))⟩
      . have h1 := Y8.out.oo o (by rw [OE.out.2.2]; exact h)
        exact (ObO.mk (h1.r.keep1 (fun q e => H9.out.2.block q (h1.r.lt e).2 (fun e2 => h1.r.apart OW8.out (by decide) e e2))) h1.p h1.k h1.s : ObO (K0 + 1) w9 lo hi o).mono (Nat.le_refl _) hh9) (by have h1 := H9.out.1.len; have h2 := setX_len (byK x.cm.ke) Obx.ob y.ox (nwP x.cm et l ra rn rc); have h3 := OW8.out.len; have h4 := SD.out.1.c.b.k.1; omega) hh9
     have kr9 : Hid ((w9.setCell ⟨b, i * 5 + 3, none⟩ (.slice a9 n9 c9')).heap[g + 1]? = some (.cells #[.int .i64 0,.string ⟨#[]⟩] 51 (0, 0))) := by
      have kr8 := (H8.out.block (g + 1) (gl kre.out)).trans kre.out
      refine (Below.heap_setCell _ _ _ _ (fun e => ?_)).trans ((H9.out.2.block (g + 1) (gl kr8) (fun e => ?_)).trans kr8)
      . obtain ⟨cur, hc, _⟩ := R8.out.blk (q := b) rfl
        rw [e, hc] at kr8
        cases kr8
      . obtain ⟨cur, hc, _⟩ := OW8.out.blk e
        rw [hc] at kr8
        cases kr8
     have ZR : Hid (X1.set i { y1 with oa := a9, on := n9, oc := c9', ox := setX (byK x.cm.ke) Obx.ob y.ox (nwP x.cm et l ra rn rc) } = X.set i { y1 with oa := a9, on := n9, oc := c9', ox := setX (byK x.cm.ke) Obx.ob y.ox (nwP x.cm et l ra rn rc) }) := by show _ = _; rw [<- HX1.out, List.set_set]
     have ZB : Hid (Bkx.bk { y1 with oa := a9, on := n9, oc := c9', ox := setX (byK x.cm.ke) Obx.ob y.ox (nwP x.cm et l ra rn rc) } = (comG y.bk x.cm v.ul).1) := by
      rw [IB.out]
      show _ = _
      rw [Y1e.out]
      simp only [Bkx.bk, setX_map, outX_map, nwP]
     have E7 : Hid ((comG y.bk x.cm v.ul).2 = ⟨0, et⟩) := by rw [IB.out]; exact rfl
     have R3 : Hid _ := HJ.1
     rw [ZR.out] at R3
     have BO3 : Hid _ := HJ.2.1
     have C3 : Hid (Ch w (w9.setCell ⟨b, i * 5 + 3, none⟩ (.slice a9 n9 c9')) (SB b y)) := (CD.out.trans (Ch.below H8.out)).trans (HJ.2.2.weak (fun q _ e => by
      rcases e with e | e
      . exact .inl e
      . rw [OE.out.1] at e; exact .inr (.inl e)))
     obtain ⟨w10, Hw10⟩ := nm (w9.setCell ⟨b, i * 5 + 3, none⟩ (.slice a9 n9 c9'))
     rw [Hw10.out] at R3 BO3 C3 kr9 ⊢
     clear Hw10 HJ H9 q3 f3
     obtain ⟨R, HR⟩ := nm ((#[.int .i64 0,.string et] : Array Value))
     have a5' : (Tryz.prog.info? 51).map (·.size) = some R.size := by rw [<- HR.out]; exact outZ
     have AA : Hid (R.all (·.oneCell') = true) := (show R.all (·.oneCell') = true by rw [<- HR.out]; simp [Value.oneCell'])
     have a6' : Hid (R.size = 2) := (show R.size = 2 by rw [<- HR.out]; rfl)
     go_wp2_with (first
      | (go_at_call 98; refine (doneWith_n et _).mono ?_; rintro e w7 ⟨rfl, H7⟩; rw [HR.out]; have r7 := sh H7 kr9)
      | (refine wpList_store_row (by rfl) 51 (.tmp 6) (.tmp 56) (by rfl) (g + 1) R (by rfl) (by rfl) 51 _ r7.out a5' (by rw [a6'.out]; rfl) AA.out ?_))
     refine bodyPost_ret (results_cell_row Tryz.results73 _ _ (g + 1) 51 R (0, 0) _ (by rfl) (setRow_heap _ _ _ _ _ _ r7.out) Tryz.underlying51 rfl a5') rfl ?_
     refine ⟨R, rfl, ?_⟩
     rw [HK0.out]
     exact do_end (g := g + 1) (by rw [E7.out]; exact HR.out.symm) ZB.out R3.out BO3.out C3.out H7.out kr9.out (by have := Hg.out; omega)
end Go.Proofs.YtfabnnbljkkihaaGreatDoor
