import Derived.Test.YtfabnnbljkkihaaGreatDoorMxp
import Derived.Test.YtfabnnbljkkihaaGreatDoorMx20
namespace Go.Proofs.YtfabnnbljkkihaaGreatDoor
open Go.ChangeShapes Go.WideShapes Go.ChangeAt Go.RowKit
set_option maxRecDepth 20000
set_option linter.unusedVariables false
set_option linter.unusedSimpArgs false
theorem row4 {W : World} {lo hi b n c i : Nat} {X : List Bkx} {y : Bkx} (h : Rw W lo hi 65 EBk (some ⟨b, 0, none⟩) n c X) (hx : X[i]? = some y) : W.cell? ⟨b, i * 5 + 4, none⟩ = some (.slice y.ua y.un y.uc) := by
 obtain ⟨hi', e⟩ := List.getElem?_eq_some_iff.1 hx
 obtain ⟨g, e2, _, _, hr⟩ := h.at_ hi'
 cases e2
 rw [e] at hr
 exact hr 4 _ rfl
theorem Bs.upl {K : Nat} {W W' : World} {lo hi b n : Nat} {X : List Bkx} {i : Nat} {y : Bkx} (h : Bs K W lo hi b n X i y) (hc : Ch W W' (fun q => blkOf y.ua = some q)) : Rw W' lo hi 65 EBk (some ⟨b, 0, none⟩) n n X /\ (∀ u ∈ y.ux, UlO K W' lo hi u) /\ Rw W' lo hi 71 EOb y.oa y.on y.oc y.ox /\ (∀ o ∈ y.ox, ObO K W' lo hi o) := by
 have hb := h.c.b
 refine ⟨h.r.keep1 (fun q e => hc.block q (h.r.lt e).2 (fun e2 => h.r.apart hb.u (by decide) e e2)), fun u hu => ?_, hb.o.keep1 (fun q e => hc.block q (hb.o.lt e).2 (fun e2 => hb.o.apart hb.u (by decide) e e2)), fun o ho => ?_⟩
 . have h1 := hb.uu u hu
   exact ⟨h1.r.keep1 (fun q e => hc.block q (h1.r.lt e).2 (fun e2 => h1.r.apart hb.u (by decide) e e2)), h1.p, h1.k, h1.s⟩
 . have h1 := hb.oo o ho
   exact ⟨h1.r.keep1 (fun q e => hc.block q (h1.r.lt e).2 (fun e2 => h1.r.apart hb.u (by decide) e e2)), h1.p, h1.k, h1.s⟩
theorem do_upls {K : Nat} {w W W2 : World} {lo hi h2 b n : Nat} {X : List Bkx} {i : Nat} {y : Bkx} {a' : Option Addr} {n' c' : Nat} {Y : List Ulx} (hS : Bs K W lo hi b n X i y) (B1 : Below w.heap.size w W) (hc : Ch W W2 (fun q => blkOf y.ua = some q)) (RN : Rw W2 lo h2 77 EUl a' n' c' Y) (OY : ∀ o ∈ Y, UlO (K + 1) W2 lo h2 o) (hn' : n' <= K + 1) (hh : hi <= h2) :
  Rw (W2.setCell ⟨b, i * 5 + 4, none⟩ (.slice a' n' c')) lo hi 65 EBk (some ⟨b, 0, none⟩) n n (X.set i { y with ua := a', un := n', uc := c', ux := Y }) /\ BkO (K + 1) (W2.setCell ⟨b, i * 5 + 4, none⟩ (.slice a' n' c')) lo h2 { y with ua := a', un := n', uc := c', ux := Y } /\ Ch w (W2.setCell ⟨b, i * 5 + 4, none⟩ (.slice a' n' c')) (SB b y) := by
 obtain ⟨r1, r2, r3, r4⟩ := hS.upl hc
 obtain ⟨cur, hcur, _⟩ := r1.blk (q := b) rfl
 have hb : ∀ q, q < W2.heap.size -> q ≠ b -> (W2.setCell ⟨b, i * 5 + 4, none⟩ (.slice a' n' c')).heap[q]? = W2.heap[q]? := fun q _ hq => Below.heap_setCell _ _ _ _ hq
 have k := hS.c.b
 refine ⟨r1.setC hS.x (by decide) rfl, ?_, ?_⟩
 . have bo : BkO (K + 1) W2 lo h2 { y with ua := a', un := n', uc := c', ux := Y } := ⟨r3.mono (Nat.le_refl _) hh, fun o ho => ((r4 o ho).up (Nat.le_succ K)).mono (Nat.le_refl _) hh, RN, OY, ⟨Nat.le_trans k.k.1 (Nat.le_succ K), hn'⟩, k.s⟩
   exact bo.off hb hcur (by decide)
 . exact ((Ch.below B1).trans (hc.weak (fun q _ e => .inr (.inr (.inl e))))).trans ((Ch.set W2 b _ _).weak (fun q _ e => .inl e))
def nwU (x : Cm) : Ulx := ⟨⟨x.i0, x.i1, x.i2, x.ke, []⟩, none, 0, 0⟩
theorem nwU_ok {K : Nat} {w : World} {lo hi : Nat} {x : Cm} (hT : x.ke.size <= K48) : UlO K w lo hi (nwU x) := ⟨Rw.nil _ _ _ _ _ (by decide), (fun o ho => by cases ho), Nat.zero_le _, hT⟩
theorem do_same {K : Nat} {w w1 w7 : World} {lo hi b n : Nat} {X : List Bkx} {i g : Nat} {y : Bkx} {f : Bkd × Outc} {R : Array Value} {cs : Array Value} (hR : R = #[.int .i64 f.2.code,.string f.2.etag]) (hz : y.bk = f.1) (hS : Bs K w1 lo hi b n X i y) (B1 : Below w.heap.size w w1) (H7 : Below w1.heap.size w1 w7) (kr : w1.heap[g]? = some (.cells cs 51 (0, 0))) (hg : w.heap.size <= g) : DoR K w (w7.setRow g R) lo hi b n X i y f R := by
 refine do_end (h3 := hi) hR hz ?_ (hS.c.b.up (Nat.le_succ K)) (Ch.below B1) H7 kr hg
 have e : X.set i y = X := by
  obtain ⟨hi', e⟩ := List.getElem?_eq_some_iff.1 hS.x
  rw [<- e, List.set_getElem_self]
 rw [e]
 exact hS.r
set_option maxHeartbeats 8000000 in
theorem startUpload_n {K : Nat} (hK : K + 1 <= 1048576) {w : World} {A : Array Value} {x : Cx} {lo hi b n : Nat} {X : List Bkx} {i : Nat} {y : Bkx} (hX : Hid (A = (encX x).toArray)) (hT : x.cm.ke.size <= K48) (hlo : lo <= w.heap.size) (hhi : hi <= w.heap.size) (hB : Hid (Bs K w lo hi b n X i y)) :
  Calls Tryz.prog 70 #[.pointer (some ⟨b, i * 5, none⟩), .agg A] w fun e w' => ∃ R, e = .returned (.agg R) /\ Hid (DoR K w w' lo hi b n X i y (staO y.bk x.cm) R) := by
 have a18 : A.size = 18 := encX_sz hX.out
 obtain ⟨w1, Hw1⟩ := nm ((w.alloc (.cells A 29)).alloc (.cells #[.int .i64 0,.string ⟨#[]⟩] 51))
 obtain ⟨g, Hg⟩ := nm (w.heap.size)
 have B1 : Hid (Below w.heap.size w w1) := by rw [<- Hw1.out]; exact alloc2 w _ _
 have kx : Hid (w1.heap[g]? = some (.cells A 29 (0, 0))) := by
  rw [<- Hw1.out, <- Hg.out]
  exact ((alloc1 (w.alloc (.cells A 29)) _).block w.heap.size (by simp)).trans (heap_alloc_new w _)
 have kr : Hid (w1.heap[g + 1]? = some (.cells #[.int .i64 0,.string ⟨#[]⟩] 51 (0, 0))) := by
  rw [<- Hw1.out, <- Hg.out]
  have e : (w.alloc (.cells A 29)).heap.size = w.heap.size + 1 := by simp
  rw [<- e]
  exact heap_alloc_new _ _
 have S1 : Hid (Bs K w1 lo hi b n X i y) := hB.out.below B1.out
 go_enter Tryz.func70, Tryz.ntmps70
 go_upto_region 1 with (fail)
 rw [Hw1.out, Hg.out]
 clear Hw1
 have q1 := S1.out.c4
 have A1 : Hid (A[1]? = some (.int .i64 x.cm.i0)) := by rw [hX.out]; rfl
 have A2 : Hid (A[2]? = some (.int .i64 x.cm.i1)) := by rw [hX.out]; rfl
 have A3 : Hid (A[3]? = some (.int .i64 x.cm.i2)) := by rw [hX.out]; rfl
 have A5 : Hid (A[5]? = some (.string x.cm.ke)) := by rw [hX.out]; rfl
 have LU : Hid (y.un = y.ux.length) := S1.out.c.b.u.len
 have LB : Hid (y.bk.uls.length = y.un) := by show _ = _; rw [LU.out]; simp [Bkx.bk]
 by_cases h16 : 16 <= y.un
 . have i1 : (16 : Int) <= (y.un : Int) := by omega
   have IB : Hid (staO y.bk x.cm = (y.bk, noO 7)) := by show _ = _; unfold staO; rw [if_pos (by rw [LB.out]; exact h16)]
   obtain ⟨R, HR⟩ := nm ((#[.int .i64 7,.string ⟨#[]⟩] : Array Value))
   have a5' : (Tryz.prog.info? 51).map (·.size) = some R.size := by rw [<- HR.out]; exact outZ
   have AA : Hid (R.all (·.oneCell') = true) := (show R.all (·.oneCell') = true by rw [<- HR.out]; kernel_rfl)
   have a6' : Hid (R.size = 2) := (show R.size = 2 by rw [<- HR.out]; rfl)
   go_wp2_with (first
    | (go_at_call 78; refine (refused_n 7 _).mono ?_; rintro e w7 ⟨rfl, H7⟩; rw [HR.out]; have r7 := sh H7 kr)
    | (refine wpList_store_row (by rfl) 51 (.tmp 4) (.tmp 11) (by rfl) (g + 1) R (by rfl) (by rfl) 51 _ r7.out a5' (by rw [a6'.out]; rfl) AA.out ?_))
   refine bodyPost_ret (results_cell_row Tryz.results70 _ _ (g + 1) 51 R (0, 0) _ (by rfl) (setRow_heap _ _ _ _ _ _ r7.out) Tryz.underlying51 rfl a5') rfl ?_
   refine ⟨R, rfl, ?_⟩
   rw [IB.out]
   exact do_same (g := g + 1) HR.out.symm rfl S1.out B1.out H7.out kr.out (by have := Hg.out; omega)
 . have i1 : ¬ ((16 : Int) <= (y.un : Int)) := by omega
   have i2 : (y.un : Int) < 16 := by omega
   have IB : Hid (staO y.bk x.cm = ({ y.bk with uls := setB (byU x.cm.i0 x.cm.i1 x.cm.i2) y.bk.uls ⟨x.cm.i0, x.cm.i1, x.cm.i2, x.cm.ke, []⟩ }, okO)) := by show _ = _; unfold staO; rw [if_neg (by rw [LB.out]; exact h16)]
   go_upto_region 3 with (fail)
   clear q1
   obtain ⟨wd, Hwd⟩ := nm (w1.drew)
   have BD : Hid (Below w.heap.size w wd) := by rw [<- Hwd.out]; exact B1.out.drew
   have SD : Hid (Bs K wd lo hi b n X i y /\ wd.heap[g]? = some (.cells A 29 (0, 0))) := by rw [<- Hwd.out]; exact ⟨⟨S1.out.r.keep (fun _ _ _ _ => rfl), S1.out.x, bkC_stays K _ _ _ _ _ S1.out.c (fun _ _ _ _ => rfl)⟩, kx.out⟩
   have KRD : Hid (wd.heap[g + 1]? = some (.cells #[.int .i64 0,.string ⟨#[]⟩] 51 (0, 0))) := by rw [<- Hwd.out]; exact kr.out
   have OC : Hid (y.uc = y.un) := SD.out.1.c.c.2
   have OW1 : Hid (Rw wd lo hi 77 EUl y.ua y.un y.un y.ux) := by have h := SD.out.1.c.b.u; rw [OC.out] at h; exact h
   have hoK : y.un + 1 <= 1048576 := by omega
   have hloD : lo <= wd.heap.size := Nat.le_trans hlo BD.out.size
   have hhiD : hi <= wd.heap.size := Nat.le_trans hhi BD.out.size
   refine wp_region_till (S := tillP 15 (fun W => Rw W lo hi 65 EBk (some ⟨b, 0, none⟩) n n X /\ W.heap[g]? = some (.cells A 29 (0, 0)))) (by kernel_rfl) (.inr (by rw [Hwd.out]; exact ⟨SD.out.1.r, SD.out.2⟩)) (fun hS => ?_)
   rw [Hwd.out] at hS ⊢
   clear Hwd
   refine tkp (i := 0) (v := .pointer (some ⟨b, i * 5, none⟩)) rfl hS (fun hSb => ?_)
   simp only [pA,pB,pC,Act.put,pD,pE,pF]
   clear hS
   refine tkp (i := 1) (v := .pointer (some ⟨b, i * 5, none⟩)) rfl hSb (fun hS => ?_)
   simp only [pA,pB,pC,Act.put,pD,pE,pF]
   clear hSb
   refine tkp (i := 2) (v := .pointer (some ⟨b, i * 5, none⟩)) rfl hS (fun hSb => ?_)
   simp only [pA,pB,pC,Act.put,pD,pE,pF]
   clear hS
   refine tkp (i := 3) (v := .pointer (some ⟨b, i * 5 + 4, none⟩)) rfl hSb (fun hS => ?_)
   simp only [pA,pB,pC,Act.put,pD,pE,pF]
   clear hSb
   refine trd (i := 4) (c := 15) (v := .slice y.ua y.un y.uc) (T := fun W => Rw W lo hi 65 EBk (some ⟨b, 0, none⟩) n n X /\ W.heap[g]? = some (.cells A 29 (0, 0))) rfl rfl (fun L w => tillP_set (by decide)) (fun L w h1 h2 => tillP_out h1 h2) (Or.inl ⟨by rfl, fun w h => by have q9 := row4 h.1 SD.out.1.x; go_simp⟩) hS (fun hSb => ?_)
   simp only [pA,pB,pC,Act.put,pD,pE,pF]
   clear hS
   refine tkp (i := 5) (v := .pointer (some ⟨g, 1, none⟩)) rfl hSb (fun hS => ?_)
   simp only [pA,pB,pC,Act.put,pD,pE,pF]
   clear hSb
   refine trd (i := 6) (c := 15) (v := .agg #[.int .i64 x.cm.i0,.int .i64 x.cm.i1,.int .i64 x.cm.i2]) (T := fun W => Rw W lo hi 65 EBk (some ⟨b, 0, none⟩) n n X /\ W.heap[g]? = some (.cells A 29 (0, 0))) rfl rfl (fun L w => tillP_set (by decide)) (fun L w h1 h2 => tillP_out h1 h2) (Or.inl ⟨by rfl, fun w h => by have q1 := cell_arr h.2 A1.out; have q2 := cell_arr h.2 A2.out; have q3 := cell_arr h.2 A3.out; go_simp⟩) hS (fun hSb => ?_)
   simp only [pA,pB,pC,Act.put,pD,pE,pF]
   clear hS
   refine tkp (i := 7) (v := .pointer (some ⟨g, 1, none⟩)) rfl hSb (fun hS => ?_)
   simp only [pA,pB,pC,Act.put,pD,pE,pF]
   clear hSb
   refine trd (i := 8) (c := 15) (v := .agg #[.int .i64 x.cm.i0,.int .i64 x.cm.i1,.int .i64 x.cm.i2]) (T := fun W => Rw W lo hi 65 EBk (some ⟨b, 0, none⟩) n n X /\ W.heap[g]? = some (.cells A 29 (0, 0))) rfl rfl (fun L w => tillP_set (by decide)) (fun L w h1 h2 => tillP_out h1 h2) (Or.inl ⟨by rfl, fun w h => by have q1 := cell_arr h.2 A1.out; have q2 := cell_arr h.2 A2.out; have q3 := cell_arr h.2 A3.out; go_simp⟩) hS (fun hSb => ?_)
   simp only [pA,pB,pC,Act.put,pD,pE,pF]
   clear hS
   refine tkp (i := 9) (v := .pointer (some ⟨g, 5, none⟩)) rfl hSb (fun hS => ?_)
   simp only [pA,pB,pC,Act.put,pD,pE,pF]
   clear hSb
   refine trd (i := 10) (c := 15) (v := .string x.cm.ke) (T := fun W => Rw W lo hi 65 EBk (some ⟨b, 0, none⟩) n n X /\ W.heap[g]? = some (.cells A 29 (0, 0))) rfl rfl (fun L w => tillP_set (by decide)) (fun L w h1 h2 => tillP_out h1 h2) (Or.inl ⟨by rfl, fun w h => by have q9 := cell_arr h.2 A5.out; go_simp⟩) hS (fun hSb => ?_)
   simp only [pA,pB,pC,Act.put,pD,pE,pF]
   clear hS
   refine tkp (i := 11) (v := .agg #[.int .i64 x.cm.i0,.int .i64 x.cm.i1,.int .i64 x.cm.i2,.string x.cm.ke,.slice none 0 0]) rfl hSb (fun hS => ?_)
   simp only [pA,pB,pC,Act.put,pD,pE,pF]
   clear hSb
   refine till_one (i := 12) (by kernel_rfl) rfl (fun K hK => ?_)
   simp only [pA,pB,pC]
   rw [if_pos (by rfl)]
   go_simp
   rw [OC.out]
   go_wp2_with (go_at_call 100; refine (set_U (y := nwU x.cm) x.cm.i0 x.cm.i1 x.cm.i2 OW1 hloD hoK (show Hid _ from rfl)).mono ?_; rintro e w5 ⟨a5, n5, c5, rfl, H5⟩)
   have S5 := (SD.out.1.upl H5.out.2).1
   have q3 := row4 S5 SD.out.1.x
   have f3 := S5.row.frozenAt (i * 5 + 4)
   refine hK.out _ _ (Or.inr ⟨S5, (H5.out.2.block g (gl SD.out.2) (fun e => by have h2 := SD.out.2; obtain ⟨cur, h1, _⟩ := OW1.out.blk e; rw [h1] at h2; simp at h2)).trans SD.out.2⟩) (fun hSb => ?_)
   clear hK K
   try simp only [pA,pB,pC,Act.put,pD,pE,pF]
   clear hS
   refine tkp (i := 13) (v := .pointer (some ⟨b, i * 5, none⟩)) rfl hSb (fun hS => ?_)
   simp only [pA,pB,pC,Act.put,pD,pE,pF]
   clear hSb
   refine tkp (i := 14) (v := .pointer (some ⟨b, i * 5 + 4, none⟩)) rfl hS (fun hSb => ?_)
   simp only [pA,pB,pC,Act.put,pD,pE,pF]
   clear hS
   refine till_one (i := 15) (by kernel_rfl) rfl (fun K hK => ?_)
   simp only [pA,pB,pC]
   rw [if_pos (by rfl)]
   go_simp
   refine hK.out _ _ (Or.inl (by kernel_rfl)) (fun hS => ?_)
   clear hK K
   try simp only [pA,pB,pC,Act.put,pD,pE,pF]
   clear hSb
   refine till_done (by kernel_rfl) ?_ _
   clear hS
   show (Exit.then _ _) .normal _ _
   have hh5 : hi <= w5.heap.size := Nat.le_trans hhiD H5.out.2.size
   have HH := do_upls (K := K) (h2 := w5.heap.size) SD.out.1 BD.out H5.out.2 H5.out.1 (fun o ho => by
    rcases setX_mem ho with rfl | h
    . exact nwU_ok hT
    . exact (((SD.out.1.upl H5.out.2).2.1 o h).up (Nat.le_succ K)).mono (Nat.le_refl _) hh5) (by have h1 := H5.out.1.len; have h2 := setX_len (byU x.cm.i0 x.cm.i1 x.cm.i2) Ulx.ul y.ux (nwU x.cm); have h3 := OW1.out.len; have h4 := SD.out.1.c.b.k.2; omega) hh5
   have R3 : Hid _ := HH.1
   have BO3 : Hid _ := HH.2.1
   have C3 : Hid _ := HH.2.2
   have kr3 : Hid ((w5.setCell ⟨b, i * 5 + 4, none⟩ (.slice a5 n5 c5)).heap[g + 1]? = some (.cells #[.int .i64 0,.string ⟨#[]⟩] 51 (0, 0))) := by
    refine (Below.heap_setCell _ _ _ _ (fun e => ?_)).trans ((H5.out.2.block (g + 1) (gl KRD.out) (fun e => ?_)).trans KRD.out)
    . obtain ⟨cur, hc, _⟩ := SD.out.1.r.blk (q := b) rfl
      have h := KRD.out
      rw [e, hc] at h
      cases h
    . obtain ⟨cur, hc, _⟩ := OW1.out.blk e
      have h := KRD.out
      rw [hc] at h
      cases h
   have ZB : Hid (Bkx.bk { y with ua := a5, un := n5, uc := c5, ux := setX (byU x.cm.i0 x.cm.i1 x.cm.i2) Ulx.ul y.ux (nwU x.cm) } = (staO y.bk x.cm).1) := by
    rw [IB.out]
    show _ = _
    simp only [Bkx.bk, setX_map, nwU]
   have E7 : Hid ((staO y.bk x.cm).2 = okO) := by rw [IB.out]; exact rfl
   obtain ⟨w3, Hw3⟩ := nm (w5.setCell ⟨b, i * 5 + 4, none⟩ (.slice a5 n5 c5))
   rw [Hw3.out] at R3 BO3 C3 kr3 ⊢
   clear Hw3 HH H5 q3 f3 S5
   obtain ⟨R, HR⟩ := nm ((#[.int .i64 0,.string ⟨#[]⟩] : Array Value))
   have a5' : (Tryz.prog.info? 51).map (·.size) = some R.size := by rw [<- HR.out]; exact outZ
   have AA : Hid (R.all (·.oneCell') = true) := (show R.all (·.oneCell') = true by rw [<- HR.out]; kernel_rfl)
   have a6' : Hid (R.size = 2) := (show R.size = 2 by rw [<- HR.out]; rfl)
   go_wp2_with (first
    | (go_at_call 92; refine (done_n _).mono ?_; rintro e w7 ⟨rfl, H7⟩; rw [HR.out]; have r7 := sh H7 kr3)
    | (refine wpList_store_row (by rfl) 51 (.tmp 4) (.tmp 27) (by rfl) (g + 1) R (by rfl) (by rfl) 51 _ r7.out a5' (by rw [a6'.out]; rfl) AA.out ?_))
   refine bodyPost_ret (results_cell_row Tryz.results70 _ _ (g + 1) 51 R (0, 0) _ (by rfl) (setRow_heap _ _ _ _ _ _ r7.out) Tryz.underlying51 rfl a5') rfl ?_
   exact ⟨R, rfl, do_end (g := g + 1) (by rw [E7.out]; exact HR.out.symm) ZB.out R3.out BO3.out C3.out H7.out kr3.out (by have := Hg.out; omega)⟩
theorem objZ {O : Array Value} (h : O.size = 5) : (Tryz.prog.info? 71).map (·.size) = some O.size := by rw [h]; exact inz71
set_option maxHeartbeats 8000000 in
theorem objectOf_n {w : World} {A : Array Value} {x : Cx} {lo hi : Nat} {a : Option Addr} {n c : Nat} {l : List Pcd} (et : ByteArray) (hX : Hid (A = (encX x).toArray)) (hA : Hid (Rw w lo hi 26 EPc a n c l)) (hn : n <= 1048576) :
  Calls Tryz.prog 97 #[.agg A,.string et,.slice a n c] w fun e w' => e = .returned (.agg #[.string x.cm.ke,.int .i64 (sizO l),.string et,.int .i64 x.cm.tm,.slice a n c]) /\ Hid (Below w.heap.size w w') := by
 have a18 : A.size = 18 := encX_sz hX.out
 have A5 : Hid (A[5]? = some (.string x.cm.ke)) := by rw [hX.out]; rfl
 have A16 : Hid (A[16]? = some (.int .i64 x.cm.tm)) := by rw [hX.out]; rfl
 obtain ⟨z, HZ⟩ := nm (sizO l)
 rw [HZ.out]
 obtain ⟨w1, Hw1⟩ := nm ((w.alloc (.cells A 29)).alloc (.cells #[.string ⟨#[]⟩,.int .i64 0,.string ⟨#[]⟩,.int .i64 0,.slice none 0 0] 71))
 obtain ⟨g, Hg⟩ := nm (w.heap.size)
 have B1 : Hid (Below w.heap.size w w1) := by rw [<- Hw1.out]; exact alloc2 w _ _
 have kx : Hid (w1.heap[g]? = some (.cells A 29 (0, 0))) := by
  rw [<- Hw1.out, <- Hg.out]
  exact ((alloc1 (w.alloc (.cells A 29)) _).block w.heap.size (by simp)).trans (heap_alloc_new w _)
 have kr : Hid (w1.heap[g + 1]? = some (.cells #[.string ⟨#[]⟩,.int .i64 0,.string ⟨#[]⟩,.int .i64 0,.slice none 0 0] 71 (0, 0))) := by
  rw [<- Hw1.out, <- Hg.out]
  have e : (w.alloc (.cells A 29)).heap.size = w.heap.size + 1 := by simp
  rw [<- e]
  exact heap_alloc_new _ _
 go_enter Tryz.func97, Tryz.ntmps97
 go_upto_region 1 with (fail)
 rw [Hw1.out, Hg.out]
 clear Hw1
 obtain ⟨wd, Hwd⟩ := nm (w1.drew)
 have BD : Hid (Below w.heap.size w wd) := by rw [<- Hwd.out]; exact B1.out.drew
 have KD : Hid (wd.heap[g]? = some (.cells A 29 (0, 0)) /\ wd.heap[g + 1]? = some (.cells #[.string ⟨#[]⟩,.int .i64 0,.string ⟨#[]⟩,.int .i64 0,.slice none 0 0] 71 (0, 0))) := by rw [<- Hwd.out]; exact ⟨kx.out, kr.out⟩
 have RD : Hid (Rw wd lo hi 26 EPc a n c l) := hA.out.below BD.out
 obtain ⟨O, HO⟩ := nm ((#[.string x.cm.ke,.int .i64 z,.string et,.int .i64 x.cm.tm,.slice a n c] : Array Value))
 have o6 : Hid (O.size = 5) := (show O.size = 5 by rw [<- HO.out]; rfl)
 have o5 : (Tryz.prog.info? 71).map (·.size) = some O.size := objZ o6.out
 have OA : Hid (O.all (·.oneCell') = true) := (show O.all (·.oneCell') = true by rw [<- HO.out]; simp [Value.oneCell'])
 refine wp_region_till (S := tillP 9 (fun W => W.heap[g]? = some (.cells A 29 (0, 0)) /\ W.heap[g + 1]? = some (.cells #[.string ⟨#[]⟩,.int .i64 0,.string ⟨#[]⟩,.int .i64 0,.slice none 0 0] 71 (0, 0)))) (by kernel_rfl) (.inr (by rw [Hwd.out]; exact KD.out)) (fun hS => ?_)
 rw [Hwd.out] at hS ⊢
 clear Hwd
 refine tkp (i := 0) (v := .pointer (some ⟨g, 5, none⟩)) rfl hS (fun hSb => ?_)
 simp only [pA,pB,pC,Act.put,pD,pE,pF]
 clear hS
 refine trd (i := 1) (c := 9) (v := .string x.cm.ke) (T := fun W => W.heap[g]? = some (.cells A 29 (0, 0)) /\ W.heap[g + 1]? = some (.cells #[.string ⟨#[]⟩,.int .i64 0,.string ⟨#[]⟩,.int .i64 0,.slice none 0 0] 71 (0, 0))) rfl rfl (fun L w => tillP_set (by decide)) (fun L w h1 h2 => tillP_out h1 h2) (Or.inl ⟨by rfl, fun w h => by have q9 := cell_arr h.1 A5.out; go_simp⟩) hSb (fun hS => ?_)
 simp only [pA,pB,pC,Act.put,pD,pE,pF]
 clear hSb
 refine tkp (i := 2) (v := .slice a n c) rfl hS (fun hSb => ?_)
 simp only [pA,pB,pC,Act.put,pD,pE,pF]
 clear hS
 refine tkp (i := 4) (v := .string et) rfl hSb (fun hS => ?_)
 simp only [pA,pB,pC,Act.put,pD,pE,pF]
 clear hSb
 refine tkp (i := 5) (v := .pointer (some ⟨g, 16, none⟩)) rfl hS (fun hSb => ?_)
 simp only [pA,pB,pC,Act.put,pD,pE,pF]
 clear hS
 refine trd (i := 6) (c := 9) (v := .int .i64 x.cm.tm) (T := fun W => W.heap[g]? = some (.cells A 29 (0, 0)) /\ W.heap[g + 1]? = some (.cells #[.string ⟨#[]⟩,.int .i64 0,.string ⟨#[]⟩,.int .i64 0,.slice none 0 0] 71 (0, 0))) rfl rfl (fun L w => tillP_set (by decide)) (fun L w h1 h2 => tillP_out h1 h2) (Or.inl ⟨by rfl, fun w h => by have q9 := cell_arr h.1 A16.out; go_simp⟩) hSb (fun hS => ?_)
 simp only [pA,pB,pC,Act.put,pD,pE,pF]
 clear hSb
 refine tkp (i := 7) (v := .slice a n c) rfl hS (fun hSb => ?_)
 simp only [pA,pB,pC,Act.put,pD,pE,pF]
 clear hS
 refine till_one (i := 3) (by kernel_rfl) rfl (fun K hK => ?_)
 simp only [pA,pB,pC]
 rw [if_pos (by rfl)]
 go_simp
 go_wp2_with (go_at_call 119; refine (sizeOf_n RD hn).mono ?_; rintro e w5 ⟨rfl, H5⟩; rw [HZ.out])
 have K5 : Hid (w5.heap[g]? = some (.cells A 29 (0, 0)) /\ w5.heap[g + 1]? = some (.cells #[.string ⟨#[]⟩,.int .i64 0,.string ⟨#[]⟩,.int .i64 0,.slice none 0 0] 71 (0, 0))) := ⟨(H5.out.block _ (gl KD.out.1)).trans KD.out.1, (H5.out.block _ (gl KD.out.2)).trans KD.out.2⟩
 refine hK.out _ _ (Or.inr K5.out) (fun hS => ?_)
 clear hK K
 try simp only [pA,pB,pC,Act.put,pD,pE,pF]
 clear hSb
 refine tkp (i := 8) (v := .agg #[.string x.cm.ke,.int .i64 z,.string et,.int .i64 x.cm.tm,.slice a n c]) rfl hS (fun hSb => ?_)
 simp only [pA,pB,pC,Act.put,pD,pE,pF]
 clear hS
 refine till_one (i := 9) (by kernel_rfl) rfl (fun K hK => ?_)
 simp only [pA,pB,pC]
 rw [if_pos (by rfl)]
 rw [HO.out]
 refine wp_store_row 71 (.tmp 6) (.tmp 15) (by rfl) (g + 1) O (by rfl) (by rfl) 71 _ K5.out.2 o5 (by rw [o6.out]; rfl) OA.out ?_
 refine hK.out _ _ (Or.inl (by kernel_rfl)) (fun hS => ?_)
 clear hK K
 try simp only [pA,pB,pC,Act.put,pD,pE,pF]
 clear hSb
 refine till_done (by kernel_rfl) ?_ _
 clear hS
 show (Exit.then _ _) .normal _ _
 go_wp2
 refine bodyPost_ret (results_cell_row Tryz.results97 _ _ (g + 1) 71 O (0, 0) _ (by rfl) (setRow_heap _ _ _ _ _ _ K5.out.2) Tryz.underlying71 rfl o5) rfl ?_
 have hg1 : w.heap.size <= g + 1 := by have := Hg.out; omega
 exact ⟨by rw [HO.out], below_setRow (BD.out.trans (H5.out.mono BD.out.size)) hg1 _⟩
theorem rw_one {w : World} {lo p : Nat} {c : Pcd} (h : w.heap[p]? = some (.cells (encPc c).toArray 26 (0, 0))) (hl : lo <= p) : Rw w lo w.heap.size 26 EPc (some ⟨p, 0, none⟩) 1 1 [c] :=
 ⟨⟨rfl, .inr ⟨p, 1, _, rfl, hl, h, Nat.le_refl _, by decide, rfl, rfl⟩⟩, (fun q e => by cases e; exact (gl h)), by decide⟩
def nwO (x : Cm) (et : ByteArray) (l : List Pcd) (p : Nat) : Obx := ⟨obO x et l, some ⟨p, 0, none⟩, l.length, l.length⟩
set_option maxHeartbeats 8000000 in
theorem putObject_n {K : Nat} (hK : K + 1 <= 1048576) {w : World} {A : Array Value} {x : Cx} {lo hi b n : Nat} {X : List Bkx} {i : Nat} {y : Bkx} (hX : Hid (A = (encX x).toArray)) (hT : x.cm.ke.size <= K48 /\ x.cm.et.size <= K48) (hlo : lo <= w.heap.size) (hhi : hi <= w.heap.size) (hB : Hid (Bs K w lo hi b n X i y)) :
  Calls Tryz.prog 68 #[.pointer (some ⟨b, i * 5, none⟩), .agg A] w fun e w' => ∃ R, e = .returned (.agg R) /\ Hid (DoR K w w' lo hi b n X i y (putO y.bk x.cm) R) := by
 have a18 : A.size = 18 := encX_sz hX.out
 obtain ⟨w1, Hw1⟩ := nm ((w.alloc (.cells A 29)).alloc (.cells #[.int .i64 0,.string ⟨#[]⟩] 51))
 obtain ⟨g, Hg⟩ := nm (w.heap.size)
 have B1 : Hid (Below w.heap.size w w1) := by rw [<- Hw1.out]; exact alloc2 w _ _
 have kx : Hid (w1.heap[g]? = some (.cells A 29 (0, 0))) := by
  rw [<- Hw1.out, <- Hg.out]
  exact ((alloc1 (w.alloc (.cells A 29)) _).block w.heap.size (by simp)).trans (heap_alloc_new w _)
 have kr : Hid (w1.heap[g + 1]? = some (.cells #[.int .i64 0,.string ⟨#[]⟩] 51 (0, 0))) := by
  rw [<- Hw1.out, <- Hg.out]
  have e : (w.alloc (.cells A 29)).heap.size = w.heap.size + 1 := by simp
  rw [<- e]
  exact heap_alloc_new _ _
 have S1 : Hid (Bs K w1 lo hi b n X i y) := hB.out.below B1.out
 go_enter Tryz.func68, Tryz.ntmps68
 go_upto_region 1 with (fail)
 rw [Hw1.out, Hg.out]
 clear Hw1
 have A5 : Hid (A[5]? = some (.string x.cm.ke)) := by rw [hX.out]; rfl
 have A9 : Hid (A[9]? = some (.int .i64 x.cm.b0)) := by rw [hX.out]; rfl
 have A10 : Hid (A[10]? = some (.int .i64 x.cm.b1)) := by rw [hX.out]; rfl
 have A11 : Hid (A[11]? = some (.int .i64 x.cm.b2)) := by rw [hX.out]; rfl
 have A12 : Hid (A[12]? = some (.int .i64 x.cm.sz)) := by rw [hX.out]; rfl
 have A13 : Hid (A[13]? = some (.string x.cm.et)) := by rw [hX.out]; rfl
 have q1 : w1.cell? ⟨g, 5, none⟩ = some (.string x.cm.ke) := cell_arr kx.out A5.out
 have hK' : K <= 1048576 := by omega
 obtain ⟨rm, HRM⟩ := nm (roomO y.bk x.cm.ke)
 rcases rm with _ | _
 . have IB : Hid (putO y.bk x.cm = (y.bk, noO 7)) := by show _ = _; unfold putO; rw [HRM.out, if_neg (by decide)]
   go_upto_region 2 with (go_at_call 95; refine (hasRoom_n hK' x.cm.ke S1).mono ?_; rintro e w2 ⟨rfl, H2⟩; rw [HRM.out])
   clear q1
   have kr2 := sh H2 kr
   have S2 : Hid (Bs K w2 lo hi b n X i y) := S1.out.below H2.out
   have B2 := bt B1 H2
   obtain ⟨R, HR⟩ := nm ((#[.int .i64 7,.string ⟨#[]⟩] : Array Value))
   have a5' : (Tryz.prog.info? 51).map (·.size) = some R.size := by rw [<- HR.out]; exact outZ
   have AA : Hid (R.all (·.oneCell') = true) := (show R.all (·.oneCell') = true by rw [<- HR.out]; kernel_rfl)
   have a6' : Hid (R.size = 2) := (show R.size = 2 by rw [<- HR.out]; rfl)
   go_wp2_with (first
    | (go_at_call 78; refine (refused_n 7 _).mono ?_; rintro e w7 ⟨rfl, H7⟩; rw [HR.out]; have r7 := sh H7 kr2)
    | (refine wpList_store_row (by rfl) 51 (.tmp 4) (.tmp 10) (by rfl) (g + 1) R (by rfl) (by rfl) 51 _ r7.out a5' (by rw [a6'.out]; rfl) AA.out ?_))
   refine bodyPost_ret (results_cell_row Tryz.results68 _ _ (g + 1) 51 R (0, 0) _ (by rfl) (setRow_heap _ _ _ _ _ _ r7.out) Tryz.underlying51 rfl a5') rfl ?_
   refine ⟨R, rfl, ?_⟩
   rw [IB.out]
   exact do_same (g := g + 1) HR.out.symm rfl S2.out B2.out H7.out kr2.out (by have := Hg.out; omega)
 . have IB : Hid (putO y.bk x.cm = ({ y.bk with obs := setB (byK x.cm.ke) y.bk.obs (obO x.cm x.cm.et [pcO x.cm]) }, ⟨0, x.cm.et⟩)) := by show _ = _; unfold putO; rw [HRM.out, if_pos rfl]
   go_upto_region 3 with (go_at_call 95; refine (hasRoom_n hK' x.cm.ke S1).mono ?_; rintro e w2 ⟨rfl, H2⟩; rw [HRM.out])
   clear q1
   have B2 := bt B1 H2
   obtain ⟨wd, Hwd⟩ := nm (w2.drew)
   obtain ⟨K0, HK0⟩ := nm (K)
   have BD : Hid (Below w.heap.size w wd) := by rw [<- Hwd.out]; exact B2.out.drew
   have SD : Hid (Bs K0 wd lo hi b n X i y /\ wd.heap[g]? = some (.cells A 29 (0, 0))) := by
    rw [<- Hwd.out, <- HK0.out]
    have S2 := S1.out.below H2.out
    exact ⟨⟨S2.r.keep (fun _ _ _ _ => rfl), S2.x, bkC_stays K _ _ _ _ _ S2.c (fun _ _ _ _ => rfl)⟩, (H2.out.block g (gl kx.out)).trans kx.out⟩
   have KRD : Hid (wd.heap[g + 1]? = some (.cells #[.int .i64 0,.string ⟨#[]⟩] 51 (0, 0))) := by rw [<- Hwd.out]; exact (H2.out.block (g + 1) (gl kr.out)).trans kr.out
   have OC : Hid (y.oc = y.on) := SD.out.1.c.c.1
   have hoK : y.on + 1 <= 1048576 := by have := SD.out.1.c.b.k.1; have := HK0.out; omega
   have hloD : lo <= wd.heap.size := Nat.le_trans hlo BD.out.size
   refine wp_region_till (S := tillP 18 (fun W => Rw W lo hi 65 EBk (some ⟨b, 0, none⟩) n n X /\ W.heap[g]? = some (.cells A 29 (0, 0)))) (by kernel_rfl) (.inr (by rw [Hwd.out]; exact ⟨SD.out.1.r, SD.out.2⟩)) (fun hS => ?_)
   rw [Hwd.out] at hS ⊢
   clear Hwd
   refine tkp (i := 0) (v := .pointer (some ⟨b, i * 5, none⟩)) rfl hS (fun hSb => ?_)
   simp only [pA,pB,pC,Act.put,pD,pE,pF]
   clear hS
   refine tkp (i := 1) (v := .pointer (some ⟨b, i * 5, none⟩)) rfl hSb (fun hS => ?_)
   simp only [pA,pB,pC,Act.put,pD,pE,pF]
   clear hSb
   refine tkp (i := 2) (v := .pointer (some ⟨b, i * 5, none⟩)) rfl hS (fun hSb => ?_)
   simp only [pA,pB,pC,Act.put,pD,pE,pF]
   clear hS
   refine tkp (i := 3) (v := .pointer (some ⟨b, i * 5 + 3, none⟩)) rfl hSb (fun hS => ?_)
   simp only [pA,pB,pC,Act.put,pD,pE,pF]
   clear hSb
   refine trd (i := 4) (c := 18) (v := .slice y.oa y.on y.oc) (T := fun W => Rw W lo hi 65 EBk (some ⟨b, 0, none⟩) n n X /\ W.heap[g]? = some (.cells A 29 (0, 0))) rfl rfl (fun L w => tillP_set (by decide)) (fun L w h1 h2 => tillP_out h1 h2) (Or.inl ⟨by rfl, fun w h => by have q9 := row3 h.1 SD.out.1.x; go_simp⟩) hS (fun hSb => ?_)
   simp only [pA,pB,pC,Act.put,pD,pE,pF]
   clear hS
   refine tkp (i := 5) (v := .pointer (some ⟨g, 5, none⟩)) rfl hSb (fun hS => ?_)
   simp only [pA,pB,pC,Act.put,pD,pE,pF]
   clear hSb
   refine trd (i := 6) (c := 18) (v := .string x.cm.ke) (T := fun W => Rw W lo hi 65 EBk (some ⟨b, 0, none⟩) n n X /\ W.heap[g]? = some (.cells A 29 (0, 0))) rfl rfl (fun L w => tillP_set (by decide)) (fun L w h1 h2 => tillP_out h1 h2) (Or.inl ⟨by rfl, fun w h => by have q9 := cell_arr h.2 A5.out; go_simp⟩) hS (fun hSb => ?_)
   simp only [pA,pB,pC,Act.put,pD,pE,pF]
   clear hS
   refine trd (i := 7) (c := 18) (v := .agg A) (T := fun W => Rw W lo hi 65 EBk (some ⟨b, 0, none⟩) n n X /\ W.heap[g]? = some (.cells A 29 (0, 0))) rfl rfl (fun L w => tillP_set (by decide)) (fun L w h1 h2 => tillP_out h1 h2) (yl_any (by rfl) (by rfl) (by rfl) (fun W h => run_loadVar_row W g 29 29 A (0, 0) _ h.2 Tryz.underlying29 rfl (info29 a18))) hSb (fun hS => ?_)
   simp only [pA,pB,pC,Act.put,pD,pE,pF]
   clear hSb
   refine tkp (i := 8) (v := .pointer (some ⟨g, 9, none⟩)) rfl hS (fun hSb => ?_)
   simp only [pA,pB,pC,Act.put,pD,pE,pF]
   clear hS
   refine tkp (i := 9) (v := .pointer (some ⟨g, 13, none⟩)) rfl hSb (fun hS => ?_)
   simp only [pA,pB,pC,Act.put,pD,pE,pF]
   clear hSb
   refine trd (i := 10) (c := 18) (v := .string x.cm.et) (T := fun W => Rw W lo hi 65 EBk (some ⟨b, 0, none⟩) n n X /\ W.heap[g]? = some (.cells A 29 (0, 0))) rfl rfl (fun L w => tillP_set (by decide)) (fun L w h1 h2 => tillP_out h1 h2) (Or.inl ⟨by rfl, fun w h => by have q9 := cell_arr h.2 A13.out; go_simp⟩) hS (fun hSb => ?_)
   simp only [pA,pB,pC,Act.put,pD,pE,pF]
   clear hS
   refine tkp (i := 11) (v := .pointer (some ⟨g, 9, none⟩)) rfl hSb (fun hS => ?_)
   simp only [pA,pB,pC,Act.put,pD,pE,pF]
   clear hSb
   refine trd (i := 12) (c := 18) (v := .agg #[.int .i64 x.cm.b0,.int .i64 x.cm.b1,.int .i64 x.cm.b2,.int .i64 x.cm.sz,.string x.cm.et]) (T := fun W => Rw W lo hi 65 EBk (some ⟨b, 0, none⟩) n n X /\ W.heap[g]? = some (.cells A 29 (0, 0))) rfl rfl (fun L w => tillP_set (by decide)) (fun L w h1 h2 => tillP_out h1 h2) (Or.inl ⟨by rfl, fun w h => by have q1 := cell_arr h.2 A9.out; have q2 := cell_arr h.2 A10.out; have q3 := cell_arr h.2 A11.out; have q4 := cell_arr h.2 A12.out; have q5 := cell_arr h.2 A13.out; go_simp⟩) hS (fun hSb => ?_)
   simp only [pA,pB,pC,Act.put,pD,pE,pF]
   clear hS
   refine till_one (i := 13) (by kernel_rfl) rfl (fun K hK => ?_)
   simp only [pA,pB,pC]
   rw [if_pos (by rfl)]
   go_simp
   obtain ⟨p, Hp⟩ := nm (wd.heap.size)
   obtain ⟨w4, Hw4⟩ := nm (wd.alloc (.cells #[.int .i64 x.cm.b0,.int .i64 x.cm.b1,.int .i64 x.cm.b2,.int .i64 x.cm.sz,.string x.cm.et] 26))
   have k4 : Hid (w4.heap[p]? = some (.cells (encPc (pcO x.cm)).toArray 26 (0, 0))) := by rw [<- Hw4.out, <- Hp.out]; exact heap_alloc_new wd _
   have B4 : Hid (Below wd.heap.size wd w4) := by rw [<- Hw4.out]; exact alloc1 wd _
   rw [Hw4.out, Hp.out]
   have SD4 : Hid (Bs K0 w4 lo hi b n X i y /\ w4.heap[g]? = some (.cells A 29 (0, 0))) := ⟨SD.out.1.below B4.out, (B4.out.block g (gl SD.out.2)).trans SD.out.2⟩
   have P4 : Hid (Rw w4 lo w4.heap.size 26 EPc (some ⟨p, 0, none⟩) 1 1 [pcO x.cm]) := rw_one k4.out (by rw [<- Hp.out]; exact hloD)
   refine hK.out _ _ (Or.inr ⟨SD4.out.1.r, SD4.out.2⟩) (fun hS => ?_)
   clear hK K
   try simp only [pA,pB,pC,Act.put,pD,pE,pF]
   clear hSb
   refine till_one (i := 14) (by kernel_rfl) rfl (fun K hK => ?_)
   simp only [pA,pB,pC]
   rw [if_pos (by rfl)]
   go_simp
   go_wp2_with (go_at_call 97; refine (objectOf_n x.cm.et hX P4 (by decide)).mono ?_; rintro e w6 ⟨rfl, H6⟩)
   have SD6 : Hid (Bs K0 w6 lo hi b n X i y /\ w6.heap[g]? = some (.cells A 29 (0, 0))) := ⟨SD4.out.1.below H6.out, (H6.out.block g (gl SD4.out.2)).trans SD4.out.2⟩
   have P6 : Hid (Rw w6 lo w6.heap.size 26 EPc (some ⟨p, 0, none⟩) 1 1 [pcO x.cm]) := (P4.out.below H6.out).full
   have OW6 : Hid (Rw w6 lo hi 71 EOb y.oa y.on y.on y.ox) := by have h := SD6.out.1.c.b.o; rw [OC.out] at h; exact h
   have BW6 : Hid (Below w.heap.size w w6) := (BD.out.trans (B4.out.mono BD.out.size)).trans (H6.out.mono (Nat.le_trans BD.out.size B4.out.size))
   have hlo6 : lo <= w6.heap.size := Nat.le_trans hlo BW6.out.size
   refine hK.out _ _ (Or.inr ⟨SD6.out.1.r, SD6.out.2⟩) (fun hSb => ?_)
   clear hK K
   try simp only [pA,pB,pC,Act.put,pD,pE,pF]
   clear hS
   refine till_one (i := 15) (by kernel_rfl) rfl (fun K hK => ?_)
   simp only [pA,pB,pC]
   rw [if_pos (by rfl)]
   go_simp
   rw [OC.out]
   go_wp2_with (go_at_call 96; refine (set_O (y := nwO x.cm x.cm.et [pcO x.cm] p) x.cm.ke OW6 hlo6 hoK (show Hid _ from rfl)).mono ?_; rintro e w5 ⟨a5, n5, c5, rfl, H5⟩)
   have S5 := (SD6.out.1.obs H5.out.2).1
   have q3 := row3 S5 SD6.out.1.x
   have f3 := S5.row.frozenAt (i * 5 + 3)
   have kx5 : Hid (w5.heap[g]? = some (.cells A 29 (0, 0))) := (H5.out.2.block g (gl SD6.out.2) (fun e => by have h2 := SD6.out.2; obtain ⟨cur, h1, _⟩ := OW6.out.blk e; rw [h1] at h2; simp at h2)).trans SD6.out.2
   refine hK.out _ _ (Or.inr ⟨S5, kx5.out⟩) (fun hS => ?_)
   clear hK K
   try simp only [pA,pB,pC,Act.put,pD,pE,pF]
   clear hSb
   refine tkp (i := 16) (v := .pointer (some ⟨b, i * 5, none⟩)) rfl hS (fun hSb => ?_)
   simp only [pA,pB,pC,Act.put,pD,pE,pF]
   clear hS
   refine tkp (i := 17) (v := .pointer (some ⟨b, i * 5 + 3, none⟩)) rfl hSb (fun hS => ?_)
   simp only [pA,pB,pC,Act.put,pD,pE,pF]
   clear hSb
   refine till_one (i := 18) (by kernel_rfl) rfl (fun K hK => ?_)
   simp only [pA,pB,pC]
   rw [if_pos (by rfl)]
   go_simp
   refine hK.out _ _ (Or.inl (by kernel_rfl)) (fun hSb => ?_)
   clear hK K
   try simp only [pA,pB,pC,Act.put,pD,pE,pF]
   clear hS
   refine till_done (by kernel_rfl) ?_ _
   clear hSb
   show (Exit.then _ _) .normal _ _
   have hh5 : hi <= w5.heap.size := Nat.le_trans hhi (Nat.le_trans BW6.out.size H5.out.2.size)
   have P5 : Hid (Rw w5 lo w5.heap.size 26 EPc (some ⟨p, 0, none⟩) 1 1 [pcO x.cm]) := (P6.out.keep1 (fun q e => H5.out.2.block q (P6.out.lt e).2 (fun e2 => P6.out.apart OW6.out (by decide) e e2))).full
   have HH := do_objs (K := K0) (h2 := w5.heap.size) SD6.out.1 BW6.out H5.out.2 H5.out.1 (fun o ho => by
    rcases setX_mem ho with rfl | h
    . exact ⟨P5.out, (fun p hp => by cases hp with | head => exact ⟨hT.2⟩ | tail _ h => cases h), (show 1 <= K0 + 1 by omega), hT⟩
    . exact (((SD6.out.1.obs H5.out.2).2.1 o h).up (Nat.le_succ K0)).mono (Nat.le_refl _) hh5) (by have h1 := H5.out.1.len; have h2 := setX_len (byK x.cm.ke) Obx.ob y.ox (nwO x.cm x.cm.et [pcO x.cm] p); have h3 := OW6.out.len; have h4 := SD6.out.1.c.b.k.1; omega) hh5
   have R3 : Hid _ := HH.1
   have BO3 : Hid _ := HH.2.1
   have C3 : Hid _ := HH.2.2
   have kr6 : Hid (w6.heap[g + 1]? = some (.cells #[.int .i64 0,.string ⟨#[]⟩] 51 (0, 0))) := (H6.out.block (g + 1) (Nat.lt_of_lt_of_le (gl KRD.out) B4.out.size)).trans ((B4.out.block (g + 1) (gl KRD.out)).trans KRD.out)
   have nb3 : Hid (g ≠ b) := fun e => by
    obtain ⟨cur, hc, _⟩ := SD.out.1.r.blk (q := b) rfl
    have h := SD.out.2
    rw [e, hc] at h
    cases h
   have kr3 : Hid ((w5.setCell ⟨b, i * 5 + 3, none⟩ (.slice a5 n5 c5)).heap[g + 1]? = some (.cells #[.int .i64 0,.string ⟨#[]⟩] 51 (0, 0))) := by
    refine (Below.heap_setCell _ _ _ _ (fun e => ?_)).trans ((H5.out.2.block (g + 1) (gl kr6.out) (fun e => ?_)).trans kr6.out)
    . obtain ⟨cur, hc, _⟩ := SD.out.1.r.blk (q := b) rfl
      have h := KRD.out
      rw [e, hc] at h
      cases h
    . obtain ⟨cur, hc, _⟩ := OW6.out.blk e
      have h := kr6.out
      rw [hc] at h
      cases h
   have kx3 : Hid ((w5.setCell ⟨b, i * 5 + 3, none⟩ (.slice a5 n5 c5)).heap[g]? = some (.cells A 29 (0, 0))) := (Below.heap_setCell _ _ _ _ nb3.out).trans kx5.out
   have ZB : Hid (Bkx.bk { y with oa := a5, on := n5, oc := c5, ox := setX (byK x.cm.ke) Obx.ob y.ox (nwO x.cm x.cm.et [pcO x.cm] p) } = (putO y.bk x.cm).1) := by
    rw [IB.out]
    show _ = _
    simp only [Bkx.bk, setX_map, nwO]
   have E7 : Hid ((putO y.bk x.cm).2 = ⟨0, x.cm.et⟩) := by rw [IB.out]; exact rfl
   obtain ⟨w3, Hw3⟩ := nm (w5.setCell ⟨b, i * 5 + 3, none⟩ (.slice a5 n5 c5))
   rw [Hw3.out] at R3 BO3 C3 kr3 kx3 ⊢
   clear Hw3 HH H5 q3 f3 S5
   have q2 : w3.cell? ⟨g, 13, none⟩ = some (.string x.cm.et) := cell_arr kx3.out A13.out
   obtain ⟨R, HR⟩ := nm ((#[.int .i64 0,.string x.cm.et] : Array Value))
   have a5' : (Tryz.prog.info? 51).map (·.size) = some R.size := by rw [<- HR.out]; exact outZ
   have AA : Hid (R.all (·.oneCell') = true) := (show R.all (·.oneCell') = true by rw [<- HR.out]; simp [Value.oneCell'])
   have a6' : Hid (R.size = 2) := (show R.size = 2 by rw [<- HR.out]; rfl)
   go_wp2_with (first
    | (go_at_call 98; refine (doneWith_n x.cm.et _).mono ?_; rintro e w7 ⟨rfl, H7⟩; rw [HR.out]; have r7 := sh H7 kr3)
    | (refine wpList_store_row (by rfl) 51 (.tmp 4) (.tmp 32) (by rfl) (g + 1) R (by rfl) (by rfl) 51 _ r7.out a5' (by rw [a6'.out]; rfl) AA.out ?_))
   refine bodyPost_ret (results_cell_row Tryz.results68 _ _ (g + 1) 51 R (0, 0) _ (by rfl) (setRow_heap _ _ _ _ _ _ r7.out) Tryz.underlying51 rfl a5') rfl ?_
   refine ⟨R, rfl, ?_⟩
   rw [HK0.out]
   exact do_end (g := g + 1) (by rw [E7.out]; exact HR.out.symm) ZB.out R3.out BO3.out C3.out H7.out kr3.out (by have := Hg.out; omega)
end Go.Proofs.YtfabnnbljkkihaaGreatDoor
