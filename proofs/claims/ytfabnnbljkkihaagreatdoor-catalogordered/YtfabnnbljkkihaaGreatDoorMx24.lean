import Derived.Test.YtfabnnbljkkihaaGreatDoorMxp
import Derived.Test.YtfabnnbljkkihaaGreatDoorMx21
import Derived.Test.YtfabnnbljkkihaaGreatDoorMx22
namespace Go.Proofs.YtfabnnbljkkihaaGreatDoor
open Go.ChangeShapes Go.WideShapes Go.ChangeAt Go.RowKit
set_option maxRecDepth 20000
set_option linter.unusedVariables false
set_option linter.unusedSimpArgs false
def upL (l : List Uld) (key : ByteArray) (i0 i1 i2 : Int) : Option Uld := (l[plcB (byU i0 i1 i2) l]?).filter (fun u => isB (byU i0 i1 i2) l && decide (u.key = key))
theorem strBx (x y : ByteArray) : (x.toList == y.toList) = decide (x = y) := by
 rw [ByteArray.toList_eq, ByteArray.toList_eq]
 by_cases h : x = y
 . subst h; simp
 . have h2 : ¬ (x.data.toList = y.data.toList) := fun e => h (ByteArray.ext (Array.toList_inj.1 e))
   rw [decide_eq_false h]
   simpa using h2
set_option maxHeartbeats 8000000 in
theorem findUpload_n {w : World} {lo hi : Nat} {a : Option Addr} {n c : Nat} {X : List Ulx} (key : ByteArray) (i0 i1 i2 : Int) (hA : Hid (Rw w lo hi 77 EUl a n c X)) (hn : n <= 1048576) :
  Calls Tryz.prog 55 #[.slice a n c,.string key, .agg #[.int .i64 i0,.int .i64 i1,.int .i64 i2]] w fun e w' => e = .returned (.tuple #[.int .i64 (plcB (byU i0 i1 i2) (X.map Ulx.ul) : Nat), .bool (upL (X.map Ulx.ul) key i0 i1 i2).isSome]) /\ Hid (Below w.heap.size w w') := by
 have LX : Hid (n = X.length) := hA.out.len
 obtain ⟨w1, Hw1⟩ := nm (w.alloc (.cells #[.int .i64 i0,.int .i64 i1,.int .i64 i2] 24))
 obtain ⟨g, Hg⟩ := nm (w.heap.size)
 have B1 : Hid (Below w.heap.size w w1) := by rw [<- Hw1.out]; exact alloc1 w _
 have k1 : Hid (w1.heap[g]? = some (.cells #[.int .i64 i0,.int .i64 i1,.int .i64 i2] 24 (0, 0))) := by rw [<- Hw1.out, <- Hg.out]; exact heap_alloc_new w _
 have A1 : Hid (Rw w1 lo hi 77 EUl a n c X) := hA.out.below B1.out
 obtain ⟨p, Hp⟩ := nm (plcB (byU i0 i1 i2) (X.map Ulx.ul))
 obtain ⟨is, HIS⟩ := nm (isB (byU i0 i1 i2) (X.map Ulx.ul))
 rw [Hp.out]
 go_enter Tryz.func55, Tryz.ntmps55
 go_upto_region 1 with (fail)
 rw [Hw1.out, Hg.out]
 clear Hw1
 have q1 : w1.cell? ⟨g, 0, none⟩ = some (.int .i64 i0) := cell_arr k1.out rfl
 have q2 : w1.cell? ⟨g, 1, none⟩ = some (.int .i64 i1) := cell_arr k1.out rfl
 have q3 : w1.cell? ⟨g, 2, none⟩ = some (.int .i64 i2) := cell_arr k1.out rfl
 go_upto_region 2 with (go_at_call 87; refine (findU i0 i1 i2 A1 hn).mono ?_; rintro e w2 ⟨rfl, H2⟩; rw [Hp.out, HIS.out])
 clear q1 q2 q3
 have B2 := bt B1 H2
 rcases is with _ | _
 . have UV : Hid ((upL (X.map Ulx.ul) key i0 i1 i2).isSome = false) := by
    show _ = _
    unfold upL
    rw [HIS.out]
    simp
   go_quiet (fail)
   go_wp2
   go_ret2
   exact ⟨by rw [UV.out]; rfl, below_drewN B2.out _⟩
 . have pl : p < n := by rw [<- Hp.out, LX.out]; rw [<- List.length_map (f := Ulx.ul)]; exact isB_lt HIS.out
   have i1' : (p : Int) < (n : Int) := by omega
   have kx : p < X.length := by rw [<- LX.out]; exact pl
   obtain ⟨b1, rfl, _, _, e1⟩ := (hA.out.below B2.out).at_ kx
   obtain ⟨u, Hu⟩ := nm (X[p])
   rw [Hu.out] at e1
   have EU : Hid (X[p]? = some u) := by show _ = _; rw [<- Hu.out]; exact List.getElem?_eq_getElem kx
   have UV : Hid ((upL (X.map Ulx.ul) key i0 i1 i2).isSome = decide (u.ul.key = key)) := by
    show _ = _
    unfold upL
    rw [HIS.out, Hp.out, List.getElem?_map, EU.out]
    by_cases h : u.ul.key = key <;> simp [h]
   have q4 : ∀ j, (w2.drewN j).cell? ⟨b1, p * 5 + 3, none⟩ = some (.string u.ul.key) := fun j => e1 3 _ rfl
   have q5 : ∀ j, (w2.drewN j).cell? ⟨b1, p * 5, none⟩ = some (.int .i64 u.ul.i0) := fun j => e1 0 _ rfl
   clear e1 Hu kx
   go_quiet (fail)
   go_wp2
   go_ret2
   exact ⟨by rw [UV.out, <- strBx]; rfl, below_drewN B2.out _⟩
set_option maxHeartbeats 8000000 in
theorem abortUpload_n {K : Nat} (hK : K <= 1048576) {w : World} {A : Array Value} {x : Cx} {lo hi b n : Nat} {X : List Bkx} {i : Nat} {y : Bkx} (up : Value) (hX : Hid (A = (encX x).toArray)) (hB : Hid (Bs K w lo hi b n X i y)) :
  Calls Tryz.prog 74 #[.pointer (some ⟨b, i * 5, none⟩), up, .agg A] w fun e w' => ∃ R, e = .returned (.agg R) /\ Hid (DoR K w w' lo hi b n X i y ({ y.bk with uls := outB (byU x.cm.u0 x.cm.u1 x.cm.u2) y.bk.uls }, okO) R) := by
 have a18 : A.size = 18 := encX_sz hX.out
 obtain ⟨w1, Hw1⟩ := nm ((w.alloc (.cells A 29)).alloc (.cells #[.int .i64 0,.string ⟨#[]⟩] 51))
 obtain ⟨g, Hg⟩ := nm (w.heap.size)
 have B1 : Hid (Below w.heap.size w w1) := by rw [<- Hw1.out]; exact alloc2 w _ _
 have kx : Hid (w1.heap[g]? = some (.cells A 29 (0, 0))) := by
  rw [<- Hw1.out, <- Hg.out]
  exact ((alloc1 (w.alloc (.cells A 29)) _).block w.heap.size (by simp)).trans (heap_alloc_new w _)
 have kr : Hid (w1.heap[g + 1]? = some (.cells #[.int .i64 0,.string ⟨#[]⟩] 51 (0, 0))) := by
  rw [<- Hw1.out, <- Hg.out]
  have e : (w.alloc (.cells A 29)).heap.size = w.heap.size + 1 := by simp
  rw [<- e]
  exact heap_alloc_new _ _
 have S1 : Hid (Bs K w1 lo hi b n X i y) := hB.out.below B1.out
 go_enter Tryz.func74, Tryz.ntmps74
 go_upto_region 1 with (fail)
 rw [Hw1.out, Hg.out]
 clear Hw1
 have A6 : Hid (A[6]? = some (.int .i64 x.cm.u0)) := by rw [hX.out]; rfl
 have A7 : Hid (A[7]? = some (.int .i64 x.cm.u1)) := by rw [hX.out]; rfl
 have A8 : Hid (A[8]? = some (.int .i64 x.cm.u2)) := by rw [hX.out]; rfl
 obtain ⟨wd, Hwd⟩ := nm (w1.drew)
 have BD : Hid (Below w.heap.size w wd) := by rw [<- Hwd.out]; exact B1.out.drew
 have SD : Hid (Bs K wd lo hi b n X i y /\ wd.heap[g]? = some (.cells A 29 (0, 0))) := by rw [<- Hwd.out]; exact ⟨⟨S1.out.r.keep (fun _ _ _ _ => rfl), S1.out.x, bkC_stays K _ _ _ _ _ S1.out.c (fun _ _ _ _ => rfl)⟩, kx.out⟩
 have KRD : Hid (wd.heap[g + 1]? = some (.cells #[.int .i64 0,.string ⟨#[]⟩] 51 (0, 0))) := by rw [<- Hwd.out]; exact kr.out
 have OC : Hid (y.uc = y.un) := SD.out.1.c.c.2
 have OW1 : Hid (Rw wd lo hi 77 EUl y.ua y.un y.un y.ux) := by have h := SD.out.1.c.b.u; rw [OC.out] at h; exact h
 have hoK : y.un <= 1048576 := Nat.le_trans SD.out.1.c.b.k.2 hK
 refine wp_region_till (S := tillP 7 (fun W => Bs K W lo hi b n X i y /\ W.heap[g]? = some (.cells A 29 (0, 0)))) (by kernel_rfl) (.inr (by rw [Hwd.out]; exact SD.out)) (fun hS => ?_)
 rw [Hwd.out] at hS ⊢
 refine tkp (i := 0) (v := .pointer (some ⟨b, i * 5, none⟩)) rfl hS (fun hSb => ?_)
 simp only [pA,pB,pC,Act.put,pD,pE,pF]
 clear hS
 refine tkp (i := 1) (v := .pointer (some ⟨b, i * 5, none⟩)) rfl hSb (fun hS => ?_)
 simp only [pA,pB,pC,Act.put,pD,pE,pF]
 clear hSb
 refine tkp (i := 2) (v := .pointer (some ⟨b, i * 5, none⟩)) rfl hS (fun hSb => ?_)
 simp only [pA,pB,pC,Act.put,pD,pE,pF]
 clear hS
 refine tkp (i := 3) (v := .pointer (some ⟨b, i * 5 + 4, none⟩)) rfl hSb (fun hS => ?_)
 simp only [pA,pB,pC,Act.put,pD,pE,pF]
 clear hSb
 refine trd (i := 4) (c := 7) (v := .slice y.ua y.un y.uc) (T := fun W => Bs K W lo hi b n X i y /\ W.heap[g]? = some (.cells A 29 (0, 0))) rfl rfl (fun L w => tillP_set (by decide)) (fun L w h1 h2 => tillP_out h1 h2) (Or.inl ⟨by rfl, fun w h => by have q9 := h.1.c4; go_simp⟩) hS (fun hSb => ?_)
 simp only [pA,pB,pC,Act.put,pD,pE,pF]
 clear hS
 refine tkp (i := 5) (v := .pointer (some ⟨g, 6, none⟩)) rfl hSb (fun hS => ?_)
 simp only [pA,pB,pC,Act.put,pD,pE,pF]
 clear hSb
 refine trd (i := 6) (c := 7) (v := .agg #[.int .i64 x.cm.u0,.int .i64 x.cm.u1,.int .i64 x.cm.u2]) (T := fun W => Bs K W lo hi b n X i y /\ W.heap[g]? = some (.cells A 29 (0, 0))) rfl rfl (fun L w => tillP_set (by decide)) (fun L w h1 h2 => tillP_out h1 h2) (Or.inl ⟨by rfl, fun w h => by have q1 := cell_arr h.2 A6.out; have q2 := cell_arr h.2 A7.out; have q3 := cell_arr h.2 A8.out; go_simp⟩) hS (fun hSb => ?_)
 simp only [pA,pB,pC,Act.put,pD,pE,pF]
 clear hS
 refine till_one (i := 7) (by kernel_rfl) rfl (fun K hK => ?_)
 simp only [pA,pB,pC]
 rw [if_pos (by rfl)]
 go_simp
 rw [OC.out]
 go_wp2_with (go_at_call 106; refine (out_U x.cm.u0 x.cm.u1 x.cm.u2 OW1 hoK).mono ?_; rintro e w5 ⟨n5, rfl, H5⟩)
 have S5 := (SD.out.1.upl H5.out.2).1
 have q3 := row4 S5 SD.out.1.x
 have f3 := S5.row.frozenAt (i * 5 + 4)
 refine hK.out _ _ (Or.inl (by kernel_rfl)) (fun hS => ?_)
 clear hK K
 try simp only [pA,pB,pC,Act.put,pD,pE,pF]
 clear hSb
 refine tkp (i := 8) (v := .pointer (some ⟨b, i * 5, none⟩)) rfl hS (fun hSb => ?_)
 simp only [pA,pB,pC,Act.put,pD,pE,pF]
 clear hS
 refine tkp (i := 9) (v := .pointer (some ⟨b, i * 5 + 4, none⟩)) rfl hSb (fun hS => ?_)
 simp only [pA,pB,pC,Act.put,pD,pE,pF]
 clear hSb
 refine till_one (i := 10) (by kernel_rfl) rfl (fun K hK => ?_)
 simp only [pA,pB,pC]
 rw [if_pos (by rfl)]
 go_simp
 refine hK.out _ _ (Or.inl (by kernel_rfl)) (fun hSb => ?_)
 clear hK K
 try simp only [pA,pB,pC,Act.put,pD,pE,pF]
 clear hS
 refine till_done (by kernel_rfl) ?_ _
 clear hSb
 show (Exit.then _ _) .normal _ _
 have HH := do_upls (K := K) (h2 := hi) SD.out.1 BD.out H5.out.2 H5.out.1 (fun o ho => ((SD.out.1.upl H5.out.2).2.1 o (outX_mem ho)).up (Nat.le_succ K)) (by have h1 := H5.out.1.len; have h2 := outX_len (byU x.cm.u0 x.cm.u1 x.cm.u2) Ulx.ul y.ux; have h3 := OW1.out.len; have h4 := SD.out.1.c.b.k.2; omega) (Nat.le_refl _)
 have R3 : Hid _ := HH.1
 have BO3 : Hid _ := HH.2.1
 have C3 : Hid _ := HH.2.2
 have kr3 : Hid ((w5.setCell ⟨b, i * 5 + 4, none⟩ (.slice y.ua n5 y.un)).heap[g + 1]? = some (.cells #[.int .i64 0,.string ⟨#[]⟩] 51 (0, 0))) := by
  refine (Below.heap_setCell _ _ _ _ (fun e => ?_)).trans ((H5.out.2.block (g + 1) (gl KRD.out) (fun e => ?_)).trans KRD.out)
  . obtain ⟨cur, hc, _⟩ := SD.out.1.r.blk (q := b) rfl
    have h := KRD.out
    rw [e, hc] at h
    cases h
  . obtain ⟨cur, hc, _⟩ := OW1.out.blk e
    have h := KRD.out
    rw [hc] at h
    cases h
 have ZB : Hid (Bkx.bk { y with ua := y.ua, un := n5, uc := y.un, ux := outX (byU x.cm.u0 x.cm.u1 x.cm.u2) Ulx.ul y.ux } = { y.bk with uls := outB (byU x.cm.u0 x.cm.u1 x.cm.u2) y.bk.uls }) := by
  show _ = _
  simp only [Bkx.bk, outX_map]
 obtain ⟨w3, Hw3⟩ := nm (w5.setCell ⟨b, i * 5 + 4, none⟩ (.slice y.ua n5 y.un))
 rw [Hw3.out] at R3 BO3 C3 kr3 ⊢
 clear Hw3 HH H5 q3 f3 S5
 obtain ⟨R, HR⟩ := nm ((#[.int .i64 0,.string ⟨#[]⟩] : Array Value))
 have a5' : (Tryz.prog.info? 51).map (·.size) = some R.size := by rw [<- HR.out]; exact outZ
 have AA : Hid (R.all (·.oneCell') = true) := (show R.all (·.oneCell') = true by rw [<- HR.out]; kernel_rfl)
 have a6' : Hid (R.size = 2) := (show R.size = 2 by rw [<- HR.out]; rfl)
 go_wp2_with (first
  | (go_at_call 92; refine (done_n _).mono ?_; rintro e w7 ⟨rfl, H7⟩; rw [HR.out]; have r7 := sh H7 kr3)
  | (refine wpList_store_row (by rfl) 51 (.tmp 6) (.tmp 17) (by rfl) (g + 1) R (by rfl) (by rfl) 51 _ r7.out a5' (by rw [a6'.out]; rfl) AA.out ?_))
 refine bodyPost_ret (results_cell_row Tryz.results74 _ _ (g + 1) 51 R (0, 0) _ (by rfl) (setRow_heap _ _ _ _ _ _ r7.out) Tryz.underlying51 rfl a5') rfl ?_
 exact ⟨R, rfl, do_end (g := g + 1) HR.out.symm ZB.out R3.out BO3.out C3.out H7.out kr3.out (by have := Hg.out; omega)⟩
theorem rowU {W : World} {lo hi u n c j : Nat} {X : List Ulx} {v : Ulx} (h : Rw W lo hi 77 EUl (some ⟨u, 0, none⟩) n c X) (hx : X[j]? = some v) : W.cell? ⟨u, j * 5 + 4, none⟩ = some (.slice v.a v.n v.c) := by
 obtain ⟨hi', e⟩ := List.getElem?_eq_some_iff.1 hx
 obtain ⟨g, e2, _, _, hr⟩ := h.at_ hi'
 cases e2
 rw [e] at hr
 exact hr 4 _ rfl
theorem Rw.swap {α : Type} {E : Enc α} {w : World} {lo hi : Nat} {t : TypeId} {a : Option Addr} {n c i : Nat} {l : List α} {x y : α} (h : Rw w lo hi t E a n c l) (hx : l[i]? = some x) (he : E.e y = E.e x) : Rw w lo hi t E a n c (l.set i y) := by
 obtain ⟨hi', rfl⟩ := List.getElem?_eq_some_iff.1 hx
 have e : E.fl (l.set i y) = E.fl l := by
  rw [List.set_eq_take_append_cons_drop, if_pos hi', E.fl_app, E.fl_cut l hi', <- he]
  rfl
 exact ⟨by rw [e]; exact h.row, h.top, h.pos⟩
theorem part_off {K : Nat} {W W' : World} {lo hi b n : Nat} {X : List Bkx} {i j : Nat} {y : Bkx} {v : Ulx} (h : Bs K W lo hi b n X i y) (hv : y.ux[j]? = some v) (hc : Ch W W' (fun q => blkOf v.a = some q)) : Rw W' lo hi 77 EUl y.ua y.un y.uc y.ux /\ Rw W' lo hi 65 EBk (some ⟨b, 0, none⟩) n n X /\ Rw W' lo hi 71 EOb y.oa y.on y.oc y.ox /\ (∀ o ∈ y.ox, ObO K W' lo hi o) /\ (∀ k z, k ≠ j -> y.ux[k]? = some z -> UlO K W' lo hi z) := by
 have hb := h.c.b
 have hr := (hb.uu v (List.mem_of_getElem? hv)).r
 refine ⟨hb.u.keep1 (fun q e => hc.block q (hb.u.lt e).2 (fun e2 => hb.u.apart hr (by decide) e e2)), h.r.keep1 (fun q e => hc.block q (h.r.lt e).2 (fun e2 => h.r.apart hr (by decide) e e2)), hb.o.keep1 (fun q e => hc.block q (hb.o.lt e).2 (fun e2 => hb.o.apart hr (by decide) e e2)), fun o ho => ?_, fun k z hk hz => ?_⟩
 . have h1 := hb.oo o ho
   exact ⟨h1.r.keep1 (fun q e => hc.block q (h1.r.lt e).2 (fun e2 => h1.r.apart hr (by decide) e e2)), h1.p, h1.k, h1.s⟩
 . have h1 := hb.uu z (List.mem_of_getElem? hz)
   have hd := pair_at (fun _ _ => dif_symm) h.c.q hz hv hk
   exact ⟨h1.r.keep1 (fun q e => hc.block q (h1.r.lt e).2 (fun e2 => hd q e e2)), h1.p, h1.k, h1.s⟩
theorem do_part {K : Nat} {w W W2 : World} {lo hi h2 b n u : Nat} {X : List Bkx} {i j : Nat} {y : Bkx} {v : Ulx} {a' : Option Addr} {n' c' : Nat} {Y : List Ptd} (hS : Bs K W lo hi b n X i y) (hv : y.ux[j]? = some v) (hu : y.ua = some ⟨u, 0, none⟩) (B1 : Below w.heap.size w W) (hc : Ch W W2 (fun q => blkOf v.a = some q)) (RN : Rw W2 lo h2 108 EPt a' n' c' Y) (OY : ∀ p ∈ Y, PcO p.pc) (hn' : n' <= K + 1) (hh : hi <= h2) :
  Rw (W2.setCell ⟨u, j * 5 + 4, none⟩ (.slice a' n' c')) lo hi 65 EBk (some ⟨b, 0, none⟩) n n (X.set i { y with ux := y.ux.set j ⟨{ v.ul with pts := Y }, a', n', c'⟩ }) /\ BkO (K + 1) (W2.setCell ⟨u, j * 5 + 4, none⟩ (.slice a' n' c')) lo h2 { y with ux := y.ux.set j ⟨{ v.ul with pts := Y }, a', n', c'⟩ } /\ Ch w (W2.setCell ⟨u, j * 5 + 4, none⟩ (.slice a' n' c')) (SB b y) := by
 obtain ⟨r1, r2, r3, r4, r5⟩ := part_off hS hv hc
 have k := hS.c.b
 have r1' := r1
 rw [hu] at r1'
 obtain ⟨cur, hcur, _⟩ := r1'.blk (q := u) rfl
 have hb : ∀ q, q < W2.heap.size -> q ≠ u -> (W2.setCell ⟨u, j * 5 + 4, none⟩ (.slice a' n' c')).heap[q]? = W2.heap[q]? := fun q _ hq => Below.heap_setCell _ _ _ _ hq
 have hvk := k.uu v (List.mem_of_getElem? hv)
 refine ⟨(r2.off hb hcur (by decide)).swap hS.x rfl, ?_, ?_⟩
 . refine ⟨(r3.off hb hcur (by decide)).mono (Nat.le_refl _) hh, fun o ho => ?_, ?_, fun z hz => ?_, ⟨Nat.le_trans k.k.1 (Nat.le_succ K), Nat.le_trans k.k.2 (Nat.le_succ K)⟩, k.s⟩
   . have h1 := r4 o ho
     exact ⟨(h1.r.off hb hcur (by decide)).mono (Nat.le_refl _) hh, h1.p, Nat.le_trans h1.k (Nat.le_succ K), h1.s⟩
   . show Rw _ lo h2 77 EUl y.ua y.un y.uc _
     rw [hu]
     exact (r1'.setC hv (by decide) rfl).mono (Nat.le_refl _) hh
   . obtain ⟨m, hm⟩ := List.getElem?_of_mem hz
     by_cases e : m = j
     . subst e
       obtain ⟨hl, _⟩ := List.getElem?_eq_some_iff.1 hv
       rw [List.getElem?_set_self hl] at hm
       cases hm
       exact ⟨RN.off hb hcur (by decide), OY, hn', hvk.s⟩
     . rw [List.getElem?_set_ne (fun h => e h.symm)] at hm
       have h1 := r5 m z e hm
       exact ⟨(h1.r.off hb hcur (by decide)).mono (Nat.le_refl _) hh, h1.p, Nat.le_trans h1.k (Nat.le_succ K), h1.s⟩
 . refine ((Ch.below B1).trans (hc.weak (fun q _ e => .inr (.inr (.inr ⟨v, List.mem_of_getElem? hv, e⟩))))).trans ((Ch.set W2 u _ _).weak (fun q _ e => .inr (.inr (.inl ?_))))
   rw [hu, e]
   rfl
theorem setX_id {α : Type} (c : α -> Int) (X : List α) (y : α) : setX c id X y = setB c X y := by
 have h := setX_map c id X y
 rwa [List.map_id, List.map_id] at h
set_option maxHeartbeats 8000000 in
theorem putPart_n {K : Nat} (hK : K + 1 <= 1048576) {w : World} {A : Array Value} {x : Cx} {lo hi b n u : Nat} {X : List Bkx} {i j : Nat} {y : Bkx} {v : Ulx} (hX : Hid (A = (encX x).toArray)) (hT : x.cm.et.size <= K48) (hlo : lo <= w.heap.size) (hhi : hi <= w.heap.size) (hB : Hid (Bs K w lo hi b n X i y)) (EV : Hid (y.ux[j]? = some v)) (EA : Hid (y.ua = some ⟨u, 0, none⟩)) :
  Calls Tryz.prog 72 #[.pointer (some ⟨b, i * 5, none⟩), .pointer (some ⟨u, j * 5, none⟩), .agg A] w fun e w' => ∃ R, e = .returned (.agg R) /\ Hid (DoR K w w' lo hi b n X i y ({ y.bk with uls := y.bk.uls.set j { v.ul with pts := setB (byP x.cm.pt) v.ul.pts ⟨x.cm.pt, pcO x.cm⟩ } }, ⟨0, x.cm.et⟩) R) := by
 have a18 : A.size = 18 := encX_sz hX.out
 obtain ⟨w1, Hw1⟩ := nm ((w.alloc (.cells A 29)).alloc (.cells #[.int .i64 0,.string ⟨#[]⟩] 51))
 obtain ⟨g, Hg⟩ := nm (w.heap.size)
 have B1 : Hid (Below w.heap.size w w1) := by rw [<- Hw1.out]; exact alloc2 w _ _
 have kx : Hid (w1.heap[g]? = some (.cells A 29 (0, 0))) := by
  rw [<- Hw1.out, <- Hg.out]
  exact ((alloc1 (w.alloc (.cells A 29)) _).block w.heap.size (by simp)).trans (heap_alloc_new w _)
 have kr : Hid (w1.heap[g + 1]? = some (.cells #[.int .i64 0,.string ⟨#[]⟩] 51 (0, 0))) := by
  rw [<- Hw1.out, <- Hg.out]
  have e : (w.alloc (.cells A 29)).heap.size = w.heap.size + 1 := by simp
  rw [<- e]
  exact heap_alloc_new _ _
 have S1 : Hid (Bs K w1 lo hi b n X i y) := hB.out.below B1.out
 go_enter Tryz.func72, Tryz.ntmps72
 go_upto_region 1 with (fail)
 rw [Hw1.out, Hg.out]
 clear Hw1
 have A9 : Hid (A[9]? = some (.int .i64 x.cm.b0)) := by rw [hX.out]; rfl
 have A10 : Hid (A[10]? = some (.int .i64 x.cm.b1)) := by rw [hX.out]; rfl
 have A11 : Hid (A[11]? = some (.int .i64 x.cm.b2)) := by rw [hX.out]; rfl
 have A12 : Hid (A[12]? = some (.int .i64 x.cm.sz)) := by rw [hX.out]; rfl
 have A13 : Hid (A[13]? = some (.string x.cm.et)) := by rw [hX.out]; rfl
 have A14 : Hid (A[14]? = some (.int .i64 x.cm.pt)) := by rw [hX.out]; rfl
 obtain ⟨wd, Hwd⟩ := nm (w1.drew)
 have BD : Hid (Below w.heap.size w wd) := by rw [<- Hwd.out]; exact B1.out.drew
 have SD : Hid (Bs K wd lo hi b n X i y /\ wd.heap[g]? = some (.cells A 29 (0, 0))) := by rw [<- Hwd.out]; exact ⟨⟨S1.out.r.keep (fun _ _ _ _ => rfl), S1.out.x, bkC_stays K _ _ _ _ _ S1.out.c (fun _ _ _ _ => rfl)⟩, kx.out⟩
 have KRD : Hid (wd.heap[g + 1]? = some (.cells #[.int .i64 0,.string ⟨#[]⟩] 51 (0, 0))) := by rw [<- Hwd.out]; exact kr.out
 have VM : Hid (v ∈ y.ux) := List.mem_of_getElem? EV.out
 have VC : Hid (v.c = v.n) := SD.out.1.c.p v VM.out
 have OW1 : Hid (Rw wd lo hi 108 EPt v.a v.n v.n v.ul.pts) := by have h := (SD.out.1.c.b.uu v VM.out).r; rw [VC.out] at h; exact h
 have hoK : v.n + 1 <= 1048576 := by have := (SD.out.1.c.b.uu v VM.out).k; omega
 have hloD : lo <= wd.heap.size := Nat.le_trans hlo BD.out.size
 have UD : Hid (Rw wd lo hi 77 EUl (some ⟨u, 0, none⟩) y.un y.uc y.ux) := by rw [<- EA.out]; exact SD.out.1.c.b.u
 refine wp_region_till (S := tillP 15 (fun W => Rw W lo hi 77 EUl (some ⟨u, 0, none⟩) y.un y.uc y.ux /\ W.heap[g]? = some (.cells A 29 (0, 0)))) (by kernel_rfl) (.inr (by rw [Hwd.out]; exact ⟨UD.out, SD.out.2⟩)) (fun hS => ?_)
 rw [Hwd.out] at hS ⊢
 clear Hwd
 refine tkp (i := 0) (v := .pointer (some ⟨u, j * 5, none⟩)) rfl hS (fun hSb => ?_)
 simp only [pA,pB,pC,Act.put,pD,pE,pF]
 clear hS
 refine tkp (i := 1) (v := .pointer (some ⟨u, j * 5, none⟩)) rfl hSb (fun hS => ?_)
 simp only [pA,pB,pC,Act.put,pD,pE,pF]
 clear hSb
 refine tkp (i := 2) (v := .pointer (some ⟨u, j * 5, none⟩)) rfl hS (fun hSb => ?_)
 simp only [pA,pB,pC,Act.put,pD,pE,pF]
 clear hS
 refine tkp (i := 3) (v := .pointer (some ⟨u, j * 5 + 4, none⟩)) rfl hSb (fun hS => ?_)
 simp only [pA,pB,pC,Act.put,pD,pE,pF]
 clear hSb
 refine trd (i := 4) (c := 15) (v := .slice v.a v.n v.c) (T := fun W => Rw W lo hi 77 EUl (some ⟨u, 0, none⟩) y.un y.uc y.ux /\ W.heap[g]? = some (.cells A 29 (0, 0))) rfl rfl (fun L w => tillP_set (by decide)) (fun L w h1 h2 => tillP_out h1 h2) (Or.inl ⟨by rfl, fun w h => by have q9 := rowU h.1 EV.out; go_simp⟩) hS (fun hSb => ?_)
 simp only [pA,pB,pC,Act.put,pD,pE,pF]
 clear hS
 refine tkp (i := 5) (v := .pointer (some ⟨g, 14, none⟩)) rfl hSb (fun hS => ?_)
 simp only [pA,pB,pC,Act.put,pD,pE,pF]
 clear hSb
 refine trd (i := 6) (c := 15) (v := .int .i64 x.cm.pt) (T := fun W => Rw W lo hi 77 EUl (some ⟨u, 0, none⟩) y.un y.uc y.ux /\ W.heap[g]? = some (.cells A 29 (0, 0))) rfl rfl (fun L w => tillP_set (by decide)) (fun L w h1 h2 => tillP_out h1 h2) (Or.inl ⟨by rfl, fun w h => by have q9 := cell_arr h.2 A14.out; go_simp⟩) hS (fun hSb => ?_)
 simp only [pA,pB,pC,Act.put,pD,pE,pF]
 clear hS
 refine tkp (i := 7) (v := .pointer (some ⟨g, 14, none⟩)) rfl hSb (fun hS => ?_)
 simp only [pA,pB,pC,Act.put,pD,pE,pF]
 clear hSb
 refine trd (i := 8) (c := 15) (v := .int .i64 x.cm.pt) (T := fun W => Rw W lo hi 77 EUl (some ⟨u, 0, none⟩) y.un y.uc y.ux /\ W.heap[g]? = some (.cells A 29 (0, 0))) rfl rfl (fun L w => tillP_set (by decide)) (fun L w h1 h2 => tillP_out h1 h2) (Or.inl ⟨by rfl, fun w h => by have q9 := cell_arr h.2 A14.out; go_simp⟩) hS (fun hSb => ?_)
 simp only [pA,pB,pC,Act.put,pD,pE,pF]
 clear hS
 refine tkp (i := 9) (v := .pointer (some ⟨g, 9, none⟩)) rfl hSb (fun hS => ?_)
 simp only [pA,pB,pC,Act.put,pD,pE,pF]
 clear hSb
 refine trd (i := 10) (c := 15) (v := .agg #[.int .i64 x.cm.b0,.int .i64 x.cm.b1,.int .i64 x.cm.b2,.int .i64 x.cm.sz,.string x.cm.et]) (T := fun W => Rw W lo hi 77 EUl (some ⟨u, 0, none⟩) y.un y.uc y.ux /\ W.heap[g]? = some (.cells A 29 (0, 0))) rfl rfl (fun L w => tillP_set (by decide)) (fun L w h1 h2 => tillP_out h1 h2) (Or.inl ⟨by rfl, fun w h => by have q1 := cell_arr h.2 A9.out; have q2 := cell_arr h.2 A10.out; have q3 := cell_arr h.2 A11.out; have q4 := cell_arr h.2 A12.out; have q5 := cell_arr h.2 A13.out; go_simp⟩) hS (fun hSb => ?_)
 simp only [pA,pB,pC,Act.put,pD,pE,pF]
 clear hS
 refine tkp (i := 11) (v := .agg #[.int .i64 x.cm.pt,.int .i64 x.cm.b0,.int .i64 x.cm.b1,.int .i64 x.cm.b2,.int .i64 x.cm.sz,.string x.cm.et]) rfl hSb (fun hS => ?_)
 simp only [pA,pB,pC,Act.put,pD,pE,pF]
 clear hSb
 refine till_one (i := 12) (by kernel_rfl) rfl (fun K hK => ?_)
 simp only [pA,pB,pC]
 rw [if_pos (by rfl)]
 go_simp
 rw [VC.out]
 go_wp2_with (go_at_call 102; refine (set_P (y := ⟨x.cm.pt, pcO x.cm⟩) x.cm.pt OW1 hloD hoK (show Hid _ from rfl)).mono ?_; rintro e w5 ⟨a5, n5, c5, rfl, H5⟩)
 have S5 := (part_off SD.out.1 EV.out H5.out.2).1
 rw [EA.out] at S5
 have q3 := rowU S5 EV.out
 have f3 := S5.row.frozenAt (j * 5 + 4)
 have kx5 : Hid (w5.heap[g]? = some (.cells A 29 (0, 0))) := (H5.out.2.block g (gl SD.out.2) (fun e => by have h2 := SD.out.2; obtain ⟨cur, h1, _⟩ := OW1.out.blk e; rw [h1] at h2; simp at h2)).trans SD.out.2
 refine hK.out _ _ (Or.inr ⟨S5, kx5.out⟩) (fun hSb => ?_)
 clear hK K
 try simp only [pA,pB,pC,Act.put,pD,pE,pF]
 clear hS
 refine tkp (i := 13) (v := .pointer (some ⟨u, j * 5, none⟩)) rfl hSb (fun hS => ?_)
 simp only [pA,pB,pC,Act.put,pD,pE,pF]
 clear hSb
 refine tkp (i := 14) (v := .pointer (some ⟨u, j * 5 + 4, none⟩)) rfl hS (fun hSb => ?_)
 simp only [pA,pB,pC,Act.put,pD,pE,pF]
 clear hS
 refine till_one (i := 15) (by kernel_rfl) rfl (fun K hK => ?_)
 simp only [pA,pB,pC]
 rw [if_pos (by rfl)]
 go_simp
 refine hK.out _ _ (Or.inl (by kernel_rfl)) (fun hS => ?_)
 clear hK K
 try simp only [pA,pB,pC,Act.put,pD,pE,pF]
 clear hSb
 refine till_done (by kernel_rfl) ?_ _
 clear hS
 show (Exit.then _ _) .normal _ _
 have hh5 : hi <= w5.heap.size := Nat.le_trans hhi (Nat.le_trans BD.out.size H5.out.2.size)
 have HH := do_part (K := K) (h2 := w5.heap.size) SD.out.1 EV.out EA.out BD.out H5.out.2 H5.out.1 (fun o ho => by
  rcases setX_mem ho with rfl | h
  . exact ⟨hT⟩
  . exact (SD.out.1.c.b.uu v VM.out).p o h) (by have h1 := H5.out.1.len; have h2 := setX_len (byP x.cm.pt) id v.ul.pts ⟨x.cm.pt, pcO x.cm⟩; have h3 := OW1.out.len; have h4 := (SD.out.1.c.b.uu v VM.out).k; omega) hh5
 have R3 : Hid _ := HH.1
 have BO3 : Hid _ := HH.2.1
 have C3 : Hid _ := HH.2.2
 have ub : Hid (∃ cur, wd.heap[u]? = some (.cells cur 77 (0, 0))) := by obtain ⟨cur, h, _⟩ := UD.out.blk (q := u) rfl; exact ⟨cur, h⟩
 have kr3 : Hid ((w5.setCell ⟨u, j * 5 + 4, none⟩ (.slice a5 n5 c5)).heap[g + 1]? = some (.cells #[.int .i64 0,.string ⟨#[]⟩] 51 (0, 0))) := by
  refine (Below.heap_setCell _ _ _ _ (fun e => ?_)).trans ((H5.out.2.block (g + 1) (gl KRD.out) (fun e => ?_)).trans KRD.out)
  . obtain ⟨cur, hc⟩ := ub.out
    have h := KRD.out
    rw [e, hc] at h
    cases h
  . obtain ⟨cur, hc, _⟩ := OW1.out.blk e
    have h := KRD.out
    rw [hc] at h
    cases h
 have kx3 : Hid ((w5.setCell ⟨u, j * 5 + 4, none⟩ (.slice a5 n5 c5)).heap[g]? = some (.cells A 29 (0, 0))) := (Below.heap_setCell _ _ _ _ (fun e => by
  obtain ⟨cur, hc⟩ := ub.out
  have h := SD.out.2
  rw [e, hc] at h
  cases h)).trans kx5.out
 have ZB : Hid (Bkx.bk { y with ux := y.ux.set j ⟨{ v.ul with pts := setX (byP x.cm.pt) id v.ul.pts ⟨x.cm.pt, pcO x.cm⟩ }, a5, n5, c5⟩ } = { y.bk with uls := y.bk.uls.set j { v.ul with pts := setB (byP x.cm.pt) v.ul.pts ⟨x.cm.pt, pcO x.cm⟩ } }) := by
  show _ = _
  simp only [Bkx.bk, setX_id, List.map_set]
 obtain ⟨w3, Hw3⟩ := nm (w5.setCell ⟨u, j * 5 + 4, none⟩ (.slice a5 n5 c5))
 rw [Hw3.out] at R3 BO3 C3 kr3 kx3 ⊢
 clear Hw3 HH H5 q3 f3 S5
 have q2 : w3.cell? ⟨g, 13, none⟩ = some (.string x.cm.et) := cell_arr kx3.out A13.out
 obtain ⟨R, HR⟩ := nm ((#[.int .i64 0,.string x.cm.et] : Array Value))
 have a5' : (Tryz.prog.info? 51).map (·.size) = some R.size := by rw [<- HR.out]; exact outZ
 have AA : Hid (R.all (·.oneCell') = true) := (show R.all (·.oneCell') = true by rw [<- HR.out]; simp [Value.oneCell'])
 have a6' : Hid (R.size = 2) := (show R.size = 2 by rw [<- HR.out]; rfl)
 go_wp2_with (first
  | (go_at_call 98; refine (doneWith_n x.cm.et _).mono ?_; rintro e w7 ⟨rfl, H7⟩; rw [HR.out]; have r7 := sh H7 kr3)
  | (refine wpList_store_row (by rfl) 51 (.tmp 6) (.tmp 25) (by rfl) (g + 1) R (by rfl) (by rfl) 51 _ r7.out a5' (by rw [a6'.out]; rfl) AA.out ?_))
 refine bodyPost_ret (results_cell_row Tryz.results72 _ _ (g + 1) 51 R (0, 0) _ (by rfl) (setRow_heap _ _ _ _ _ _ r7.out) Tryz.underlying51 rfl a5') rfl ?_
 exact ⟨R, rfl, do_end (g := g + 1) HR.out.symm ZB.out R3.out BO3.out C3.out H7.out kr3.out (by have := Hg.out; omega)⟩
end Go.Proofs.YtfabnnbljkkihaaGreatDoor
