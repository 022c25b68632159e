import Derived.Test.YtfabnnbljkkihaaGreatDoorMxp
import Derived.Test.YtfabnnbljkkihaaGreatDoorMx20
import Derived.Test.YtfabnnbljkkihaaGreatDoorMx28
import Derived.Test.YtfabnnbljkkihaaGreatDoorMx29
import Derived.Test.YtfabnnbljkkihaaGreatDoorMx01
import Derived.Test.YtfabnnbljkkihaaGreatDoorMx03
namespace Go.Proofs.YtfabnnbljkkihaaGreatDoor
open Go.ChangeShapes Go.WideShapes Go.ChangeAt Go.RowKit
set_option maxRecDepth 20000
set_option linter.unusedVariables false
set_option linter.unusedSimpArgs false
theorem setX_iq {α : Type} (c : α -> Int) (X : List α) (y : α) : setX c id X y = setB c X y := by
 have h := setX_map c id X y
 simpa using h
theorem Cq2.c1 {W : World} {gc g : Nat} {A : Array Value} {a : Option Addr} {n : Nat} {fa : Option Addr} {fn fc : Nat} (h : Cq2 W gc g A a n fa fn fc) : W.cell? ⟨gc, 1, none⟩ = some (.slice fa fn fc) := cell_arr h.k rfl
structure Cq3 (W : World) (gc g : Nat) (A : Array Value) (a : Option Addr) (n b1 fn fc p : Nat) (f : Idd) : Prop where
 q : Cq2 W gc g A a n (some ⟨b1, 0, none⟩) fn fc
 r : W.rangeAt b1 (p * 3) (EId.e f)
 t : b1 < W.heap.size
theorem Cq3.c {W : World} {gc g : Nat} {A : Array Value} {a : Option Addr} {n b1 fn fc p : Nat} {f : Idd} (h : Cq3 W gc g A a n b1 fn fc p f) : ∀ j v, (EId.e f)[j]? = some v -> W.cell? ⟨b1, p * 3 + j, none⟩ = some v := h.r
theorem Cq3.below {W W' : World} {gc g : Nat} {A : Array Value} {a : Option Addr} {n b1 fn fc p : Nat} {f : Idd} (h : Cq3 W gc g A a n b1 fn fc p f) (hb : Below W.heap.size W W') : Cq3 W' gc g A a n b1 fn fc p f :=
 ⟨h.q.below hb, fun j v hv => (World.cell?_of_block (w := W) (a := ⟨b1, p * 3 + j, none⟩) (hb.block b1 h.t)).trans (h.r j v hv), Nat.lt_of_lt_of_le h.t hb.size⟩
theorem cq_setF {V w' : World} {gc g : Nat} {A : Array Value} {a fa : Option Addr} {n fn fc lo hi : Nat} {F : List Idd} (h : Cq2 V gc g A a n fa fn fc) (hr : Rw V lo hi 24 EId fa fn fc F) (hc : Ch V w' (fun q => blkOf fa = some q)) : Cq2 w' gc g A a n fa fn fc := by
 refine ⟨(hc.block gc (gl h.k) (fun e => ?_)).trans h.k, (hc.block g (gl h.x) (fun e => ?_)).trans h.x⟩
 . obtain ⟨cur, h1, _⟩ := hr.blk e
   have h2 := h.k
   rw [h1] at h2
   simp at h2
 . obtain ⟨cur, h1, _⟩ := hr.blk e
   have h2 := h.x
   rw [h1] at h2
   simp at h2
theorem BkO.chF {K : Nat} {V w' : World} {lo hi n c : Nat} {a : Option Addr} {X : List Idd} {z : Bkx} (h : BkO K V lo hi z) (hr : Rw V lo hi 24 EId a n c X) (hc : Ch V w' (fun q => blkOf a = some q)) : BkO K w' lo hi z :=
 ⟨h.o.keep1 (fun q e => hc.block q (h.o.lt e).2 (fun e2 => h.o.apart hr (by decide) e e2)), fun o ho => ⟨(h.oo o ho).r.keep1 (fun q e => hc.block q ((h.oo o ho).r.lt e).2 (fun e2 => (h.oo o ho).r.apart hr (by decide) e e2)), (h.oo o ho).p, (h.oo o ho).k, (h.oo o ho).s⟩, h.u.keep1 (fun q e => hc.block q (h.u.lt e).2 (fun e2 => h.u.apart hr (by decide) e e2)), fun u hu => ⟨(h.uu u hu).r.keep1 (fun q e => hc.block q ((h.uu u hu).r.lt e).2 (fun e2 => (h.uu u hu).r.apart hr (by decide) e e2)), (h.uu u hu).p, (h.uu u hu).k, (h.uu u hu).s⟩, h.k, h.s⟩
set_option maxHeartbeats 16000000 in
theorem raiseFloor_n {K : Nat} (hK : K + 1 <= 1048576) {w : World} {A : Array Value} {x : Cx} {lo hi gc : Nat} {a : Option Addr} {n : Nat} {X : List Bkx} {fa : Option Addr} {fn fc : Nat} {F : List Idd} (hX : Hid (A = (encX x).toArray)) (hC : Hid (CtC K w lo hi a n X fa fn fc F)) (hk : Hid (w.heap[gc]? = some (.cells #[.slice a n n,.slice fa fn fc] 58 (0, 0)))) (hlo : lo <= w.heap.size) (hgc : lo <= gc) :
  Calls Tryz.prog 77 #[.pointer (some ⟨gc, 0, none⟩), .agg A] w fun e w' => ∃ R, e = .returned (.agg R) /\ Hid (ChR K w w' lo gc (flrO ⟨X.map Bkx.bk, F⟩ x.cm) R) := by
 have a18 : A.size = 18 := encX_sz hX.out
 have A1 : Hid (A[1]? = some (.int .i64 x.cm.i0)) := by rw [hX.out]; rfl
 have A2 : Hid (A[2]? = some (.int .i64 x.cm.i1)) := by rw [hX.out]; rfl
 have A3 : Hid (A[3]? = some (.int .i64 x.cm.i2)) := by rw [hX.out]; rfl
 have LF : Hid (fn = F.length) := hC.out.f.len
 obtain ⟨w1, Hw1⟩ := nm ((w.alloc (.cells A 29)).alloc (.cells #[.int .i64 0,.string ⟨#[]⟩] 51))
 obtain ⟨g, Hg⟩ := nm (w.heap.size)
 have B1 : Hid (Below w.heap.size w w1) := by rw [<- Hw1.out]; exact alloc2 w _ _
 have kx : Hid (w1.heap[g]? = some (.cells A 29 (0, 0))) := by
  rw [<- Hw1.out, <- Hg.out]
  exact ((alloc1 (w.alloc (.cells A 29)) _).block w.heap.size (by simp)).trans (heap_alloc_new w _)
 have kr : Hid (w1.heap[g + 1]? = some (.cells #[.int .i64 0,.string ⟨#[]⟩] 51 (0, 0))) := by
  rw [<- Hw1.out, <- Hg.out]
  have e : (w.alloc (.cells A 29)).heap.size = w.heap.size + 1 := by simp
  rw [<- e]
  exact heap_alloc_new _ _
 have K0 : Cq2 w1.drew gc g A a n fa fn fc := ⟨(B1.out.block _ (gl hk.out)).trans hk.out, kx.out⟩
 have AD : Hid (Rw w1.drew lo hi 24 EId fa fn fc F) := (hC.out.f.below B1.out).keep (fun _ _ _ _ => rfl)
 have hnK : fn <= 1048576 := by have := hC.out.k.2; omega
 obtain ⟨p, Hp⟩ := nm (plcB (byF x.cm.i0) F)
 obtain ⟨is, HIS⟩ := nm (isB (byF x.cm.i0) F)
 go_enter Tryz.func77, Tryz.ntmps77
 go_upto_region 1 with (fail)
 rw [Hw1.out, Hg.out]
 clear Hw1
 refine wp_region_till (S := fun L W => Cq2 W gc g A a n fa fn fc) (by kernel_rfl) K0 (fun hS => ?_)
 clear K0
 refine tkg (i := 0) (v := .pointer (some ⟨gc, 0, none⟩)) rfl hS (fun hSb => ?_)
 simp only [pA,pB,pC,Act.put,pD,pE,pF]
 clear hS
 refine tkg (i := 1) (v := .pointer (some ⟨gc, 0, none⟩)) rfl hSb (fun hS => ?_)
 simp only [pA,pB,pC,Act.put,pD,pE,pF]
 clear hSb
 refine tkg (i := 2) (v := .pointer (some ⟨gc, 1, none⟩)) rfl hS (fun hSb => ?_)
 simp only [pA,pB,pC,Act.put,pD,pE,pF]
 clear hS
 refine trx (i := 3) (c := 7) (v := .slice fa fn fc) rfl rfl (Or.inl ⟨by rfl, fun w h => by have q9 := h.c1; go_simp⟩) hSb (fun hS => ?_)
 simp only [pA,pB,pC,Act.put,pD,pE,pF]
 clear hSb
 refine tkg (i := 4) (v := .pointer (some ⟨g, 1, none⟩)) rfl hS (fun hSb => ?_)
 simp only [pA,pB,pC,Act.put,pD,pE,pF]
 clear hS
 refine tkg (i := 5) (v := .pointer (some ⟨g, 1, none⟩)) rfl hSb (fun hS => ?_)
 simp only [pA,pB,pC,Act.put,pD,pE,pF]
 clear hSb
 refine trx (i := 6) (c := 7) (v := .int .i64 x.cm.i0) rfl rfl (Or.inl ⟨by rfl, fun w h => by have q9 := cell_arr h.x A1.out; go_simp⟩) hS (fun hSb => ?_)
 simp only [pA,pB,pC,Act.put,pD,pE,pF]
 clear hS
 refine till_one (i := 7) (by kernel_rfl) rfl (fun K hK => ?_)
 simp only [pA,pB,pC]
 rw [if_pos (by rfl)]
 go_simp
 go_wp2_with (go_at_call 109; refine (findF x.cm.i0 AD hnK).mono ?_; rintro e w2 ⟨rfl, H2⟩; rw [Hp.out, HIS.out])
 refine hK.out _ _ (hSb.below H2.out) (fun hS => ?_)
 clear hK K
 try simp only [pA,pB,pC,Act.put,pD,pE,pF]
 clear hSb
 refine tkg (i := 8) (v := .tuple #[.int .i64 (p : Int), .bool is]) rfl hS (fun hSb => ?_)
 simp only [pA,pB,pC,Act.put,pD,pE,pF]
 clear hS
 refine tkg (i := 9) (v := .int .i64 (p : Int)) rfl hSb (fun hS => ?_)
 simp only [pA,pB,pC,Act.put,pD,pE,pF]
 clear hSb
 refine tkg (i := 10) (v := .bool is) rfl hS (fun hSb => ?_)
 simp only [pA,pB,pC,Act.put,pD,pE,pF]
 clear hS
 refine till_one (i := 11) (by kernel_rfl) rfl (fun K hK => ?_)
 simp only [pA,pB,pC]
 rw [if_pos (by rfl)]
 go_simp
 refine hK.out _ _ (hSb) (fun hS => ?_)
 clear hK K
 try simp only [pA,pB,pC,Act.put,pD,pE,pF]
 clear hSb
 refine till_one (i := 12) (by kernel_rfl) rfl (fun K hK => ?_)
 simp only [pA,pB,pC]
 rw [if_pos (by rfl)]
 go_simp
 refine hK.out _ _ (hS) (fun hSb => ?_)
 clear hK K
 try simp only [pA,pB,pC,Act.put,pD,pE,pF]
 clear hS
 have S3 := hSb
 refine till_done (by kernel_rfl) ?_ _
 clear hSb
 show (Exit.then _ _) .normal _ _
 have S3h : Hid (Cq2 w2 gc g A a n fa fn fc) := S3
 clear S3
 have B2 : Hid (Below w.heap.size w w2) := (B1.out.drew).trans (H2.out.mono B1.out.size)
 have kr2 := sh H2 kr
 clear H2 AD kr kx B1
 rcases is with _ | _
 . have IB : Hid (flrO ⟨X.map Bkx.bk, F⟩ x.cm = (⟨X.map Bkx.bk, setB (byF x.cm.i0) F ⟨x.cm.i0, x.cm.i1, x.cm.i2⟩⟩, okO)) := by
    show _ = _
    unfold flrO fltO
    simp only
    rw [HIS.out]
    rfl
   go_upto_region 2 with (fail)
   go_quiet (fail)
   go_upto_region 3 with (fail)
   obtain ⟨w3, Hw3⟩ := nm (w2.drewN nq)
   have B3 : Hid (Below w.heap.size w w3) := by rw [<- Hw3.out]; exact below_drewN B2.out _
   have S3d : Hid (Cq2 w3 gc g A a n fa fn fc) := by rw [<- Hw3.out]; exact ⟨S3h.out.k, S3h.out.x⟩
   have kr3 : Hid (w3.heap[g + 1]? = some (.cells #[.int .i64 0,.string ⟨#[]⟩] 51 (0, 0))) := by rw [<- Hw3.out]; exact kr2.out
   rw [Hw3.out]
   clear Hw3
   obtain ⟨wd, Hwd⟩ := nm (w3.drew)
   have BD : Hid (Below w.heap.size w wd) := by rw [<- Hwd.out]; exact B3.out.drew
   have CC : Hid (CtC K wd lo hi a n X fa fn fc F) := hC.out.below BD.out
   have RF : Hid (Rw wd lo hi 24 EId fa fn fc F) := CC.out.f
   have KD : Hid (Cq2 wd gc g A a n fa fn fc) := by rw [<- Hwd.out]; exact ⟨S3d.out.k, S3d.out.x⟩
   have KRD : Hid (wd.heap[g + 1]? = some (.cells #[.int .i64 0,.string ⟨#[]⟩] 51 (0, 0))) := by rw [<- Hwd.out]; exact kr3.out
   have hlo5 : lo <= wd.heap.size := Nat.le_trans hlo BD.out.size
   have hn1 : fn + 1 <= 1048576 := by have := hC.out.k.2; omega
   refine wp_region_till (S := tillP 13 (fun W => Cq2 W gc g A a n fa fn fc)) (by kernel_rfl) (.inr (by rw [Hwd.out]; exact KD.out)) (fun hS => ?_)
   rw [Hwd.out] at hS ⊢
   clear Hwd
   refine tkp (i := 0) (v := .pointer (some ⟨gc, 0, none⟩)) rfl hS (fun hSb => ?_)
   simp only [pA,pB,pC,Act.put,pD,pE,pF]
   clear hS
   refine tkp (i := 1) (v := .pointer (some ⟨gc, 0, none⟩)) rfl hSb (fun hS => ?_)
   simp only [pA,pB,pC,Act.put,pD,pE,pF]
   clear hSb
   refine tkp (i := 2) (v := .pointer (some ⟨gc, 0, none⟩)) rfl hS (fun hSb => ?_)
   simp only [pA,pB,pC,Act.put,pD,pE,pF]
   clear hS
   refine tkp (i := 3) (v := .pointer (some ⟨gc, 1, none⟩)) rfl hSb (fun hS => ?_)
   simp only [pA,pB,pC,Act.put,pD,pE,pF]
   clear hSb
   refine trd (i := 4) (c := 13) (v := .slice fa fn fc) (T := fun W => Cq2 W gc g A a n fa fn fc) rfl rfl (fun L w => tillP_set (by decide)) (fun L w h1 h2 => tillP_out h1 h2) (Or.inl ⟨by rfl, fun w h => by have q9 := h.c1; go_simp⟩) hS (fun hSb => ?_)
   simp only [pA,pB,pC,Act.put,pD,pE,pF]
   clear hS
   refine tkp (i := 5) (v := .pointer (some ⟨g, 1, none⟩)) rfl hSb (fun hS => ?_)
   simp only [pA,pB,pC,Act.put,pD,pE,pF]
   clear hSb
   refine tkp (i := 6) (v := .pointer (some ⟨g, 1, none⟩)) rfl hS (fun hSb => ?_)
   simp only [pA,pB,pC,Act.put,pD,pE,pF]
   clear hS
   refine trd (i := 7) (c := 13) (v := .int .i64 x.cm.i0) (T := fun W => Cq2 W gc g A a n fa fn fc) rfl rfl (fun L w => tillP_set (by decide)) (fun L w h1 h2 => tillP_out h1 h2) (Or.inl ⟨by rfl, fun w h => by have q9 := cell_arr h.x A1.out; go_simp⟩) hSb (fun hS => ?_)
   simp only [pA,pB,pC,Act.put,pD,pE,pF]
   clear hSb
   refine tkp (i := 8) (v := .pointer (some ⟨g, 1, none⟩)) rfl hS (fun hSb => ?_)
   simp only [pA,pB,pC,Act.put,pD,pE,pF]
   clear hS
   refine trd (i := 9) (c := 13) (v := .agg #[.int .i64 x.cm.i0,.int .i64 x.cm.i1,.int .i64 x.cm.i2]) (T := fun W => Cq2 W gc g A a n fa fn fc) rfl rfl (fun L w => tillP_set (by decide)) (fun L w h1 h2 => tillP_out h1 h2) (Or.inl ⟨by rfl, fun w h => by have q7 := cell_arr h.x A1.out; have q8 := cell_arr h.x A2.out; have q9 := cell_arr h.x A3.out; go_simp⟩) hSb (fun hS => ?_)
   simp only [pA,pB,pC,Act.put,pD,pE,pF]
   clear hSb
   refine till_one (i := 10) (by kernel_rfl) rfl (fun K hK => ?_)
   simp only [pA,pB,pC]
   rw [if_pos (by rfl)]
   go_simp
   go_wp2_with (go_at_call 112; refine (set_F (y := ⟨x.cm.i0, x.cm.i1, x.cm.i2⟩) x.cm.i0 RF hlo5 hn1 (show Hid _ from rfl)).mono ?_; rintro e w5 ⟨a5, n5, c5, rfl, H5⟩)
   have S5 : Cq2 w5 gc g A a n fa fn fc := cq_setF KD.out RF.out H5.out.2
   refine hK.out _ _ (Or.inr S5) (fun hSb => ?_)
   clear hK K
   try simp only [pA,pB,pC,Act.put,pD,pE,pF]
   clear hS
   refine tkp (i := 11) (v := .pointer (some ⟨gc, 0, none⟩)) rfl hSb (fun hS => ?_)
   simp only [pA,pB,pC,Act.put,pD,pE,pF]
   clear hSb
   refine tkp (i := 12) (v := .pointer (some ⟨gc, 1, none⟩)) rfl hS (fun hSb => ?_)
   simp only [pA,pB,pC,Act.put,pD,pE,pF]
   clear hS
   refine till_one (i := 13) (by kernel_rfl) rfl (fun K hK => ?_)
   simp only [pA,pB,pC]
   rw [if_pos (by rfl)]
   have q9 := S5.c1
   have q8 : w5.frozen? ⟨gc, 1, none⟩ = false := by have h := S5.k; simp [World.frozen?, h]
   go_simp
   refine hK.out _ _ (Or.inl (by kernel_rfl)) (fun hS => ?_)
   clear hK K
   try simp only [pA,pB,pC,Act.put,pD,pE,pF]
   clear hSb
   refine till_done (by kernel_rfl) ?_ _
   clear hS
   show (Exit.then _ _) .normal _ _
   have kr5 : Hid (w5.heap[g + 1]? = some (.cells #[.int .i64 0,.string ⟨#[]⟩] 51 (0, 0))) := (H5.out.2.block _ (gl KRD.out) (fun e => by
    obtain ⟨cur, h1, _⟩ := RF.out.blk e
    have h2 := KRD.out
    rw [h1] at h2
    simp at h2)).trans KRD.out
   have k5 : Hid (w5.heap[gc]? = some (.cells #[.slice a n n,.slice fa fn fc] 58 (0, 0))) := S5.k
   have CO5 : Hid (CtO (K + 1) w5 lo w5.heap.size a n n X a5 n5 c5 (setX (byF x.cm.i0) id F ⟨x.cm.i0, x.cm.i1, x.cm.i2⟩)) := by
    refine ⟨(CC.out.b.keep1 (fun q e => H5.out.2.block q (CC.out.b.lt e).2 (fun e2 => CC.out.b.apart RF.out (by decide) e e2))).full, fun z hz => (((CC.out.bb z hz).b.chF RF.out H5.out.2).up (Nat.le_succ K)).full, H5.out.1, Nat.le_trans CC.out.k.1 (Nat.le_succ K), ?_⟩
    have h1 := H5.out.1.len
    have h2 := setX_len (byF x.cm.i0) id F (⟨x.cm.i0, x.cm.i1, x.cm.i2⟩ : Idd)
    have h3 := RF.out.len
    have h4 := CC.out.k.2
    omega
   have BL5 : Hid (Below lo w w5) := (BD.out.mono hlo).trans (H5.out.2.toBelow hlo5 (fun q hq e => by have := (RF.out.lt e).1; omega))
   have k6 : Hid ((w5.setCell ⟨gc, 1, none⟩ (.slice a5 n5 c5)).heap[gc]? = some (.cells #[.slice a n n,.slice a5 n5 c5] 58 (0, 0))) := set_blkf k5.out 1 _
   have ne6 : Hid (g + 1 ≠ gc) := fun e => by have h := kr5.out; rw [e, k5.out] at h; simp at h
   have kr6 : Hid ((w5.setCell ⟨gc, 1, none⟩ (.slice a5 n5 c5)).heap[g + 1]? = some (.cells #[.int .i64 0,.string ⟨#[]⟩] 51 (0, 0))) := (Below.heap_setCell _ _ _ _ ne6.out).trans kr5.out
   have CO6 : Hid (CtO (K + 1) (w5.setCell ⟨gc, 1, none⟩ (.slice a5 n5 c5)) lo w5.heap.size a n n X a5 n5 c5 (setX (byF x.cm.i0) id F ⟨x.cm.i0, x.cm.i1, x.cm.i2⟩)) := by
    have hb : ∀ q, q < w5.heap.size -> q ≠ gc -> (w5.setCell ⟨gc, 1, none⟩ (.slice a5 n5 c5)).heap[q]? = w5.heap[q]? := fun q _ hq => Below.heap_setCell _ _ _ _ hq
    exact ⟨CO5.out.b.off hb k5.out (by decide), fun z hz => (CO5.out.bb z hz).off hb k5.out (by decide), CO5.out.f.off hb k5.out (by decide), CO5.out.k⟩
   have BL6 : Hid (Below lo w (w5.setCell ⟨gc, 1, none⟩ (.slice a5 n5 c5))) := BL5.out.setCell hgc _
   have K6 : Hid (K51 w (w5.setCell ⟨gc, 1, none⟩ (.slice a5 n5 c5))) := fun q cs h => by
    have h1 := K51.below BD.out q cs h
    have h2 : w5.heap[q]? = some (.cells cs 51 (0, 0)) := (H5.out.2.block q (gl h1) (fun e => by
     obtain ⟨cur, h3, _⟩ := RF.out.blk e
     rw [h3] at h1
     simp at h1)).trans h1
    exact (Below.heap_setCell _ _ _ _ (fun e => by rw [e, k5.out] at h2; simp at h2)).trans h2
   obtain ⟨w6, Hw6⟩ := nm (w5.setCell ⟨gc, 1, none⟩ (.slice a5 n5 c5))
   rw [Hw6.out] at k6 kr6 CO6 BL6 K6 ⊢
   clear Hw6 S5 q9 q8 H5 CO5 BL5 k5 kr5
   obtain ⟨R, HR⟩ := nm ((#[.int .i64 0,.string ⟨#[]⟩] : Array Value))
   have a5' : (Tryz.prog.info? 51).map (·.size) = some R.size := by rw [<- HR.out]; exact outZ
   have AA : Hid (R.all (·.oneCell') = true) := (show R.all (·.oneCell') = true by rw [<- HR.out]; kernel_rfl)
   have a6' : Hid (R.size = 2) := (show R.size = 2 by rw [<- HR.out]; rfl)
   go_wp2_with (first
    | (go_at_call 92; refine (done_n _).mono ?_; rintro e w7 ⟨rfl, H7⟩; rw [HR.out]; have r7 := sh H7 kr6)
    | (refine wpList_store_row (by rfl) 51 (.tmp 4) (.tmp 46) (by rfl) (g + 1) R (by rfl) (by rfl) 51 _ r7.out a5' (by rw [a6'.out]; rfl) AA.out ?_))
   refine bodyPost_ret (results_cell_row Tryz.results77 _ _ (g + 1) 51 R (0, 0) _ (by rfl) (setRow_heap _ _ _ _ _ _ r7.out) Tryz.underlying51 rfl a5') rfl ?_
   refine ⟨R, rfl, ?_⟩
   rw [IB.out]
   have hg1 : lo <= g + 1 := by have := Hg.out; omega
   have k7 := (H7.out.block gc (gl k6.out)).trans k6.out
   have ng : ∀ q, q < w7.heap.size -> q ≠ g + 1 -> (w7.setRow (g + 1) R).heap[q]? = w7.heap[q]? := fun q hq hn => setRow_other _ _ _ _ hn
   exact ⟨HR.out.symm, a, n, n, X, a5, n5, c5, _, (ng gc (gl k7) (fun e => ne6.out e.symm)).trans k7, ((CO6.out.below H7.out).off ng r7.out).full, rfl, setX_iq _ _ _, below_setRow (BL6.out.trans (H7.out.mono (Nat.le_trans hlo BL6.out.size))) hg1 _, fun q cs h => (setRow_other _ _ _ _ (fun e2 => by have h2 := (gl h); have h3 := Hg.out; omega)).trans (K51.below H7.out q cs (K6.out q cs h))⟩

 . have pl : p < fn := by rw [<- Hp.out, LF.out]; exact isB_lt HIS.out
   have i1' : (p : Int) < (fn : Int) := by omega
   have kx : p < F.length := by rw [<- LF.out]; exact pl
   obtain ⟨b1, rfl, _, e0, e1⟩ := (hC.out.f.below B2.out).at_ kx
   obtain ⟨f, Hf⟩ := nm (F[p])
   rw [Hf.out] at e1
   have EF : Hid (F[p]? = some f) := by show _ = _; rw [<- Hf.out]; exact List.getElem?_eq_getElem kx
   obtain ⟨cd, Hc⟩ := nm (orI (cmpI f.i0 x.cm.i0) (cmpI f.i1 x.cm.i1) (cmpI f.i2 x.cm.i2))
   have HcD : Hid (cmD f.i0 f.i1 f.i2 x.cm.i0 x.cm.i1 x.cm.i2 = cd) := Hc.out
   obtain ⟨ls, HL⟩ := nm (decide (cd < 0))
   have RL : decide (cd < 0) = ls := HL.out
   have K3 : Hid (Cq3 w2 gc g A a n b1 fn fc p f) := ⟨S3h.out, e1, e0⟩
   have FT : Hid (fltO ⟨X.map Bkx.bk, F⟩ x.cm = ls) := by
    show _ = _
    unfold fltO
    simp only
    rw [HIS.out, Hp.out, EF.out]
    simp [HcD.out, HL.out]
   clear e1 Hf kx e0
   go_upto_region 2 with (fail)
   refine wp_region_till (S := fun L W => Cq3 W gc g A a n b1 fn fc p f) (by kernel_rfl) (show Cq3 w2.drew gc g A a n b1 fn fc p f from ⟨⟨K3.out.q.k, K3.out.q.x⟩, K3.out.r, K3.out.t⟩) (fun hS => ?_)
   refine tkg (i := 0) (v := .bool true) rfl hS (fun hSb => ?_)
   simp only [pA,pB,pC,Act.put,pD,pE,pF]
   clear hS
   refine tkg (i := 1) (v := .bool false) rfl hSb (fun hS => ?_)
   simp only [pA,pB,pC,Act.put,pD,pE,pF]
   clear hSb
   refine tkg (i := 2) (v := .bool false) rfl hS (fun hSb => ?_)
   simp only [pA,pB,pC,Act.put,pD,pE,pF]
   clear hS
   refine tkg (i := 3) (v := .pointer (some ⟨gc, 0, none⟩)) rfl hSb (fun hS => ?_)
   simp only [pA,pB,pC,Act.put,pD,pE,pF]
   clear hSb
   refine tkg (i := 4) (v := .pointer (some ⟨gc, 0, none⟩)) rfl hS (fun hSb => ?_)
   simp only [pA,pB,pC,Act.put,pD,pE,pF]
   clear hS
   refine tkg (i := 5) (v := .pointer (some ⟨gc, 1, none⟩)) rfl hSb (fun hS => ?_)
   simp only [pA,pB,pC,Act.put,pD,pE,pF]
   clear hSb
   refine trx (i := 6) (c := 8) (v := .slice (some ⟨b1, 0, none⟩) fn fc) rfl rfl (Or.inl ⟨by rfl, fun w h => by have q9 := h.q.c1; go_simp⟩) hS (fun hSb => ?_)
   simp only [pA,pB,pC,Act.put,pD,pE,pF]
   clear hS
   refine tkg (i := 7) (v := .int .i64 (p : Int)) rfl hSb (fun hS => ?_)
   simp only [pA,pB,pC,Act.put,pD,pE,pF]
   clear hSb
   refine tkg (i := 8) (v := .pointer (some ⟨b1, p * 3, none⟩)) rfl hS (fun hSb => ?_)
   simp only [pA,pB,pC,Act.put,pD,pE,pF]
   clear hS
   refine trx (i := 9) (c := 12) (v := idw f.i0 f.i1 f.i2) rfl rfl (Or.inl ⟨by rfl, fun w h => by have q7 := h.c 0 _ rfl; have q8 := h.c 1 _ rfl; have q9 := h.c 2 _ rfl; simp only [Nat.add_zero] at q7; go_simp⟩) hSb (fun hS => ?_)
   simp only [pA,pB,pC,Act.put,pD,pE,pF]
   clear hSb
   refine tkg (i := 10) (v := .pointer (some ⟨g, 1, none⟩)) rfl hS (fun hSb => ?_)
   simp only [pA,pB,pC,Act.put,pD,pE,pF]
   clear hS
   refine trx (i := 11) (c := 12) (v := idw x.cm.i0 x.cm.i1 x.cm.i2) rfl rfl (Or.inl ⟨by rfl, fun w h => by have q7 := cell_arr h.q.x A1.out; have q8 := cell_arr h.q.x A2.out; have q9 := cell_arr h.q.x A3.out; go_simp⟩) hSb (fun hS => ?_)
   simp only [pA,pB,pC,Act.put,pD,pE,pF]
   clear hSb
   refine till_one (i := 12) (by kernel_rfl) rfl (fun K hK => ?_)
   simp only [pA,pB,pC]
   rw [if_pos (by rfl)]
   go_simp
   go_wp2_with (go_at_call 111; refine (idcmp_n f.i0 f.i1 f.i2 x.cm.i0 x.cm.i1 x.cm.i2 _).mono ?_; rintro e w3 ⟨rfl, H3⟩; rw [Hc.out])
   refine hK.out _ _ (hS.below H3.out) (fun hSb => ?_)
   clear hK K
   try simp only [pA,pB,pC,Act.put,pD,pE,pF]
   clear hS
   refine tkg (i := 13) (v := .bool ls) rfl hSb (fun hS => ?_)
   simp only [pA,pB,pC,Act.put,pD,pE,pF]
   clear hSb
   refine tkg (i := 14) (v := .bool ls) rfl hS (fun hSb => ?_)
   simp only [pA,pB,pC,Act.put,pD,pE,pF]
   clear hS
   have S4 := hSb
   refine till_done (by kernel_rfl) ?_ _
   clear hSb
   show (Exit.then _ _) .normal _ _
   have B3 : Hid (Below w.heap.size w w3) := (B2.out.drew).trans (H3.out.mono B2.out.size)
   have S3d : Hid (Cq2 w3 gc g A a n (some ⟨b1, 0, none⟩) fn fc) := S4.q
   have kr3 := sh H3 kr2
   clear S4 H3 i1' RL
   rcases ls with _ | _
   . have IB : Hid (flrO ⟨X.map Bkx.bk, F⟩ x.cm = (⟨X.map Bkx.bk, F⟩, okO)) := by
      show _ = _
      unfold flrO
      rw [FT.out]
      rfl
     obtain ⟨R, HR⟩ := nm ((#[.int .i64 0,.string ⟨#[]⟩] : Array Value))
     have a5' : (Tryz.prog.info? 51).map (·.size) = some R.size := by rw [<- HR.out]; exact outZ
     have AA : Hid (R.all (·.oneCell') = true) := (show R.all (·.oneCell') = true by rw [<- HR.out]; kernel_rfl)
     have a6' : Hid (R.size = 2) := (show R.size = 2 by rw [<- HR.out]; rfl)
     go_wp2_with (first
      | (go_at_call 92; refine (done_n _).mono ?_; rintro e w7 ⟨rfl, H7⟩; rw [HR.out]; have r7 := sh H7 kr3)
      | (refine wpList_store_row (by rfl) 51 (.tmp 4) (.tmp 46) (by rfl) (g + 1) R (by rfl) (by rfl) 51 _ r7.out a5' (by rw [a6'.out]; rfl) AA.out ?_))
     refine bodyPost_ret (results_cell_row Tryz.results77 _ _ (g + 1) 51 R (0, 0) _ (by rfl) (setRow_heap _ _ _ _ _ _ r7.out) Tryz.underlying51 rfl a5') rfl ?_
     refine ⟨R, rfl, ?_⟩
     rw [IB.out]
     have B7 : Below w.heap.size w w7 := B3.out.trans (H7.out.mono B3.out.size)
     have hg1 : w.heap.size <= g + 1 := by have := Hg.out; omega
     have B8 : Below w.heap.size w (w7.setRow (g + 1) R) := below_setRow B7 hg1 _
     exact ⟨HR.out.symm, a, n, n, X, _, fn, fc, F, (B8.block gc (gl hk.out)).trans hk.out, ((hC.out.ct.below B8).up (Nat.le_succ K)).full, rfl, rfl, B8.mono hlo, K51.below B8⟩

   . have IB : Hid (flrO ⟨X.map Bkx.bk, F⟩ x.cm = (⟨X.map Bkx.bk, setB (byF x.cm.i0) F ⟨x.cm.i0, x.cm.i1, x.cm.i2⟩⟩, okO)) := by
      show _ = _
      unfold flrO
      rw [FT.out]
      rfl
     go_upto_region 3 with (fail)
     obtain ⟨wd, Hwd⟩ := nm (w3.drew)
     have BD : Hid (Below w.heap.size w wd) := by rw [<- Hwd.out]; exact B3.out.drew
     have CC : Hid (CtC K wd lo hi a n X (some ⟨b1, 0, none⟩) fn fc F) := hC.out.below BD.out
     have RF : Hid (Rw wd lo hi 24 EId (some ⟨b1, 0, none⟩) fn fc F) := CC.out.f
     have KD : Hid (Cq2 wd gc g A a n (some ⟨b1, 0, none⟩) fn fc) := by rw [<- Hwd.out]; exact ⟨S3d.out.k, S3d.out.x⟩
     have KRD : Hid (wd.heap[g + 1]? = some (.cells #[.int .i64 0,.string ⟨#[]⟩] 51 (0, 0))) := by rw [<- Hwd.out]; exact kr3.out
     have hlo5 : lo <= wd.heap.size := Nat.le_trans hlo BD.out.size
     have hn1 : fn + 1 <= 1048576 := by have := hC.out.k.2; omega
     refine wp_region_till (S := tillP 13 (fun W => Cq2 W gc g A a n (some ⟨b1, 0, none⟩) fn fc)) (by kernel_rfl) (.inr (by rw [Hwd.out]; exact KD.out)) (fun hS => ?_)
     rw [Hwd.out] at hS ⊢
     clear Hwd
     refine tkp (i := 0) (v := .pointer (some ⟨gc, 0, none⟩)) rfl hS (fun hSb => ?_)
     simp only [pA,pB,pC,Act.put,pD,pE,pF]
     clear hS
     refine tkp (i := 1) (v := .pointer (some ⟨gc, 0, none⟩)) rfl hSb (fun hS => ?_)
     simp only [pA,pB,pC,Act.put,pD,pE,pF]
     clear hSb
     refine tkp (i := 2) (v := .pointer (some ⟨gc, 0, none⟩)) rfl hS (fun hSb => ?_)
     simp only [pA,pB,pC,Act.put,pD,pE,pF]
     clear hS
     refine tkp (i := 3) (v := .pointer (some ⟨gc, 1, none⟩)) rfl hSb (fun hS => ?_)
     simp only [pA,pB,pC,Act.put,pD,pE,pF]
     clear hSb
     refine trd (i := 4) (c := 13) (v := .slice (some ⟨b1, 0, none⟩) fn fc) (T := fun W => Cq2 W gc g A a n (some ⟨b1, 0, none⟩) fn fc) rfl rfl (fun L w => tillP_set (by decide)) (fun L w h1 h2 => tillP_out h1 h2) (Or.inl ⟨by rfl, fun w h => by have q9 := h.c1; go_simp⟩) hS (fun hSb => ?_)
     simp only [pA,pB,pC,Act.put,pD,pE,pF]
     clear hS
     refine tkp (i := 5) (v := .pointer (some ⟨g, 1, none⟩)) rfl hSb (fun hS => ?_)
     simp only [pA,pB,pC,Act.put,pD,pE,pF]
     clear hSb
     refine tkp (i := 6) (v := .pointer (some ⟨g, 1, none⟩)) rfl hS (fun hSb => ?_)
     simp only [pA,pB,pC,Act.put,pD,pE,pF]
     clear hS
     refine trd (i := 7) (c := 13) (v := .int .i64 x.cm.i0) (T := fun W => Cq2 W gc g A a n (some ⟨b1, 0, none⟩) fn fc) rfl rfl (fun L w => tillP_set (by decide)) (fun L w h1 h2 => tillP_out h1 h2) (Or.inl ⟨by rfl, fun w h => by have q9 := cell_arr h.x A1.out; go_simp⟩) hSb (fun hS => ?_)
     simp only [pA,pB,pC,Act.put,pD,pE,pF]
     clear hSb
     refine tkp (i := 8) (v := .pointer (some ⟨g, 1, none⟩)) rfl hS (fun hSb => ?_)
     simp only [pA,pB,pC,Act.put,pD,pE,pF]
     clear hS
     refine trd (i := 9) (c := 13) (v := .agg #[.int .i64 x.cm.i0,.int .i64 x.cm.i1,.int .i64 x.cm.i2]) (T := fun W => Cq2 W gc g A a n (some ⟨b1, 0, none⟩) fn fc) rfl rfl (fun L w => tillP_set (by decide)) (fun L w h1 h2 => tillP_out h1 h2) (Or.inl ⟨by rfl, fun w h => by have q7 := cell_arr h.x A1.out; have q8 := cell_arr h.x A2.out; have q9 := cell_arr h.x A3.out; go_simp⟩) hSb (fun hS => ?_)
     simp only [pA,pB,pC,Act.put,pD,pE,pF]
     clear hSb
     refine till_one (i := 10) (by kernel_rfl) rfl (fun K hK => ?_)
     simp only [pA,pB,pC]
     rw [if_pos (by rfl)]
     go_simp
     go_wp2_with (go_at_call 112; refine (set_F (y := ⟨x.cm.i0, x.cm.i1, x.cm.i2⟩) x.cm.i0 RF hlo5 hn1 (show Hid _ from rfl)).mono ?_; rintro e w5 ⟨a5, n5, c5, rfl, H5⟩)
     have S5 : Cq2 w5 gc g A a n (some ⟨b1, 0, none⟩) fn fc := cq_setF KD.out RF.out H5.out.2
     refine hK.out _ _ (Or.inr S5) (fun hSb => ?_)
     clear hK K
     try simp only [pA,pB,pC,Act.put,pD,pE,pF]
     clear hS
     refine tkp (i := 11) (v := .pointer (some ⟨gc, 0, none⟩)) rfl hSb (fun hS => ?_)
     simp only [pA,pB,pC,Act.put,pD,pE,pF]
     clear hSb
     refine tkp (i := 12) (v := .pointer (some ⟨gc, 1, none⟩)) rfl hS (fun hSb => ?_)
     simp only [pA,pB,pC,Act.put,pD,pE,pF]
     clear hS
     refine till_one (i := 13) (by kernel_rfl) rfl (fun K hK => ?_)
     simp only [pA,pB,pC]
     rw [if_pos (by rfl)]
     have q9 := S5.c1
     have q8 : w5.frozen? ⟨gc, 1, none⟩ = false := by have h := S5.k; simp [World.frozen?, h]
     go_simp
     refine hK.out _ _ (Or.inl (by kernel_rfl)) (fun hS => ?_)
     clear hK K
     try simp only [pA,pB,pC,Act.put,pD,pE,pF]
     clear hSb
     refine till_done (by kernel_rfl) ?_ _
     clear hS
     show (Exit.then _ _) .normal _ _
     have kr5 : Hid (w5.heap[g + 1]? = some (.cells #[.int .i64 0,.string ⟨#[]⟩] 51 (0, 0))) := (H5.out.2.block _ (gl KRD.out) (fun e => by
      obtain ⟨cur, h1, _⟩ := RF.out.blk e
      have h2 := KRD.out
      rw [h1] at h2
      simp at h2)).trans KRD.out
     have k5 : Hid (w5.heap[gc]? = some (.cells #[.slice a n n,.slice (some ⟨b1, 0, none⟩) fn fc] 58 (0, 0))) := S5.k
     have CO5 : Hid (CtO (K + 1) w5 lo w5.heap.size a n n X a5 n5 c5 (setX (byF x.cm.i0) id F ⟨x.cm.i0, x.cm.i1, x.cm.i2⟩)) := by
      refine ⟨(CC.out.b.keep1 (fun q e => H5.out.2.block q (CC.out.b.lt e).2 (fun e2 => CC.out.b.apart RF.out (by decide) e e2))).full, fun z hz => (((CC.out.bb z hz).b.chF RF.out H5.out.2).up (Nat.le_succ K)).full, H5.out.1, Nat.le_trans CC.out.k.1 (Nat.le_succ K), ?_⟩
      have h1 := H5.out.1.len
      have h2 := setX_len (byF x.cm.i0) id F (⟨x.cm.i0, x.cm.i1, x.cm.i2⟩ : Idd)
      have h3 := RF.out.len
      have h4 := CC.out.k.2
      omega
     have BL5 : Hid (Below lo w w5) := (BD.out.mono hlo).trans (H5.out.2.toBelow hlo5 (fun q hq e => by have := (RF.out.lt e).1; omega))
     have k6 : Hid ((w5.setCell ⟨gc, 1, none⟩ (.slice a5 n5 c5)).heap[gc]? = some (.cells #[.slice a n n,.slice a5 n5 c5] 58 (0, 0))) := set_blkf k5.out 1 _
     have ne6 : Hid (g + 1 ≠ gc) := fun e => by have h := kr5.out; rw [e, k5.out] at h; simp at h
     have kr6 : Hid ((w5.setCell ⟨gc, 1, none⟩ (.slice a5 n5 c5)).heap[g + 1]? = some (.cells #[.int .i64 0,.string ⟨#[]⟩] 51 (0, 0))) := (Below.heap_setCell _ _ _ _ ne6.out).trans kr5.out
     have CO6 : Hid (CtO (K + 1) (w5.setCell ⟨gc, 1, none⟩ (.slice a5 n5 c5)) lo w5.heap.size a n n X a5 n5 c5 (setX (byF x.cm.i0) id F ⟨x.cm.i0, x.cm.i1, x.cm.i2⟩)) := by
      have hb : ∀ q, q < w5.heap.size -> q ≠ gc -> (w5.setCell ⟨gc, 1, none⟩ (.slice a5 n5 c5)).heap[q]? = w5.heap[q]? := fun q _ hq => Below.heap_setCell _ _ _ _ hq
      exact ⟨CO5.out.b.off hb k5.out (by decide), fun z hz => (CO5.out.bb z hz).off hb k5.out (by decide), CO5.out.f.off hb k5.out (by decide), CO5.out.k⟩
     have BL6 : Hid (Below lo w (w5.setCell ⟨gc, 1, none⟩ (.slice a5 n5 c5))) := BL5.out.setCell hgc _
     have K6 : Hid (K51 w (w5.setCell ⟨gc, 1, none⟩ (.slice a5 n5 c5))) := fun q cs h => by
      have h1 := K51.below BD.out q cs h
      have h2 : w5.heap[q]? = some (.cells cs 51 (0, 0)) := (H5.out.2.block q (gl h1) (fun e => by
       obtain ⟨cur, h3, _⟩ := RF.out.blk e
       rw [h3] at h1
       simp at h1)).trans h1
      exact (Below.heap_setCell _ _ _ _ (fun e => by rw [e, k5.out] at h2; simp at h2)).trans h2
     obtain ⟨w6, Hw6⟩ := nm (w5.setCell ⟨gc, 1, none⟩ (.slice a5 n5 c5))
     rw [Hw6.out] at k6 kr6 CO6 BL6 K6 ⊢
     clear Hw6 S5 q9 q8 H5 CO5 BL5 k5 kr5
     obtain ⟨R, HR⟩ := nm ((#[.int .i64 0,.string ⟨#[]⟩] : Array Value))
     have a5' : (Tryz.prog.info? 51).map (·.size) = some R.size := by rw [<- HR.out]; exact outZ
     have AA : Hid (R.all (·.oneCell') = true) := (show R.all (·.oneCell') = true by rw [<- HR.out]; kernel_rfl)
     have a6' : Hid (R.size = 2) := (show R.size = 2 by rw [<- HR.out]; rfl)
     go_wp2_with (first
      | (go_at_call 92; refine (done_n _).mono ?_; rintro e w7 ⟨rfl, H7⟩; rw [HR.out]; have r7 := sh H7 kr6)
      | (refine wpList_store_row (by rfl) 51 (.tmp 4) (.tmp 46) (by rfl) (g + 1) R (by rfl) (by rfl) 51 _ r7.out a5' (by rw [a6'.out]; rfl) AA.out ?_))
     refine bodyPost_ret (results_cell_row Tryz.results77 _ _ (g + 1) 51 R (0, 0) _ (by rfl) (setRow_heap _ _ _ _ _ _ r7.out) Tryz.underlying51 rfl a5') rfl ?_
     refine ⟨R, rfl, ?_⟩
     rw [IB.out]
     have hg1 : lo <= g + 1 := by have := Hg.out; omega
     have k7 := (H7.out.block gc (gl k6.out)).trans k6.out
     have ng : ∀ q, q < w7.heap.size -> q ≠ g + 1 -> (w7.setRow (g + 1) R).heap[q]? = w7.heap[q]? := fun q hq hn => setRow_other _ _ _ _ hn
     exact ⟨HR.out.symm, a, n, n, X, a5, n5, c5, _, (ng gc (gl k7) (fun e => ne6.out e.symm)).trans k7, ((CO6.out.below H7.out).off ng r7.out).full, rfl, setX_iq _ _ _, below_setRow (BL6.out.trans (H7.out.mono (Nat.le_trans hlo BL6.out.size))) hg1 _, fun q cs h => (setRow_other _ _ _ _ (fun e2 => by have h2 := (gl h); have h3 := Hg.out; omega)).trans (K51.below H7.out q cs (K6.out q cs h))⟩

def EtB (C : Ctd) : Prop := ∀ b ∈ C.bks, ∀ u ∈ b.uls, ∀ p ∈ u.pts, p.pc.et.size <= 140737488352256
theorem setB_mem {α : Type} {c : α -> Int} {l : List α} {x y : α} (h : y ∈ setB c l x) : y = x ∨ y ∈ l := by
 unfold setB at h
 split at h
 . rcases List.mem_or_eq_of_mem_set h with h | h
   . exact .inr h
   . exact .inl h
 . rcases List.mem_append.1 h with h | h
   . exact .inr (List.mem_of_mem_take h)
   . rcases List.mem_cons.1 h with h | h
     . exact .inl h
     . exact .inr (List.mem_of_mem_drop h)
theorem outB_mem {α : Type} {c : α -> Int} {l : List α} {y : α} (h : y ∈ outB c l) : y ∈ l := by
 unfold outB at h
 split at h
 . exact List.mem_of_mem_eraseIdx h
 . exact h
theorem inB_et {C : Ctd} {x : Cm} {f : Bkd -> Cm -> Bkd × Outc} (hC : EtB C) (hf : ∀ b ∈ C.bks, ∀ u ∈ (f b x).1.uls, ∀ p ∈ u.pts, p.pc.et.size <= 140737488352256) : EtB (inB C x f).1 := by
 unfold inB
 split
 . split
   . exact hC
   . rename_i b hb
     intro b2 hb2
     rcases List.mem_or_eq_of_mem_set hb2 with h | rfl
     . exact hC b2 h
     . exact hf b (List.mem_of_getElem? hb)
 . exact hC
theorem app_et {C : Ctd} {x : Cm} (hC : EtB C) (hx : x.et.size <= 140737488352256) : EtB (app sumO C x).1 := by
 unfold app
 split
 . unfold makO
   split
   . exact hC
   . split
     . exact hC
     . intro b hb
       rcases setB_mem hb with rfl | h
       . intro u hu; cases hu
       . exact hC b h
 split
 . unfold droO
   split
   . split
     . exact hC
     . split
       . exact hC
       . intro b hb; exact hC b (outB_mem hb)
   . exact hC
 split
 . refine inB_et hC (fun b hb u hu => ?_)
   unfold putO at hu
   split at hu <;> exact hC b hb u hu
 split
 . exact inB_et hC (fun b hb u hu => hC b hb u hu)
 split
 . refine inB_et hC (fun b hb u hu => ?_)
   unfold staO at hu
   split at hu
   . exact hC b hb u hu
   . rcases setB_mem hu with rfl | h
     . intro p hp; cases hp
     . exact hC b hb u h
 split
 . refine inB_et hC (fun b hb u hu => ?_)
   unfold parO at hu
   split at hu
   . exact hC b hb u hu
   . rename_i v hv
     have hvm : v ∈ b.uls := by
      unfold upB at hv
      exact List.mem_of_getElem? (Option.eq_some_of_filter_eq_some hv)
     rcases List.mem_or_eq_of_mem_set hu with h | rfl
     . exact hC b hb u h
     . intro p hp
       rcases setB_mem hp with rfl | h
       . exact hx
       . exact hC b hb v hvm p h
 split
 . refine inB_et hC (fun b hb u hu => ?_)
   unfold comO at hu
   split at hu
   . exact hC b hb u hu
   . split at hu
     . exact hC b hb u hu
     . split at hu
       . exact hC b hb u (outB_mem hu)
       . exact hC b hb u hu
 split
 . refine inB_et hC (fun b hb u hu => ?_)
   unfold aboO at hu
   split at hu
   . exact hC b hb u hu
   . exact hC b hb u (outB_mem hu)
 split
 . exact inB_et hC (fun b hb u hu => hC b hb u hu)
 split
 . intro b hb
   obtain ⟨b2, hb2, rfl⟩ := List.mem_map.1 hb
   intro u hu
   unfold expB at hu
   split at hu <;> exact hC b2 hb2 u hu
 split
 . unfold flrO
   simp only
   split <;> exact hC
 exact hC
structure Ev (w : World) : Prop where
 k : Sh.Kst w
 z : 20 < w.heap.size
 t : Sh.Tab w
theorem Ev.below {w w' : World} (h : Ev w) (hb : Below w.heap.size w w') : Ev w' := ⟨h.k.below hb (by have := h.z; omega), Nat.lt_of_lt_of_le h.z hb.size, h.t.below hb⟩
def Ctm (K : Nat) (w : World) (lo : Nat) (C : Array Value) (P : Ctd) : Prop := ∃ a n c X fa fn fc F, C = #[.slice a n c,.slice fa fn fc] /\ CtO K w lo w.heap.size a n c X fa fn fc F /\ P = ⟨X.map Bkx.bk, F⟩
theorem Ctm.keep {K : Nat} {w w' : World} {lo : Nat} {C : Array Value} {P : Ctd} (h : Ctm K w lo C P) (hb : ∀ q, lo <= q -> q < w.heap.size -> w'.heap[q]? = w.heap[q]?) (hs : w.heap.size <= w'.heap.size) : Ctm K w' lo C P := by
 obtain ⟨a, n, c, X, fa, fn, fc, F, e, h1, h2⟩ := h
 exact ⟨a, n, c, X, fa, fn, fc, F, e, (h1.keep (fun q h3 _ h4 => hb q h3 h4)).mono (Nat.le_refl _) hs, h2⟩
theorem Ctm.below {K : Nat} {w w' : World} {lo : Nat} {C : Array Value} {P : Ctd} (h : Ctm K w lo C P) (hb : Below w.heap.size w w') : Ctm K w' lo C P := h.keep (fun q _ hq => hb.block q hq) hb.size
theorem Ctm.dn {K : Nat} {w : World} {lo lo' : Nat} {C : Array Value} {P : Ctd} (h : Ctm K w lo C P) (hl : lo' <= lo) : Ctm K w lo' C P := by
 obtain ⟨a, n, c, X, fa, fn, fc, F, e, h1, h2⟩ := h
 exact ⟨a, n, c, X, fa, fn, fc, F, e, h1.mono hl (Nat.le_refl _), h2⟩
theorem Ctm.arr {K : Nat} {w : World} {lo : Nat} {C : Array Value} {P : Ctd} (h : Ctm K w lo C P) : Arr 2 C := by
 obtain ⟨a, n, c, X, fa, fn, fc, F, rfl, h1, h2⟩ := h
 exact ⟨rfl, by kernel_rfl⟩
theorem Ctm.zero (K : Nat) (w : World) (lo : Nat) : Ctm K w lo #[.slice none 0 0,.slice none 0 0] ⟨[], []⟩ :=
 ⟨none, 0, 0, [], none, 0, 0, [], rfl, ⟨Rw.nil _ _ _ _ _ (by decide), (fun b hb => by cases hb), Rw.nil _ _ _ _ _ (by decide), ⟨Nat.zero_le _, Nat.zero_le _⟩⟩, rfl⟩
structure Okc (w : World) (x : Cx) : Prop where
 s : x.cm.bu.size <= K48 /\ x.cm.ke.size <= K48 /\ x.cm.et.size <= K48
 e : x.cm.et.size <= 140737488352256
 i : Irow w 0 x.pa x.pn x.cm.ps
 l : x.cm.ps.length <= 16
theorem Okc.below {w w' : World} {x : Cx} (h : Okc w x) (hb : Below w.heap.size w w') : Okc w' x := ⟨h.s, h.e, h.i.below hb, h.l⟩
def outR (o : Outc) : Array Value := #[.int .i64 o.code,.string o.etag]
theorem outR_arr (o : Outc) : Arr 2 (outR o) := ⟨rfl, by simp [outR, Value.oneCell']⟩
set_option maxHeartbeats 4000000 in
theorem apply_n {K : Nat} (hK : K + 1 <= 1048576) (h16 : 16 <= K + 1) {w : World} {A C0 : Array Value} {x : Cx} {lo : Nat} {P : Ctd} (hX : Hid (A = (encX x).toArray)) (hO : Hid (Okc w x)) (hC : Hid (Ctm K w lo C0 P)) (hE : Hid (EtB P)) (hV : Hid (Ev w)) :
  Calls Tryz.prog 25 #[.agg C0, .agg A] w fun e w' => ∃ C R, e = .returned (.tuple #[.agg C, .agg R]) /\ Hid (Ctm (K + 1) w' w.heap.size C (app sumO P x.cm).1 /\ R = outR (app sumO P x.cm).2 /\ Below w.heap.size w w') := by
 refine (apply_shell (x := x) (P := fun W C => ∃ a n X fa fn fc F hi, C = #[.slice a n n,.slice fa fn fc] /\ CtC K W (w.heap.size + 4) hi a n X fa fn fc F /\ hi <= W.heap.size /\ P = ⟨X.map Bkx.bk, F⟩) (Q := fun W C R => Ctm (K + 1) W (w.heap.size + 4) C (app sumO P x.cm).1 /\ R = outR (app sumO P x.cm).2) hX (show Hid _ from hO.out.s) hC.out.arr ?_ ?_ ?_ ?_).mono ?_
 . rintro W W' C ⟨a, n, X, fa, fn, fc, F, hi, rfl, h1, h2, h3⟩ hb
   exact ⟨a, n, X, fa, fn, fc, F, hi, rfl, h1.below hb, Nat.le_trans h2 hb.size, h3⟩
 . rintro W W' C R ⟨h1, h2⟩ hb hs
   exact ⟨h1.keep hb hs, h2⟩
 . intro W hW hz
   obtain ⟨a, n, c, X, fa, fn, fc, F, rfl, h1, h2⟩ := hC.out
   have h1' : Hid (CtO K W lo w.heap.size a n c X fa fn fc F) := h1.below hW
   refine (copyCatalog_e (by omega) h1').mono ?_
   rintro e w' ⟨a2, fa2, fc2, rfl, H⟩
   obtain ⟨Y, y1, y2, y3⟩ := H.out
   exact ⟨_, rfl, ⟨rfl, by kernel_rfl⟩, ⟨a2, n, Y, fa2, fn, fc2, F, w'.heap.size, rfl, by rw [<- hz]; exact y2, Nat.le_refl _, by rw [h2, y1]⟩, y3⟩
 . intro W gc C1 hgc hk hP hW hs
   obtain ⟨a, n, X, fa, fn, fc, F, hi, rfl, h1, h2, h3⟩ := hP.out
   have E3 : EtB ⟨X.map Bkx.bk, F⟩ := by rw [<- h3]; exact hE.out
   have O3 : Okc W x := hO.out.below hW
   have V3 : Ev W := hV.out.below hW
   have CC : Hid (CtC K W (w.heap.size + 4) hi a n X fa fn fc F) := h1
   refine (change_n (sum := sumO) hK hX hO.out.s CC hk hs hgc h2 (fun w1 hb => ?_) (fun w1 hb => ?_) (fun w1 hb => ?_)).mono ?_
   . rw [comO_eq]
     refine inUpload_com (G := comG) (by omega) hX (show Hid _ from h1.below hb) (show Hid _ from (hb.block gc (gl hk.out)).trans hk.out) (Nat.le_trans hs hb.size) (fun V b i u p y v s1 s2 s3 s4 hV2 => ?_)
     have hb2 : Below W.heap.size W V := hb.trans (hV2.mono hb.size)
     have O4 := O3.below hb2
     have V4 := V3.below hb2
     refine completeUpload_n hK hX hO.out.s.2.1 (Nat.le_trans hs hb2.size) (Nat.le_trans h2 hb2.size) s1 s2 s3 (show Hid _ from O4.i) O4.l (show Hid _ from Nat.le_trans O4.l h16) (show Hid _ from fun q hq => ?_) (show Hid _ from V4.k) (show Hid _ from V4.z) (show Hid _ from V4.t)
     exact E3 y.bk (List.mem_map.2 ⟨y, List.mem_of_getElem? s1.out.x, rfl⟩) v.ul (List.mem_map.2 ⟨v, List.mem_of_getElem? s2.out, rfl⟩) q hq
   . exact expire_n hK hX (show Hid _ from h1.below hb) (show Hid _ from (hb.block gc (gl hk.out)).trans hk.out) (Nat.le_trans hs hb.size)
   . exact raiseFloor_n hK hX (show Hid _ from h1.below hb) (show Hid _ from (hb.block gc (gl hk.out)).trans hk.out) (Nat.le_trans hs hb.size) hgc
   . rintro e w' ⟨R, rfl, H⟩
     obtain ⟨r1, a', n', c', X', fa', fn', fc', F', r2, r3, r4, r5, r6, r7⟩ := H.out
     refine ⟨R, rfl, by rw [r1]; exact outR_arr _, _, r2, ⟨rfl, by kernel_rfl⟩, ⟨⟨a', n', c', X', fa', fn', fc', F', rfl, r3, ?_⟩, ?_⟩, r6⟩
     . rw [h3, r4, r5]
     . rw [r1, h3]; rfl
 . rintro e w' ⟨C, R, rfl, H⟩
   exact ⟨C, R, rfl, H.out.1.1.dn (by omega), H.out.1.2, H.out.2⟩
theorem rsP_len {l : List Int} (h : Fo.rsP l l.length = true) : l.length <= 16 := by
 have h0 : ∀ j, j < l.length -> (1 <= l.getD j 0 /\ l.getD j 0 <= 16) /\ Fo.lst l j < l.getD j 0 := fun j hj => by
  have := List.all_eq_true.1 h j (List.mem_range.2 hj)
  simpa [Fo.ptP] using this
 have h1 : ∀ j, j < l.length -> (j : Int) + 1 <= l.getD j 0 := by
  intro j
  induction j with
  | zero => intro hj; have := (h0 0 hj).1.1; omega
  | succ j ih =>
    intro hj
    have a1 := ih (by omega)
    have a2 := (h0 (j + 1) hj).2
    have a3 : Fo.lst l (j + 1) = l.getD j 0 := rfl
    rw [a3] at a2
    omega
 apply Nat.le_of_not_lt
 intro hlt
 have a1 := h1 16 hlt
 have a2 := (h0 16 hlt).1.2
 omega
theorem frm_ok {x : Cm} (h : Fo.frm x = true) : Cmf x /\ x.ps.length <= 16 /\ x.et.size <= 64 := by
 unfold Fo.frm at h
 simp only [Bool.and_eq_true] at h
 obtain ⟨_, hi, _, _, _, hp, ht, hs, _, _⟩ := h
 refine ⟨⟨fun k => ?_, fun k => ?_, fun k => ?_⟩, ?_, ?_⟩
 . unfold Fo.goz Fo.fT at ht
   rw [if_pos (decide_eq_true k)] at ht
   simpa [Fo.ptP] using ht
 . unfold Fo.goz Fo.fS at hs
   rw [if_pos (decide_eq_true k)] at hs
   unfold Fo.gdS at hs
   simp only [Bool.and_eq_true, decide_eq_true_eq] at hs
   intro e
   rw [e] at hs
   exact absurd hs.2 (by simp)
 . unfold Fo.gdI at hi
   simp only [Bool.and_eq_true, decide_eq_true_eq] at hi
   exact hi.1
 . unfold Fo.goz Fo.fS at hs
   by_cases k : x.k = 7
   . rw [if_pos (decide_eq_true k)] at hs
     unfold Fo.gdS at hs
     simp only [Bool.and_eq_true] at hs
     exact rsP_len hs.1
   . rw [if_neg (by simpa using k)] at hs
     have : x.ps.length = 0 := of_decide_eq_true hs
     omega
 . unfold Fo.goz Fo.fP at hp
   by_cases k : x.k = 3 ∨ x.k = 6
   . rw [if_pos (decide_eq_true k)] at hp
     unfold Fo.gdP Fo.gdE at hp
     simp only [Bool.and_eq_true, decide_eq_true_eq] at hp
     omega
   . rw [if_neg (by simpa using k)] at hp
     have e := (of_decide_eq_true hp).2.2
     rw [e]
     decide
def folC (l : List Cm) : Ctd := l.foldl (fun C x => (app sumO C x).1) ⟨[], []⟩
theorem folC_snoc (l : List Cm) (x : Cm) : folC (l ++ [x]) = (app sumO (folC l) x).1 := by unfold folC; rw [List.foldl_append]; rfl
theorem folC_ok (l : List Cm) (h : ∀ x ∈ l, Fo.frm x = true) : Okk (folC l) /\ EtB (folC l) := by
 have key : ∀ (l : List Cm) (C : Ctd), Okk C /\ EtB C -> (∀ x ∈ l, Fo.frm x = true) -> Okk (l.foldl (fun C x => (app sumO C x).1) C) /\ EtB (l.foldl (fun C x => (app sumO C x).1) C) := by
  intro l
  induction l with
  | nil => intro C h _; exact h
  | cons x l ih =>
    intro C h hx
    have f := frm_ok (hx x List.mem_cons_self)
    exact ih _ ⟨okk_app sumO h.1 f.1, app_et h.2 (by have := f.2.2; omega)⟩ (fun y hy => hx y (List.mem_cons_of_mem _ hy))
 exact key l _ ⟨okk_nil, fun b hb => by cases hb⟩ h
theorem okc_of {w : World} {x : Cx} (hf : Fo.frm x.cm = true) (hI : Irow w 0 x.pa x.pn x.cm.ps) (hT : x.cm.bu.size <= 281474976710656 /\ x.cm.ke.size <= 281474976710656 /\ x.cm.et.size <= 281474976710656) : Okc w x := by
 have f := frm_ok hf
 exact ⟨hT, by have := f.2.2; omega, hI, f.2.1⟩
end Go.Proofs.YtfabnnbljkkihaaGreatDoor
