import Derived.Test.YtfabnnbljkkihaaGreatDoorMxp
import Derived.Test.YtfabnnbljkkihaaGreatDoorMx19
namespace Go.Proofs.YtfabnnbljkkihaaGreatDoor
open Go.ChangeShapes Go.WideShapes Go.ChangeAt Go.RowKit
set_option maxRecDepth 20000
set_option linter.unusedVariables false
set_option linter.unusedSimpArgs false
theorem dif_symm {a b : Option Addr} (h : dif a b) : dif b a := fun q e e2 => h q e2 e
theorem pair_at {α : Type} {R : α -> α -> Prop} (hs : ∀ x y, R x y -> R y x) {l : List α} (h : l.Pairwise R) {i j : Nat} {x y : α} (hi : l[i]? = some x) (hj : l[j]? = some y) (hne : i ≠ j) : R x y := by
 obtain ⟨h1, rfl⟩ := List.getElem?_eq_some_iff.1 hi
 obtain ⟨h2, rfl⟩ := List.getElem?_eq_some_iff.1 hj
 rcases Nat.lt_or_gt_of_ne hne with h3 | h3
 . exact List.pairwise_iff_getElem.1 h i j h1 h2 h3
 . exact hs _ _ (List.pairwise_iff_getElem.1 h j i h2 h1 h3)
theorem other {K : Nat} {V w' : World} {lo hi b n : Nat} {X : List Bkx} {fa : Option Addr} {fn fc : Nat} {F : List Idd} {i j : Nat} {y z : Bkx} (hC : CtC K V lo hi (some ⟨b, 0, none⟩) n X fa fn fc F) (hi' : X[i]? = some y) (hj : X[j]? = some z) (hne : i ≠ j) (hc : Ch V w' (SB b y)) : BkO K w' lo hi z := by
 have hy := (hC.bb y (List.mem_of_getElem? hi')).b
 have hz := (hC.bb z (List.mem_of_getElem? hj)).b
 have d1 : dif y.oa z.oa := pair_at (fun _ _ h => dif_symm h) hC.o hi' hj hne
 have d2 : dif y.ua z.ua := pair_at (fun _ _ h => dif_symm h) hC.u hi' hj hne
 have d3 : ∀ u ∈ y.ux, ∀ v ∈ z.ux, dif u.a v.a := pair_at (R := fun b c : Bkx => ∀ u ∈ b.ux, ∀ v ∈ c.ux, dif u.a v.a) (fun _ _ h u hu v hv => dif_symm (h v hv u hu)) hC.p hi' hj hne
 have bb : blkOf (some (⟨b, 0, none⟩ : Addr)) = some b := rfl
 refine ⟨hz.o.keep1 (fun q e => hc.block q (hz.o.lt e).2 ?_), fun o ho => ⟨(hz.oo o ho).r.keep1 (fun q e => hc.block q ((hz.oo o ho).r.lt e).2 ?_), (hz.oo o ho).p, (hz.oo o ho).k, (hz.oo o ho).s⟩, hz.u.keep1 (fun q e => hc.block q (hz.u.lt e).2 ?_), fun u hu => ⟨(hz.uu u hu).r.keep1 (fun q e => hc.block q ((hz.uu u hu).r.lt e).2 ?_), (hz.uu u hu).p, (hz.uu u hu).k, (hz.uu u hu).s⟩, hz.k, hz.s⟩
 . rintro (rfl | e1 | e1 | ⟨v, hv, e1⟩)
   . exact hz.o.apart hC.b (by decide) e bb
   . exact d1 q e1 e
   . exact hz.o.apart hy.u (by decide) e e1
   . exact hz.o.apart (hy.uu v hv).r (by decide) e e1
 . rintro (rfl | e1 | e1 | ⟨v, hv, e1⟩)
   . exact (hz.oo o ho).r.apart hC.b (by decide) e bb
   . exact (hz.oo o ho).r.apart hy.o (by decide) e e1
   . exact (hz.oo o ho).r.apart hy.u (by decide) e e1
   . exact (hz.oo o ho).r.apart (hy.uu v hv).r (by decide) e e1
 . rintro (rfl | e1 | e1 | ⟨v, hv, e1⟩)
   . exact hz.u.apart hC.b (by decide) e bb
   . exact hz.u.apart hy.o (by decide) e e1
   . exact d2 q e1 e
   . exact hz.u.apart (hy.uu v hv).r (by decide) e e1
 . rintro (rfl | e1 | e1 | ⟨v, hv, e1⟩)
   . exact (hz.uu u hu).r.apart hC.b (by decide) e bb
   . exact (hz.uu u hu).r.apart hy.o (by decide) e e1
   . exact (hz.uu u hu).r.apart hy.u (by decide) e e1
   . exact d3 v hv u hu q e1 e
theorem sb_off {K : Nat} {V : World} {lo hi b n : Nat} {X : List Bkx} {i q : Nat} {y : Bkx} {cs : Array Value} {t : TypeId} (hS : Bs K V lo hi b n X i y) (hq : V.heap[q]? = some (.cells cs t (0, 0))) (ht : t ≠ 65 /\ t ≠ 71 /\ t ≠ 77 /\ t ≠ 108) : ¬ SB b y q := by
 have hy := hS.c.b
 have go : ∀ {α : Type} {E : Enc α} {t' : TypeId} {a : Option Addr} {m c : Nat} {l : List α}, t ≠ t' -> Rw V lo hi t' E a m c l -> blkOf a = some q -> False := fun hn hr e => by
  obtain ⟨cur, hc, _⟩ := hr.blk e
  rw [hq] at hc
  cases hc
  exact hn rfl
 rintro (rfl | e1 | e1 | ⟨v, hv, e1⟩)
 . exact go ht.1 hS.r rfl
 . exact go ht.2.1 hy.o e1
 . exact go ht.2.2.1 hy.u e1
 . exact go ht.2.2.2 (hy.uu v hv).r e1
def K51 (W W' : World) : Prop := ∀ (q : Nat) (cs : Array Value), W.heap[q]? = some (.cells cs 51 (0, 0)) -> W'.heap[q]? = some (.cells cs 51 (0, 0))
theorem K51.below {a b : World} (h : Below a.heap.size a b) : K51 a b := fun q cs e => (h.block q (gl e)).trans e
def ChR (K : Nat) (W W' : World) (lo gc : Nat) (r : Ctd × Outc) (R : Array Value) : Prop :=
 R = #[.int .i64 r.2.code,.string r.2.etag] /\ ∃ a' n' c' X' fa' fn' fc' F', W'.heap[gc]? = some (.cells #[.slice a' n' c',.slice fa' fn' fc'] 58 (0, 0)) /\ CtO (K + 1) W' lo W'.heap.size a' n' c' X' fa' fn' fc' F' /\ X'.map Bkx.bk = r.1.bks /\ F' = r.1.fls /\ Below lo W W' /\ K51 W W'
theorem CtO.up {K K' : Nat} {w : World} {lo hi : Nat} {a fa : Option Addr} {n c fn fc : Nat} {X : List Bkx} {F : List Idd} (h : CtO K w lo hi a n c X fa fn fc F) (hk : K <= K') : CtO K' w lo hi a n c X fa fn fc F := ⟨h.b, fun b hb => (h.bb b hb).up hk, h.f, ⟨Nat.le_trans h.k.1 hk, Nat.le_trans h.k.2 hk⟩⟩
theorem CtO.full {K : Nat} {w : World} {lo hi : Nat} {a fa : Option Addr} {n c fn fc : Nat} {X : List Bkx} {F : List Idd} (h : CtO K w lo hi a n c X fa fn fc F) : CtO K w lo w.heap.size a n c X fa fn fc F := ⟨h.b.full, fun b hb => (h.bb b hb).full, h.f.full, h.k⟩
theorem do_cat {K : Nat} {V w' : World} {lo hi b n gc : Nat} {X : List Bkx} {fa : Option Addr} {fn fc : Nat} {F : List Idd} {i : Nat} {y : Bkx} {f : Bkd × Outc} {R : Array Value} (hC : CtC K V lo hi (some ⟨b, 0, none⟩) n X fa fn fc F) (hx : X[i]? = some y) (hk : V.heap[gc]? = some (.cells #[.slice (some ⟨b, 0, none⟩) n n,.slice fa fn fc] 58 (0, 0))) (hd : DoR K V w' lo hi b n X i y f R) :
  ∃ X', w'.heap[gc]? = some (.cells #[.slice (some ⟨b, 0, none⟩) n n,.slice fa fn fc] 58 (0, 0)) /\ CtO (K + 1) w' lo w'.heap.size (some ⟨b, 0, none⟩) n n X' fa fn fc F /\ X'.map Bkx.bk = (X.map Bkx.bk).set i f.1 /\ Below lo V w' /\ K51 V w' := by
 obtain ⟨_, z, hz, h1, h2, h3⟩ := hd
 have hS : Bs K V lo hi b n X i y := ⟨hC.b, hx, hC.bb y (List.mem_of_getElem? hx)⟩
 have hlo : lo <= V.heap.size := by have := hC.b.lt (q := b) rfl; omega
 refine ⟨X.set i z, (h3.block gc (gl hk) (sb_off hS hk (by decide))).trans hk, ⟨h1.full, fun c hc => ?_, ?_, ⟨Nat.le_trans hC.k.1 (Nat.le_succ K), Nat.le_trans hC.k.2 (Nat.le_succ K)⟩⟩, by rw [List.map_set, hz], h3.toBelow hlo ?_, fun q cs e => (h3.block q (gl e) (sb_off hS e (by decide))).trans e⟩
 . obtain ⟨j, hj, rfl⟩ := List.getElem_of_mem hc
   rw [List.length_set] at hj
   by_cases hij : i = j
   . subst hij
     rw [List.getElem_set_self]
     exact h2
   . rw [List.getElem_set_ne hij]
     exact ((other hC hx (List.getElem?_eq_getElem hj) hij h3).up (Nat.le_succ K)).full
 . refine (hC.f.keep1 (fun q e => h3.block q (hC.f.lt e).2 (fun hs => ?_))).full
   obtain ⟨cur, hc, _⟩ := hC.f.blk e
   exact sb_off hS hc (by decide) hs
 . rintro q hq (rfl | e | e | ⟨u, hu, e⟩)
   . have := (hC.b.lt (q := q) rfl).1; omega
   . have := (hS.c.b.o.lt e).1; omega
   . have := (hS.c.b.u.lt e).1; omega
   . have := ((hS.c.b.uu u hu).r.lt e).1; omega
structure Cq2 (W : World) (gc g : Nat) (A : Array Value) (a : Option Addr) (n : Nat) (fa : Option Addr) (fn fc : Nat) : Prop where
 k : W.heap[gc]? = some (.cells #[.slice a n n,.slice fa fn fc] 58 (0, 0))
 x : W.heap[g]? = some (.cells A 29 (0, 0))
theorem Cq2.c0 {W : World} {gc g : Nat} {A : Array Value} {a : Option Addr} {n : Nat} {fa : Option Addr} {fn fc : Nat} (h : Cq2 W gc g A a n fa fn fc) : W.cell? ⟨gc, 0, none⟩ = some (.slice a n n) := cell_arr h.k rfl
theorem Cq2.below {W W' : World} {gc g : Nat} {A : Array Value} {a : Option Addr} {n : Nat} {fa : Option Addr} {fn fc : Nat} (h : Cq2 W gc g A a n fa fn fc) (hb : Below W.heap.size W W') : Cq2 W' gc g A a n fa fn fc := ⟨(hb.block _ (gl h.k)).trans h.k, (hb.block _ (gl h.x)).trans h.x⟩
theorem CtO.off {W W' : World} {p : Nat} {cs : Array Value} {K lo hi : Nat} {a fa : Option Addr} {n c fn fc : Nat} {X : List Bkx} {F : List Idd} (h : CtO K W lo hi a n c X fa fn fc F) (hb : ∀ q, q < W.heap.size -> q ≠ p -> W'.heap[q]? = W.heap[q]?) (hp : W.heap[p]? = some (.cells cs 51 (0, 0))) : CtO K W' lo hi a n c X fa fn fc F :=
 ⟨h.b.off hb hp (by decide), fun b hb' => (h.bb b hb').off hb hp (by decide), h.f.off hb hp (by decide), h.k⟩
theorem box_of {K : Nat} {V w' : World} {lo hi b n gc g : Nat} {X : List Bkx} {fa : Option Addr} {fn fc : Nat} {F : List Idd} {i : Nat} {y : Bkx} {f : Bkd × Outc} {R cs : Array Value} (hC : CtC K V lo hi (some ⟨b, 0, none⟩) n X fa fn fc F) (hx : X[i]? = some y) (hk : V.heap[gc]? = some (.cells #[.slice (some ⟨b, 0, none⟩) n n,.slice fa fn fc] 58 (0, 0))) (kr : V.heap[g]? = some (.cells cs 51 (0, 0))) (hd : DoR K V w' lo hi b n X i y f R) :
  w'.heap[g]? = some (.cells cs 51 (0, 0)) /\ (Tryz.prog.info? 51).map (·.size) = some R.size /\ R.size = 2 /\ R.all (·.oneCell') = true := by
 have hS : Bs K V lo hi b n X i y := ⟨hC.b, hx, hC.bb y (List.mem_of_getElem? hx)⟩
 obtain ⟨h0, z, hz, h1, h2, h3⟩ := hd
 refine ⟨(h3.block g (gl kr) (sb_off hS kr (by decide))).trans kr, ?_, ?_, ?_⟩
 . rw [h0]; exact outZ
 . rw [h0]; rfl
 . rw [h0]; exact all_oneCell_toArray (cs := [.int .i64 f.2.code,.string f.2.etag]) (by intro v hv; simp at hv; rcases hv with rfl | rfl <;> rfl)
set_option maxHeartbeats 16000000 in
theorem inBucket_del {K : Nat} (hK : K <= 1048576) {w : World} {A : Array Value} {x : Cx} {lo hi gc : Nat} {a : Option Addr} {n : Nat} {X : List Bkx} {fa : Option Addr} {fn fc : Nat} {F : List Idd} {f : Bkd -> Cm -> Bkd × Outc} (hX : Hid (A = (encX x).toArray)) (hC : Hid (CtC K w lo hi a n X fa fn fc F)) (hk : Hid (w.heap[gc]? = some (.cells #[.slice a n n,.slice fa fn fc] 58 (0, 0)))) (hlo : lo <= w.heap.size)
  (hdo : ∀ (V : World) (b i : Nat) (y : Bkx), Hid (Bs K V lo hi b n X i y) -> Below w.heap.size w V -> Calls Tryz.prog 69 #[.pointer (some ⟨b, i * 5, none⟩), .agg A] V fun e w' => ∃ R, e = .returned (.agg R) /\ Hid (DoR K V w' lo hi b n X i y (f y.bk x.cm) R)) :
  Calls Tryz.prog 67 #[.pointer (some ⟨gc, 0, none⟩), .agg A, .func (.func 69) #[] #[]] w fun e w' => ∃ R, e = .returned (.agg R) /\ Hid (ChR K w w' lo gc (inB ⟨X.map Bkx.bk, F⟩ x.cm f) R) := by
 have a18 : A.size = 18 := encX_sz hX.out
 have A4 : Hid (A[4]? = some (.string x.cm.bu)) := by rw [hX.out]; rfl
 have HDO : Hid (∀ (V : World) (b i : Nat) (y : Bkx), Hid (Bs K V lo hi b n X i y) -> Below w.heap.size w V -> Calls Tryz.prog 69 #[.pointer (some ⟨b, i * 5, none⟩), .agg A] V fun e w' => ∃ R, e = .returned (.agg R) /\ Hid (DoR K V w' lo hi b n X i y (f y.bk x.cm) R)) := hdo
 clear hdo
 have LX : Hid (n = X.length) := hC.out.b.len
 obtain ⟨w1, Hw1⟩ := nm ((w.alloc (.cells A 29)).alloc (.cells #[.int .i64 0,.string ⟨#[]⟩] 51))
 obtain ⟨g, Hg⟩ := nm (w.heap.size)
 have B1 : Hid (Below w.heap.size w w1) := by rw [<- Hw1.out]; exact alloc2 w _ _
 have kx : Hid (w1.heap[g]? = some (.cells A 29 (0, 0))) := by
  rw [<- Hw1.out, <- Hg.out]
  exact ((alloc1 (w.alloc (.cells A 29)) _).block w.heap.size (by simp)).trans (heap_alloc_new w _)
 have kr : Hid (w1.heap[g + 1]? = some (.cells #[.int .i64 0,.string ⟨#[]⟩] 51 (0, 0))) := by
  rw [<- Hw1.out, <- Hg.out]
  have e : (w.alloc (.cells A 29)).heap.size = w.heap.size + 1 := by simp
  rw [<- e]
  exact heap_alloc_new _ _
 have K0 : Cq2 w1.drew gc g A a n fa fn fc := ⟨(B1.out.block _ (gl hk.out)).trans hk.out, kx.out⟩
 have AD : Hid (Rw w1.drew lo hi 65 EBk a n n X) := (hC.out.b.below B1.out).keep (fun _ _ _ _ => rfl)
 have hnK : n <= 1048576 := Nat.le_trans hC.out.k.1 hK
 obtain ⟨p, Hp⟩ := nm (plcB (byN x.cm.bu) (X.map Bkx.bk))
 obtain ⟨is, HIS⟩ := nm (isB (byN x.cm.bu) (X.map Bkx.bk))
 go_enter Tryz.func67, Tryz.ntmps67
 go_upto_region 1 with (fail)
 rw [Hw1.out, Hg.out]
 clear Hw1
 refine wp_region_till (S := fun L W => Cq2 W gc g A a n fa fn fc) (by kernel_rfl) K0 (fun hS => ?_)
 clear K0
 refine tkg (i := 0) (v := .pointer (some ⟨gc, 0, none⟩)) rfl hS (fun hSb => ?_)
 simp only [pA,pB,pC,Act.put,pD,pE,pF]
 clear hS
 refine tkg (i := 1) (v := .pointer (some ⟨gc, 0, none⟩)) rfl hSb (fun hS => ?_)
 simp only [pA,pB,pC,Act.put,pD,pE,pF]
 clear hSb
 refine tkg (i := 2) (v := .pointer (some ⟨gc, 0, none⟩)) rfl hS (fun hSb => ?_)
 simp only [pA,pB,pC,Act.put,pD,pE,pF]
 clear hS
 refine trx (i := 3) (c := 6) (v := .slice a n n) rfl rfl (Or.inl ⟨by rfl, fun w h => by have q9 := h.c0; go_simp⟩) hSb (fun hS => ?_)
 simp only [pA,pB,pC,Act.put,pD,pE,pF]
 clear hSb
 refine tkg (i := 4) (v := .pointer (some ⟨g, 4, none⟩)) rfl hS (fun hSb => ?_)
 simp only [pA,pB,pC,Act.put,pD,pE,pF]
 clear hS
 refine trx (i := 5) (c := 6) (v := .string x.cm.bu) rfl rfl (Or.inl ⟨by rfl, fun w h => by have q9 := cell_arr h.x A4.out; go_simp⟩) hSb (fun hS => ?_)
 simp only [pA,pB,pC,Act.put,pD,pE,pF]
 clear hSb
 refine till_one (i := 6) (by kernel_rfl) rfl (fun K hK => ?_)
 simp only [pA,pB,pC]
 rw [if_pos (by rfl)]
 go_simp
 go_wp2_with (go_at_call 49; refine (findB x.cm.bu AD hnK).mono ?_; rintro e w2 ⟨rfl, H2⟩; rw [Hp.out, HIS.out])
 refine hK.out _ _ (hS.below H2.out) (fun hSb => ?_)
 clear hK K
 try simp only [pA,pB,pC,Act.put,pD,pE,pF]
 clear hS
 refine tkg (i := 7) (v := .tuple #[.int .i64 (p : Int), .bool is]) rfl hSb (fun hS => ?_)
 simp only [pA,pB,pC,Act.put,pD,pE,pF]
 clear hSb
 refine tkg (i := 8) (v := .int .i64 (p : Int)) rfl hS (fun hSb => ?_)
 simp only [pA,pB,pC,Act.put,pD,pE,pF]
 clear hS
 refine tkg (i := 9) (v := .bool is) rfl hSb (fun hS => ?_)
 simp only [pA,pB,pC,Act.put,pD,pE,pF]
 clear hSb
 refine till_one (i := 10) (by kernel_rfl) rfl (fun K hK => ?_)
 simp only [pA,pB,pC]
 rw [if_pos (by rfl)]
 go_simp
 refine hK.out _ _ (hS) (fun hSb => ?_)
 clear hK K
 try simp only [pA,pB,pC,Act.put,pD,pE,pF]
 clear hS
 refine till_one (i := 11) (by kernel_rfl) rfl (fun K hK => ?_)
 simp only [pA,pB,pC]
 rw [if_pos (by rfl)]
 go_simp
 refine hK.out _ _ (hSb) (fun hS => ?_)
 clear hK K
 try simp only [pA,pB,pC,Act.put,pD,pE,pF]
 clear hSb
 have S3 := hS
 refine till_done (by kernel_rfl) ?_ _
 clear hS
 show (Exit.then _ _) .normal _ _
 have S3h : Hid (Cq2 w2 gc g A a n fa fn fc) := S3
 clear S3
 have B2 : Hid (Below w.heap.size w w2) := (B1.out.drew).trans (H2.out.mono B1.out.size)
 have kr2 := sh H2 kr
 clear H2 AD kr kx B1
 rcases is with _ | _
 . have IB : Hid (inB ⟨X.map Bkx.bk, F⟩ x.cm f = (⟨X.map Bkx.bk, F⟩, noO 1)) := by show _ = _; unfold inB; simp only; rw [HIS.out]; rfl
   obtain ⟨R, HR⟩ := nm ((#[.int .i64 1,.string ⟨#[]⟩] : Array Value))
   have a5' : (Tryz.prog.info? 51).map (·.size) = some R.size := by rw [<- HR.out]; exact outZ
   have AA : Hid (R.all (·.oneCell') = true) := (show R.all (·.oneCell') = true by rw [<- HR.out]; kernel_rfl)
   have a6' : Hid (R.size = 2) := (show R.size = 2 by rw [<- HR.out]; rfl)
   go_wp2_with (first
    | (go_at_call 78; refine (refused_n 1 _).mono ?_; rintro e w7 ⟨rfl, H7⟩; rw [HR.out]; have r7 := sh H7 kr2)
    | (refine wpList_store_row (by rfl) 51 (.tmp 6) (.tmp 21) (by rfl) (g + 1) R (by rfl) (by rfl) 51 _ r7.out a5' (by rw [a6'.out]; rfl) AA.out ?_))
   refine bodyPost_ret (results_cell_row Tryz.results67 _ _ (g + 1) 51 R (0, 0) _ (by rfl) (setRow_heap _ _ _ _ _ _ r7.out) Tryz.underlying51 rfl a5') rfl ?_
   refine ⟨R, rfl, ?_⟩
   rw [IB.out]
   have B7 : Below w.heap.size w w7 := B2.out.trans (H7.out.mono B2.out.size)
   have hg1 : w.heap.size <= g + 1 := by have := Hg.out; omega
   have B8 : Below w.heap.size w (w7.setRow (g + 1) R) := below_setRow B7 hg1 _
   exact ⟨HR.out.symm, a, n, n, X, fa, fn, fc, F, (B8.block gc (gl hk.out)).trans hk.out, ((hC.out.ct.below B8).up (Nat.le_succ K)).full, rfl, rfl, B8.mono hlo, K51.below B8⟩
 . have pl : p < n := by rw [<- Hp.out, LX.out]; rw [<- List.length_map (f := Bkx.bk)]; exact isB_lt HIS.out
   have i1 : (p : Int) < (n : Int) := by omega
   obtain ⟨b, rfl, _, _, _⟩ := hC.out.b.at_ (i := p) (by rw [<- LX.out]; exact pl)
   obtain ⟨y, EY⟩ : ∃ y, Hid (X[p]? = some y) := ⟨X[p]'(by rw [<- LX.out]; exact pl), List.getElem?_eq_getElem _⟩
   have IB : Hid (inB ⟨X.map Bkx.bk, F⟩ x.cm f = (⟨(X.map Bkx.bk).set p (f y.bk x.cm).1, F⟩, (f y.bk x.cm).2)) := by show _ = _; unfold inB; simp only; rw [HIS.out, if_pos rfl, Hp.out, List.getElem?_map, EY.out]; rfl
   go_upto_region 4 with (fail)
   obtain ⟨wd, Hwd⟩ := nm (w2.drew)
   have BD : Hid (Below w.heap.size w wd) := by rw [<- Hwd.out]; exact B2.out.drew
   have CC : Hid (CtC K wd lo hi (some ⟨b, 0, none⟩) n X fa fn fc F) := hC.out.below BD.out
   have SD : Hid (Bs K wd lo hi b n X p y) := ⟨CC.out.b, EY.out, CC.out.bb y (List.mem_of_getElem? EY.out)⟩
   have KD : Hid (Cq2 wd gc g A (some ⟨b, 0, none⟩) n fa fn fc) := by rw [<- Hwd.out]; exact ⟨S3h.out.k, S3h.out.x⟩
   have KRD : Hid (wd.heap[g + 1]? = some (.cells #[.int .i64 0,.string ⟨#[]⟩] 51 (0, 0))) := by rw [<- Hwd.out]; exact kr2.out
   refine wp_region_till (S := tillP 8 (fun W => Cq2 W gc g A (some ⟨b, 0, none⟩) n fa fn fc)) (by kernel_rfl) (.inr (by rw [Hwd.out]; exact KD.out)) (fun hS => ?_)
   rw [Hwd.out] at hS ⊢
   clear Hwd
   refine tkp (i := 0) (v := .func (.func 69) #[] #[]) rfl hS (fun hSb => ?_)
   simp only [pA,pB,pC,Act.put,pD,pE,pF]
   clear hS
   refine tkp (i := 1) (v := .pointer (some ⟨gc, 0, none⟩)) rfl hSb (fun hS => ?_)
   simp only [pA,pB,pC,Act.put,pD,pE,pF]
   clear hSb
   refine tkp (i := 2) (v := .pointer (some ⟨gc, 0, none⟩)) rfl hS (fun hSb => ?_)
   simp only [pA,pB,pC,Act.put,pD,pE,pF]
   clear hS
   refine tkp (i := 3) (v := .pointer (some ⟨gc, 0, none⟩)) rfl hSb (fun hS => ?_)
   simp only [pA,pB,pC,Act.put,pD,pE,pF]
   clear hSb
   refine till_readc (i := 4) (cs := [6, 8]) (v := .slice (some ⟨b, 0, none⟩) n n) (T := fun W => Cq2 W gc g A (some ⟨b, 0, none⟩) n fa fn fc) rfl (by kernel_rfl) (by kernel_rfl) (by kernel_rfl) (by kernel_rfl) (by kernel_rfl) (fun _ _ _ h => h) (fun L w => tillP_set (by decide)) (fun L w h1 h2 => tillP_out (h1 8 (by simp)) h2) (Or.inl ⟨by rfl, fun w h => by have q9 := h.c0; go_simp⟩) hS (fun hSb => ?_)
   simp only [pA,pB,pC,Act.put,pD,pE,pF]
   clear hS
   refine tkp (i := 5) (v := .int .i64 (p : Int)) rfl hSb (fun hS => ?_)
   simp only [pA,pB,pC,Act.put,pD,pE,pF]
   clear hSb
   refine tkp (i := 6) (v := .pointer (some ⟨b, p * 5, none⟩)) rfl hS (fun hSb => ?_)
   simp only [pA,pB,pC,Act.put,pD,pE,pF]
   clear hS
   refine trd (i := 7) (c := 8) (v := .agg A) (T := fun W => Cq2 W gc g A (some ⟨b, 0, none⟩) n fa fn fc) rfl rfl (fun L w => tillP_set (by decide)) (fun L w h1 h2 => tillP_out h1 h2) (yl_any (by rfl) (by rfl) (by rfl) (fun W h => run_loadVar_row W g 29 29 A (0, 0) _ h.x Tryz.underlying29 rfl (info29 a18))) hSb (fun hS => ?_)
   simp only [pA,pB,pC,Act.put,pD,pE,pF]
   clear hSb
   refine till_one (i := 8) (by kernel_rfl) rfl (fun K hK => ?_)
   simp only [pA,pB,pC]
   rw [if_pos (by rfl)]
   go_simp
   go_wp2_with (go_at_call 69; refine (HDO.out wd b p y SD BD.out).mono ?_; rintro e w5 ⟨R, rfl, H5⟩)
   refine hK.out _ _ (Or.inl (by kernel_rfl)) (fun hSb => ?_)
   clear hK K
   try simp only [pA,pB,pC,Act.put,pD,pE,pF]
   clear hS
   refine till_one (i := 9) (by kernel_rfl) rfl (fun K hK => ?_)
   simp only [pA,pB,pC]
   rw [if_pos (by rfl)]
   obtain ⟨kr5, r5, r6, RA⟩ := box_of CC.out EY.out KD.out.k KRD.out H5.out
   refine wp_store_row 51 (.tmp 6) (.tmp 30) (by rfl) (g + 1) R (by rfl) (by rfl) 51 _ kr5 r5 (by rw [r6]; rfl) RA ?_
   refine hK.out _ _ (Or.inl (by kernel_rfl)) (fun hS => ?_)
   clear hK K
   try simp only [pA,pB,pC,Act.put,pD,pE,pF]
   clear hSb
   refine till_done (by kernel_rfl) ?_ _
   clear hS
   show (Exit.then _ _) .normal _ _
   go_wp2
   refine bodyPost_ret (results_cell_row Tryz.results67 _ _ (g + 1) 51 R (0, 0) _ (by rfl) (setRow_heap _ _ _ _ _ _ kr5) Tryz.underlying51 rfl r5) rfl ?_
   refine ⟨R, rfl, ?_⟩
   rw [IB.out]
   obtain ⟨X', k1, k2, k3, k4, k51⟩ := do_cat CC.out EY.out KD.out.k H5.out
   have ng : ∀ q, q < w5.heap.size -> q ≠ g + 1 -> (w5.setRow (g + 1) R).heap[q]? = w5.heap[q]? := fun q hq hn => setRow_other _ _ _ _ hn
   have hg1 : lo <= g + 1 := by have := Hg.out; omega
   refine ⟨H5.out.1, _, n, n, X', fa, fn, fc, F, (ng gc (gl k1) (fun e => ?_)).trans k1, (k2.off ng kr5).full, k3, rfl, below_setRow ((BD.out.mono hlo).trans k4) hg1 _, fun q cs h => (setRow_other _ _ _ _ (fun e2 => by have h2 := (gl h); have h3 := Hg.out; omega)).trans (k51 q cs (K51.below BD.out q cs h))⟩
   rw [e, kr5] at k1
   simp at k1
theorem cq_set {V w' : World} {gc g : Nat} {A : Array Value} {a fa : Option Addr} {n fn fc lo hi : Nat} {X : List Bkx} (h : Cq2 V gc g A a n fa fn fc) (hr : Rw V lo hi 65 EBk a n n X) (hc : Ch V w' (fun q => blkOf a = some q)) : Cq2 w' gc g A a n fa fn fc := by
 refine ⟨(hc.block gc (gl h.k) (fun e => ?_)).trans h.k, (hc.block g (gl h.x) (fun e => ?_)).trans h.x⟩
 . obtain ⟨cur, h1, _⟩ := hr.blk e
   have h2 := h.k
   rw [h1] at h2
   simp at h2
 . obtain ⟨cur, h1, _⟩ := hr.blk e
   have h2 := h.x
   rw [h1] at h2
   simp at h2
theorem setX_mem {α δ : Type} {c : δ -> Int} {d : α -> δ} {X : List α} {y o : α} (h : o ∈ setX c d X y) : o = y ∨ o ∈ X := by
 unfold setX at h
 split at h
 . rcases List.mem_or_eq_of_mem_set h with h | h
   . exact .inr h
   . exact .inl h
 . rcases List.mem_append.1 h with h | h
   . exact .inr (List.mem_of_mem_take h)
   . rcases List.mem_cons.1 h with h | h
     . exact .inl h
     . exact .inr (List.mem_of_mem_drop h)
theorem setX_len {α δ : Type} (c : δ -> Int) (d : α -> δ) (X : List α) (y : α) : (setX c d X y).length <= X.length + 1 := by
 unfold setX
 split
 . rw [List.length_set]; omega
 . simp only [List.length_append, List.length_cons, List.length_take, List.length_drop]; omega
def nwB (x : Cm) : Bkx := ⟨x.bu, x.tm, 0, none, 0, 0, [], none, 0, 0, []⟩
theorem nwB_ok {K : Nat} {w : World} {lo hi : Nat} {x : Cm} (hT : x.bu.size <= K48) : BkO K w lo hi (nwB x) := ⟨Rw.nil _ _ _ _ _ (by decide), (fun o ho => by cases ho), Rw.nil _ _ _ _ _ (by decide), (fun u hu => by cases hu), ⟨Nat.zero_le _, Nat.zero_le _⟩, hT⟩
theorem BkO.chB {K : Nat} {V w' : World} {lo hi n : Nat} {a : Option Addr} {X : List Bkx} {z : Bkx} (h : BkO K V lo hi z) (hr : Rw V lo hi 65 EBk a n n X) (hc : Ch V w' (fun q => blkOf a = some q)) : BkO K w' lo hi z :=
 ⟨h.o.keep1 (fun q e => hc.block q (h.o.lt e).2 (fun e2 => h.o.apart hr (by decide) e e2)), fun o ho => ⟨(h.oo o ho).r.keep1 (fun q e => hc.block q ((h.oo o ho).r.lt e).2 (fun e2 => (h.oo o ho).r.apart hr (by decide) e e2)), (h.oo o ho).p, (h.oo o ho).k, (h.oo o ho).s⟩, h.u.keep1 (fun q e => hc.block q (h.u.lt e).2 (fun e2 => h.u.apart hr (by decide) e e2)), fun u hu => ⟨(h.uu u hu).r.keep1 (fun q e => hc.block q ((h.uu u hu).r.lt e).2 (fun e2 => (h.uu u hu).r.apart hr (by decide) e e2)), (h.uu u hu).p, (h.uu u hu).k, (h.uu u hu).s⟩, h.k, h.s⟩
set_option maxHeartbeats 16000000 in
theorem makeBucket_n {K : Nat} (hK : K + 1 <= 1048576) {w : World} {A : Array Value} {x : Cx} {lo hi gc : Nat} {a : Option Addr} {n : Nat} {X : List Bkx} {fa : Option Addr} {fn fc : Nat} {F : List Idd} (hX : Hid (A = (encX x).toArray)) (hT : x.cm.bu.size <= K48) (hC : Hid (CtC K w lo hi a n X fa fn fc F)) (hk : Hid (w.heap[gc]? = some (.cells #[.slice a n n,.slice fa fn fc] 58 (0, 0)))) (hlo : lo <= w.heap.size) (hgc : lo <= gc) :
  Calls Tryz.prog 65 #[.pointer (some ⟨gc, 0, none⟩), .agg A] w fun e w' => ∃ R, e = .returned (.agg R) /\ Hid (ChR K w w' lo gc (makO ⟨X.map Bkx.bk, F⟩ x.cm) R) := by
 have a18 : A.size = 18 := encX_sz hX.out
 have A4 : Hid (A[4]? = some (.string x.cm.bu)) := by rw [hX.out]; rfl
 have A16 : Hid (A[16]? = some (.int .i64 x.cm.tm)) := by rw [hX.out]; rfl
 have LX : Hid (n = X.length) := hC.out.b.len
 obtain ⟨w1, Hw1⟩ := nm ((w.alloc (.cells A 29)).alloc (.cells #[.int .i64 0,.string ⟨#[]⟩] 51))
 obtain ⟨g, Hg⟩ := nm (w.heap.size)
 have B1 : Hid (Below w.heap.size w w1) := by rw [<- Hw1.out]; exact alloc2 w _ _
 have kx : Hid (w1.heap[g]? = some (.cells A 29 (0, 0))) := by
  rw [<- Hw1.out, <- Hg.out]
  exact ((alloc1 (w.alloc (.cells A 29)) _).block w.heap.size (by simp)).trans (heap_alloc_new w _)
 have kr : Hid (w1.heap[g + 1]? = some (.cells #[.int .i64 0,.string ⟨#[]⟩] 51 (0, 0))) := by
  rw [<- Hw1.out, <- Hg.out]
  have e : (w.alloc (.cells A 29)).heap.size = w.heap.size + 1 := by simp
  rw [<- e]
  exact heap_alloc_new _ _
 have K0 : Cq2 w1.drew gc g A a n fa fn fc := ⟨(B1.out.block _ (gl hk.out)).trans hk.out, kx.out⟩
 have AD : Hid (Rw w1.drew lo hi 65 EBk a n n X) := (hC.out.b.below B1.out).keep (fun _ _ _ _ => rfl)
 have hnK : n <= 1048576 := by have := hC.out.k.1; omega
 obtain ⟨p, Hp⟩ := nm (plcB (byN x.cm.bu) (X.map Bkx.bk))
 obtain ⟨is, HIS⟩ := nm (isB (byN x.cm.bu) (X.map Bkx.bk))
 go_enter Tryz.func65, Tryz.ntmps65
 go_upto_region 1 with (fail)
 rw [Hw1.out, Hg.out]
 clear Hw1
 refine wp_region_till (S := fun L W => Cq2 W gc g A a n fa fn fc) (by kernel_rfl) K0 (fun hS => ?_)
 clear K0
 refine tkg (i := 0) (v := .pointer (some ⟨gc, 0, none⟩)) rfl hS (fun hSb => ?_)
 simp only [pA,pB,pC,Act.put,pD,pE,pF]
 clear hS
 refine tkg (i := 1) (v := .pointer (some ⟨gc, 0, none⟩)) rfl hSb (fun hS => ?_)
 simp only [pA,pB,pC,Act.put,pD,pE,pF]
 clear hSb
 refine tkg (i := 2) (v := .pointer (some ⟨gc, 0, none⟩)) rfl hS (fun hSb => ?_)
 simp only [pA,pB,pC,Act.put,pD,pE,pF]
 clear hS
 refine trx (i := 3) (c := 6) (v := .slice a n n) rfl rfl (Or.inl ⟨by rfl, fun w h => by have q9 := h.c0; go_simp⟩) hSb (fun hS => ?_)
 simp only [pA,pB,pC,Act.put,pD,pE,pF]
 clear hSb
 refine tkg (i := 4) (v := .pointer (some ⟨g, 4, none⟩)) rfl hS (fun hSb => ?_)
 simp only [pA,pB,pC,Act.put,pD,pE,pF]
 clear hS
 refine trx (i := 5) (c := 6) (v := .string x.cm.bu) rfl rfl (Or.inl ⟨by rfl, fun w h => by have q9 := cell_arr h.x A4.out; go_simp⟩) hSb (fun hS => ?_)
 simp only [pA,pB,pC,Act.put,pD,pE,pF]
 clear hSb
 refine till_one (i := 6) (by kernel_rfl) rfl (fun K hK => ?_)
 simp only [pA,pB,pC]
 rw [if_pos (by rfl)]
 go_simp
 go_wp2_with (go_at_call 49; refine (findB x.cm.bu AD hnK).mono ?_; rintro e w2 ⟨rfl, H2⟩; rw [Hp.out, HIS.out])
 refine hK.out _ _ (hS.below H2.out) (fun hSb => ?_)
 clear hK K
 try simp only [pA,pB,pC,Act.put,pD,pE,pF]
 clear hS
 refine tkg (i := 7) (v := .tuple #[.int .i64 (p : Int), .bool is]) rfl hSb (fun hS => ?_)
 simp only [pA,pB,pC,Act.put,pD,pE,pF]
 clear hSb
 refine tkg (i := 8) (v := .int .i64 (p : Int)) rfl hS (fun hSb => ?_)
 simp only [pA,pB,pC,Act.put,pD,pE,pF]
 clear hS
 refine tkg (i := 9) (v := .bool is) rfl hSb (fun hS => ?_)
 simp only [pA,pB,pC,Act.put,pD,pE,pF]
 clear hSb
 refine till_one (i := 10) (by kernel_rfl) rfl (fun K hK => ?_)
 simp only [pA,pB,pC]
 rw [if_pos (by rfl)]
 go_simp
 refine hK.out _ _ (hS) (fun hSb => ?_)
 clear hK K
 try simp only [pA,pB,pC,Act.put,pD,pE,pF]
 clear hS
 refine till_one (i := 11) (by kernel_rfl) rfl (fun K hK => ?_)
 simp only [pA,pB,pC]
 rw [if_pos (by rfl)]
 go_simp
 refine hK.out _ _ (hSb) (fun hS => ?_)
 clear hK K
 try simp only [pA,pB,pC,Act.put,pD,pE,pF]
 clear hSb
 have S3 := hS
 refine till_done (by kernel_rfl) ?_ _
 clear hS
 show (Exit.then _ _) .normal _ _
 have S3h : Hid (Cq2 w2 gc g A a n fa fn fc) := S3
 clear S3
 have B2 : Hid (Below w.heap.size w w2) := (B1.out.drew).trans (H2.out.mono B1.out.size)
 have kr2 := sh H2 kr
 clear H2 AD kr kx B1
 rcases is with _ | _
 . have q9 := S3h.out.c0
   by_cases h16 : 16 <= n
   . have i1 : (16 : Int) <= (n : Int) := by omega
     have IB : Hid (makO ⟨X.map Bkx.bk, F⟩ x.cm = (⟨X.map Bkx.bk, F⟩, noO 7)) := by show _ = _; unfold makO; simp only; rw [HIS.out, if_neg (by decide), if_pos (by rw [List.length_map, <- LX.out]; exact h16)]
     obtain ⟨R, HR⟩ := nm ((#[.int .i64 7,.string ⟨#[]⟩] : Array Value))
     have a5' : (Tryz.prog.info? 51).map (·.size) = some R.size := by rw [<- HR.out]; exact outZ
     have AA : Hid (R.all (·.oneCell') = true) := (show R.all (·.oneCell') = true by rw [<- HR.out]; kernel_rfl)
     have a6' : Hid (R.size = 2) := (show R.size = 2 by rw [<- HR.out]; rfl)
     go_wp2_with (first
      | (go_at_call 78; refine (refused_n 7 _).mono ?_; rintro e w7 ⟨rfl, H7⟩; rw [HR.out]; have r7 := sh H7 kr2)
      | (refine wpList_store_row (by rfl) 51 (.tmp 4) (.tmp 25) (by rfl) (g + 1) R (by rfl) (by rfl) 51 _ r7.out a5' (by rw [a6'.out]; rfl) AA.out ?_))
     refine bodyPost_ret (results_cell_row Tryz.results65 _ _ (g + 1) 51 R (0, 0) _ (by rfl) (setRow_heap _ _ _ _ _ _ r7.out) Tryz.underlying51 rfl a5') rfl ?_
     refine ⟨R, rfl, ?_⟩
     rw [IB.out]
     have B7 : Below w.heap.size w w7 := B2.out.trans (H7.out.mono B2.out.size)
     have hg1 : w.heap.size <= g + 1 := by have := Hg.out; omega
     have B8 : Below w.heap.size w (w7.setRow (g + 1) R) := below_setRow B7 hg1 _
     exact ⟨HR.out.symm, a, n, n, X, fa, fn, fc, F, (B8.block gc (gl hk.out)).trans hk.out, ((hC.out.ct.below B8).up (Nat.le_succ K)).full, rfl, rfl, B8.mono hlo, K51.below B8⟩

   . have i1 : ¬ ((16 : Int) <= (n : Int)) := by omega
     have i2 : (n : Int) < 16 := by omega
     have IB : Hid (makO ⟨X.map Bkx.bk, F⟩ x.cm = (⟨setB (byN x.cm.bu) (X.map Bkx.bk) ⟨x.cm.bu, x.cm.tm, 0, [], []⟩, F⟩, okO)) := by show _ = _; unfold makO; simp only; rw [HIS.out, if_neg (by decide), if_neg (by rw [List.length_map, <- LX.out]; exact h16)]
     go_upto_region 6 with (fail)
     clear q9
     obtain ⟨wd, Hwd⟩ := nm (w2.drew)
     have BD : Hid (Below w.heap.size w wd) := by rw [<- Hwd.out]; exact B2.out.drew
     have CC : Hid (CtC K wd lo hi a n X fa fn fc F) := hC.out.below BD.out
     have RB : Hid (Rw wd lo hi 65 EBk a n n X) := CC.out.b
     have KD : Hid (Cq2 wd gc g A a n fa fn fc) := by rw [<- Hwd.out]; exact ⟨S3h.out.k, S3h.out.x⟩
     have KRD : Hid (wd.heap[g + 1]? = some (.cells #[.int .i64 0,.string ⟨#[]⟩] 51 (0, 0))) := by rw [<- Hwd.out]; exact kr2.out
     have hlo5 : lo <= wd.heap.size := Nat.le_trans hlo BD.out.size
     have hn1 : n + 1 <= 1048576 := by have := hC.out.k.1; omega
     refine wp_region_till (S := tillP 15 (fun W => Cq2 W gc g A a n fa fn fc)) (by kernel_rfl) (.inr (by rw [Hwd.out]; exact KD.out)) (fun hS => ?_)
     rw [Hwd.out] at hS ⊢
     clear Hwd
     refine tkp (i := 0) (v := .pointer (some ⟨gc, 0, none⟩)) rfl hS (fun hSb => ?_)
     simp only [pA,pB,pC,Act.put,pD,pE,pF]
     clear hS
     refine tkp (i := 1) (v := .pointer (some ⟨gc, 0, none⟩)) rfl hSb (fun hS => ?_)
     simp only [pA,pB,pC,Act.put,pD,pE,pF]
     clear hSb
     refine tkp (i := 2) (v := .pointer (some ⟨gc, 0, none⟩)) rfl hS (fun hSb => ?_)
     simp only [pA,pB,pC,Act.put,pD,pE,pF]
     clear hS
     refine tkp (i := 3) (v := .pointer (some ⟨gc, 0, none⟩)) rfl hSb (fun hS => ?_)
     simp only [pA,pB,pC,Act.put,pD,pE,pF]
     clear hSb
     refine trd (i := 4) (c := 15) (v := .slice a n n) (T := fun W => Cq2 W gc g A a n fa fn fc) rfl rfl (fun L w => tillP_set (by decide)) (fun L w h1 h2 => tillP_out h1 h2) (Or.inl ⟨by rfl, fun w h => by have q9 := h.c0; go_simp⟩) hS (fun hSb => ?_)
     simp only [pA,pB,pC,Act.put,pD,pE,pF]
     clear hS
     refine tkp (i := 5) (v := .pointer (some ⟨g, 4, none⟩)) rfl hSb (fun hS => ?_)
     simp only [pA,pB,pC,Act.put,pD,pE,pF]
     clear hSb
     refine trd (i := 6) (c := 15) (v := .string x.cm.bu) (T := fun W => Cq2 W gc g A a n fa fn fc) rfl rfl (fun L w => tillP_set (by decide)) (fun L w h1 h2 => tillP_out h1 h2) (Or.inl ⟨by rfl, fun w h => by have q9 := cell_arr h.x A4.out; go_simp⟩) hS (fun hSb => ?_)
     simp only [pA,pB,pC,Act.put,pD,pE,pF]
     clear hS
     refine tkp (i := 7) (v := .pointer (some ⟨g, 4, none⟩)) rfl hSb (fun hS => ?_)
     simp only [pA,pB,pC,Act.put,pD,pE,pF]
     clear hSb
     refine trd (i := 8) (c := 15) (v := .string x.cm.bu) (T := fun W => Cq2 W gc g A a n fa fn fc) rfl rfl (fun L w => tillP_set (by decide)) (fun L w h1 h2 => tillP_out h1 h2) (Or.inl ⟨by rfl, fun w h => by have q9 := cell_arr h.x A4.out; go_simp⟩) hS (fun hSb => ?_)
     simp only [pA,pB,pC,Act.put,pD,pE,pF]
     clear hS
     refine tkp (i := 9) (v := .pointer (some ⟨g, 16, none⟩)) rfl hSb (fun hS => ?_)
     simp only [pA,pB,pC,Act.put,pD,pE,pF]
     clear hSb
     refine trd (i := 10) (c := 15) (v := .int .i64 x.cm.tm) (T := fun W => Cq2 W gc g A a n fa fn fc) rfl rfl (fun L w => tillP_set (by decide)) (fun L w h1 h2 => tillP_out h1 h2) (Or.inl ⟨by rfl, fun w h => by have q9 := cell_arr h.x A16.out; go_simp⟩) hS (fun hSb => ?_)
     simp only [pA,pB,pC,Act.put,pD,pE,pF]
     clear hS
     refine tkp (i := 11) (v := .agg #[.string x.cm.bu,.int .i64 x.cm.tm,.int .i64 0,.slice none 0 0,.slice none 0 0]) rfl hSb (fun hS => ?_)
     simp only [pA,pB,pC,Act.put,pD,pE,pF]
     clear hSb
     refine till_one (i := 12) (by kernel_rfl) rfl (fun K hK => ?_)
     simp only [pA,pB,pC]
     rw [if_pos (by rfl)]
     go_simp
     go_wp2_with (go_at_call 91; refine (set_B (y := nwB x.cm) x.cm.bu RB hlo5 hn1 (show Hid _ from rfl)).mono ?_; rintro e w5 ⟨a5, n5, c5, rfl, H5⟩)
     have S5 : Cq2 w5 gc g A a n fa fn fc := cq_set KD.out RB.out H5.out.2
     refine hK.out _ _ (Or.inr S5) (fun hSb => ?_)
     clear hK K
     try simp only [pA,pB,pC,Act.put,pD,pE,pF]
     clear hS
     refine tkp (i := 13) (v := .pointer (some ⟨gc, 0, none⟩)) rfl hSb (fun hS => ?_)
     simp only [pA,pB,pC,Act.put,pD,pE,pF]
     clear hSb
     refine tkp (i := 14) (v := .pointer (some ⟨gc, 0, none⟩)) rfl hS (fun hSb => ?_)
     simp only [pA,pB,pC,Act.put,pD,pE,pF]
     clear hS
     refine till_one (i := 15) (by kernel_rfl) rfl (fun K hK => ?_)
     simp only [pA,pB,pC]
     rw [if_pos (by rfl)]
     have q9 := S5.c0
     have q8 : w5.frozen? ⟨gc, 0, none⟩ = false := by have h := S5.k; simp [World.frozen?, h]
     go_simp
     refine hK.out _ _ (Or.inl (by kernel_rfl)) (fun hS => ?_)
     clear hK K
     try simp only [pA,pB,pC,Act.put,pD,pE,pF]
     clear hSb
     refine till_done (by kernel_rfl) ?_ _
     clear hS
     show (Exit.then _ _) .normal _ _
     have kr5 : Hid (w5.heap[g + 1]? = some (.cells #[.int .i64 0,.string ⟨#[]⟩] 51 (0, 0))) := (H5.out.2.block _ (gl KRD.out) (fun e => by
      obtain ⟨cur, h1, _⟩ := RB.out.blk e
      have h2 := KRD.out
      rw [h1] at h2
      simp at h2)).trans KRD.out
     have k5 : Hid (w5.heap[gc]? = some (.cells #[.slice a n n,.slice fa fn fc] 58 (0, 0))) := S5.k
     have CO5 : Hid (CtO (K + 1) w5 lo w5.heap.size a5 n5 c5 (setX (byN x.cm.bu) Bkx.bk X (nwB x.cm)) fa fn fc F) := by
      refine ⟨H5.out.1, fun z hz => ?_, ?_, ?_, Nat.le_trans CC.out.k.2 (Nat.le_succ K)⟩
      . rcases setX_mem hz with rfl | h
        . exact nwB_ok hT
        . exact (((CC.out.bb z h).b.chB RB.out H5.out.2).up (Nat.le_succ K)).full
      . exact (CC.out.f.keep1 (fun q e => H5.out.2.block q (CC.out.f.lt e).2 (fun e2 => CC.out.f.apart RB.out (by decide) e e2))).full
      . have h1 := H5.out.1.len
        have h2 := setX_len (byN x.cm.bu) Bkx.bk X (nwB x.cm)
        have h3 := LX.out
        have h4 := CC.out.k.1
        omega
     have BL5 : Hid (Below lo w w5) := (BD.out.mono hlo).trans (H5.out.2.toBelow hlo5 (fun q hq e => by have := (RB.out.lt e).1; omega))
     have k6 : Hid ((w5.setCell ⟨gc, 0, none⟩ (.slice a5 n5 c5)).heap[gc]? = some (.cells #[.slice a5 n5 c5,.slice fa fn fc] 58 (0, 0))) := set_blkf k5.out 0 _
     have ne6 : Hid (g + 1 ≠ gc) := fun e => by have h := kr5.out; rw [e, k5.out] at h; simp at h
     have kr6 : Hid ((w5.setCell ⟨gc, 0, none⟩ (.slice a5 n5 c5)).heap[g + 1]? = some (.cells #[.int .i64 0,.string ⟨#[]⟩] 51 (0, 0))) := (Below.heap_setCell _ _ _ _ ne6.out).trans kr5.out
     have CO6 : Hid (CtO (K + 1) (w5.setCell ⟨gc, 0, none⟩ (.slice a5 n5 c5)) lo w5.heap.size a5 n5 c5 (setX (byN x.cm.bu) Bkx.bk X (nwB x.cm)) fa fn fc F) := by
      have hb : ∀ q, q < w5.heap.size -> q ≠ gc -> (w5.setCell ⟨gc, 0, none⟩ (.slice a5 n5 c5)).heap[q]? = w5.heap[q]? := fun q _ hq => Below.heap_setCell _ _ _ _ hq
      exact ⟨CO5.out.b.off hb k5.out (by decide), fun z hz => (CO5.out.bb z hz).off hb k5.out (by decide), CO5.out.f.off hb k5.out (by decide), CO5.out.k⟩
     have BL6 : Hid (Below lo w (w5.setCell ⟨gc, 0, none⟩ (.slice a5 n5 c5))) := BL5.out.setCell hgc _
     have K6 : Hid (K51 w (w5.setCell ⟨gc, 0, none⟩ (.slice a5 n5 c5))) := fun q cs h => by
      have h1 := K51.below BD.out q cs h
      have h2 : w5.heap[q]? = some (.cells cs 51 (0, 0)) := (H5.out.2.block q (gl h1) (fun e => by
       obtain ⟨cur, h3, _⟩ := RB.out.blk e
       rw [h3] at h1
       simp at h1)).trans h1
      exact (Below.heap_setCell _ _ _ _ (fun e => by rw [e, k5.out] at h2; simp at h2)).trans h2
     obtain ⟨w6, Hw6⟩ := nm (w5.setCell ⟨gc, 0, none⟩ (.slice a5 n5 c5))
     rw [Hw6.out] at k6 kr6 CO6 BL6 K6 ⊢
     clear Hw6 S5 q9 q8 H5 CO5 BL5 k5 kr5
     obtain ⟨R, HR⟩ := nm ((#[.int .i64 0,.string ⟨#[]⟩] : Array Value))
     have a5' : (Tryz.prog.info? 51).map (·.size) = some R.size := by rw [<- HR.out]; exact outZ
     have AA : Hid (R.all (·.oneCell') = true) := (show R.all (·.oneCell') = true by rw [<- HR.out]; kernel_rfl)
     have a6' : Hid (R.size = 2) := (show R.size = 2 by rw [<- HR.out]; rfl)
     go_wp2_with (first
      | (go_at_call 92; refine (done_n _).mono ?_; rintro e w7 ⟨rfl, H7⟩; rw [HR.out]; have r7 := sh H7 kr6)
      | (refine wpList_store_row (by rfl) 51 (.tmp 4) (.tmp 41) (by rfl) (g + 1) R (by rfl) (by rfl) 51 _ r7.out a5' (by rw [a6'.out]; rfl) AA.out ?_))
     refine bodyPost_ret (results_cell_row Tryz.results65 _ _ (g + 1) 51 R (0, 0) _ (by rfl) (setRow_heap _ _ _ _ _ _ r7.out) Tryz.underlying51 rfl a5') rfl ?_
     refine ⟨R, rfl, ?_⟩
     rw [IB.out]
     have hg1 : lo <= g + 1 := by have := Hg.out; omega
     have k7 := (H7.out.block gc (gl k6.out)).trans k6.out
     have ng : ∀ q, q < w7.heap.size -> q ≠ g + 1 -> (w7.setRow (g + 1) R).heap[q]? = w7.heap[q]? := fun q hq hn => setRow_other _ _ _ _ hn
     refine ⟨HR.out.symm, a5, n5, c5, _, fa, fn, fc, F, (ng gc (gl k7) (fun e => ne6.out e.symm)).trans k7, ((CO6.out.below H7.out).off ng r7.out).full, ?_, rfl, below_setRow (BL6.out.trans (H7.out.mono (Nat.le_trans hlo BL6.out.size))) hg1 _, fun q cs h => (setRow_other _ _ _ _ (fun e2 => by have h2 := (gl h); have h3 := Hg.out; omega)).trans (K51.below H7.out q cs (K6.out q cs h))⟩
     rw [setX_map]
     rfl
 . have IB : Hid (makO ⟨X.map Bkx.bk, F⟩ x.cm = (⟨X.map Bkx.bk, F⟩, noO 4)) := by show _ = _; unfold makO; simp only; rw [HIS.out, if_pos rfl]
   obtain ⟨R, HR⟩ := nm ((#[.int .i64 4,.string ⟨#[]⟩] : Array Value))
   have a5' : (Tryz.prog.info? 51).map (·.size) = some R.size := by rw [<- HR.out]; exact outZ
   have AA : Hid (R.all (·.oneCell') = true) := (show R.all (·.oneCell') = true by rw [<- HR.out]; kernel_rfl)
   have a6' : Hid (R.size = 2) := (show R.size = 2 by rw [<- HR.out]; rfl)
   go_wp2_with (first
    | (go_at_call 78; refine (refused_n 4 _).mono ?_; rintro e w7 ⟨rfl, H7⟩; rw [HR.out]; have r7 := sh H7 kr2)
    | (refine wpList_store_row (by rfl) 51 (.tmp 4) (.tmp 18) (by rfl) (g + 1) R (by rfl) (by rfl) 51 _ r7.out a5' (by rw [a6'.out]; rfl) AA.out ?_))
   refine bodyPost_ret (results_cell_row Tryz.results65 _ _ (g + 1) 51 R (0, 0) _ (by rfl) (setRow_heap _ _ _ _ _ _ r7.out) Tryz.underlying51 rfl a5') rfl ?_
   refine ⟨R, rfl, ?_⟩
   rw [IB.out]
   have B7 : Below w.heap.size w w7 := B2.out.trans (H7.out.mono B2.out.size)
   have hg1 : w.heap.size <= g + 1 := by have := Hg.out; omega
   have B8 : Below w.heap.size w (w7.setRow (g + 1) R) := below_setRow B7 hg1 _
   exact ⟨HR.out.symm, a, n, n, X, fa, fn, fc, F, (B8.block gc (gl hk.out)).trans hk.out, ((hC.out.ct.below B8).up (Nat.le_succ K)).full, rfl, rfl, B8.mono hlo, K51.below B8⟩

end Go.Proofs.YtfabnnbljkkihaaGreatDoor
