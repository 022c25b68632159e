import Derived.Test.YtfabnnbljkkihaaGreatDoorMxp
import Derived.Test.YtfabnnbljkkihaaGreatDoorMx20
namespace Go.Proofs.YtfabnnbljkkihaaGreatDoor
open Go.ChangeShapes Go.WideShapes Go.ChangeAt Go.RowKit
set_option maxRecDepth 20000
set_option linter.unusedVariables false
set_option linter.unusedSimpArgs false
def exX (tm : Int) (x : Bkx) : Bkx := if x.dy = 0 then x else { x with on := (x.ox.filter (fun o => !gonO x.dy tm o.ob)).length, ox := x.ox.filter (fun o => !gonO x.dy tm o.ob) }
theorem exX_oa (tm : Int) (x : Bkx) : (exX tm x).oa = x.oa := by unfold exX; split <;> rfl
theorem exX_bk (tm : Int) (x : Bkx) : (exX tm x).bk = expB x.bk tm := by
 unfold exX expB
 by_cases h : x.dy = 0
 . rw [if_pos h, if_pos (show x.bk.days = 0 from h)]
 . rw [if_neg h, if_neg (show ¬ x.bk.days = 0 from h)]
   simp only [Bkx.bk]
   congr 1
   rw [List.filter_map]
   rfl
structure Xp (K : Nat) (w W : World) (lo hi : Nat) (a : Option Addr) (n : Nat) (X : List Bkx) (tm : Int) (i : Nat) : Prop where
 r : Rw W lo hi 65 EBk a n n ((X.take i).map (exX tm) ++ X.drop i)
 o : ∀ j x, X[j]? = some x -> BkO K W lo hi (if j < i then exX tm x else x)
 c : Ch w W (fun q => blkOf a = some q ∨ ∃ x ∈ X, blkOf x.oa = some q)
theorem BkO.ch71 {K : Nat} {V w' : World} {lo hi m d : Nat} {oa : Option Addr} {L : List Obx} {z : Bkx} (h : BkO K V lo hi z) (hr : Rw V lo hi 71 EOb oa m d L) (hd : dif oa z.oa) (hc : Ch V w' (fun q => blkOf oa = some q)) : BkO K w' lo hi z :=
 ⟨h.o.keep1 (fun q e => hc.block q (h.o.lt e).2 (fun e2 => hd q e2 e)), fun o ho => ⟨(h.oo o ho).r.keep1 (fun q e => hc.block q ((h.oo o ho).r.lt e).2 (fun e2 => (h.oo o ho).r.apart hr (by decide) e e2)), (h.oo o ho).p, (h.oo o ho).k, (h.oo o ho).s⟩, h.u.keep1 (fun q e => hc.block q (h.u.lt e).2 (fun e2 => h.u.apart hr (by decide) e e2)), fun u hu => ⟨(h.uu u hu).r.keep1 (fun q e => hc.block q ((h.uu u hu).r.lt e).2 (fun e2 => (h.uu u hu).r.apart hr (by decide) e e2)), (h.uu u hu).p, (h.uu u hu).k, (h.uu u hu).s⟩, h.k, h.s⟩
theorem take_step {α : Type} (f : α -> α) (X : List α) (i : Nat) (y : α) (h : X[i]? = some y) : ((X.take i).map f ++ X.drop i)[i]? = some y /\ ((X.take i).map f ++ X.drop i).set i (f y) = (X.take (i + 1)).map f ++ X.drop (i + 1) := by
 obtain ⟨hi, e⟩ := List.getElem?_eq_some_iff.1 h
 have hl : ((X.take i).map f).length = i := by rw [List.length_map, List.length_take]; omega
 have hd : X.drop i = y :: X.drop (i + 1) := by rw [<- e]; exact List.drop_eq_getElem_cons hi
 refine ⟨?_, ?_⟩
 . rw [List.getElem?_append_right (by omega), hl, Nat.sub_self, hd]; rfl
 . rw [List.set_append_right _ _ (by omega), hl, Nat.sub_self, hd, List.set_cons_zero, List.take_add_one, h]
   simp
section
variable {K : Nat} {w W W' w5 : World} {lo hi : Nat} {a : Option Addr} {n : Nat} {X : List Bkx} {tm : Int} {i : Nat} {fa : Option Addr} {fn fc : Nat} {F : List Idd}
theorem Xp.start (h : CtC K w lo hi a n X fa fn fc F) (tm : Int) : Xp K w w lo hi a n X tm 0 := ⟨h.b, fun j x hj => by rw [if_neg (Nat.not_lt_zero _)]; exact (h.bb x (List.mem_of_getElem? hj)).b, Ch.refl _ _⟩
theorem Xp.below (h : Xp K w W lo hi a n X tm i) (hb : Below W.heap.size W W') : Xp K w W' lo hi a n X tm i := ⟨h.r.below hb, fun j x hj => (h.o j x hj).keep (fun q _ _ hq => hb.block q hq), h.c.trans (Ch.below hb)⟩
theorem Xp.skip {y : Bkx} (h : Xp K w W lo hi a n X tm i) (hx : X[i]? = some y) (hd : y.dy = 0) : Xp K w W lo hi a n X tm (i + 1) := by
 have e : exX tm y = y := by unfold exX; rw [if_pos hd]
 have t := take_step (exX tm) X i y hx
 refine ⟨?_, fun j x hj => ?_, h.c⟩
 . rw [<- t.2, e]
   have hs : ((X.take i).map (exX tm) ++ X.drop i).set i y = (X.take i).map (exX tm) ++ X.drop i := by
    obtain ⟨hi', he⟩ := List.getElem?_eq_some_iff.1 t.1
    rw [<- he]; exact List.set_getElem_self hi'
   rw [hs]
   exact h.r
 . have h1 := h.o j x hj
   by_cases hji : j < i
   . rw [if_pos hji] at h1; rw [if_pos (by omega)]; exact h1
   . rw [if_neg hji] at h1
     by_cases hj2 : j < i + 1
     . have : j = i := by omega
       subst this
       rw [hx] at hj
       cases hj
       rw [if_pos hj2, e]; exact h1
     . rw [if_neg hj2]; exact h1
theorem Xp.step {y : Bkx} {b n5 : Nat} (hC : CtC K w lo hi (some ⟨b, 0, none⟩) n X fa fn fc F) (h : Xp K w W lo hi (some ⟨b, 0, none⟩) n X tm i) (hx : X[i]? = some y) (hd : ¬ y.dy = 0) (h5 : Rw w5 lo hi 71 EOb y.oa n5 y.on (y.ox.filter (fun o => !gonO y.dy tm o.ob))) (hc : Ch W w5 (fun q => blkOf y.oa = some q)) : Xp K w (w5.setCell ⟨b, i * 5 + 3, none⟩ (.slice y.oa n5 y.on)) lo hi (some ⟨b, 0, none⟩) n X tm (i + 1) := by
 have hy : BkO K W lo hi y := by have h1 := h.o i y hx; rw [if_neg (Nat.lt_irrefl _)] at h1; exact h1
 have oc : y.oc = y.on := (hC.bb y (List.mem_of_getElem? hx)).c.1
 have hn5 := h5.len
 have e : exX tm y = { y with on := n5, ox := y.ox.filter (fun o => !gonO y.dy tm o.ob) } := by unfold exX; rw [if_neg hd, hn5]
 have r5 := h.r.keep1 (w' := w5) (fun q e => hc.block q (h.r.lt e).2 (fun e2 => h.r.apart hy.o (by decide) e e2))
 have t := take_step (exX tm) X i y hx
 have r6 := r5.setC (k := 3) (y := exX tm y) (v := .slice y.oa n5 y.on) t.1 (by decide) (by rw [e, <- oc]; rfl)
 rw [t.2] at r6
 obtain ⟨cb, hcb, _⟩ := r5.blk (q := b) rfl
 have off : ∀ q, q < w5.heap.size -> q ≠ b -> (w5.setCell ⟨b, i * 5 + 3, none⟩ (.slice y.oa n5 y.on)).heap[q]? = w5.heap[q]? := fun q _ hq => Below.heap_setCell _ _ _ _ hq
 refine ⟨r6, fun j x hj => ?_, ?_⟩
 . refine BkO.off (W := w5) ?_ off hcb (by decide)
   by_cases hij : j = i
   . subst hij
     rw [hx] at hj
     cases hj
     rw [if_pos (Nat.lt_succ_self _), e]
     refine ⟨by rw [oc]; exact h5, fun o ho => ?_, hy.u.keep1 (fun q e => hc.block q (hy.u.lt e).2 (fun e2 => hy.u.apart hy.o (by decide) e e2)), fun u hu => ⟨(hy.uu u hu).r.keep1 (fun q e => hc.block q ((hy.uu u hu).r.lt e).2 (fun e2 => (hy.uu u hu).r.apart hy.o (by decide) e e2)), (hy.uu u hu).p, (hy.uu u hu).k, (hy.uu u hu).s⟩, ⟨?_, hy.k.2⟩, hy.s⟩
     . have ho' := hy.oo o (List.mem_filter.1 ho).1
       exact ⟨ho'.r.keep1 (fun q e => hc.block q (ho'.r.lt e).2 (fun e2 => ho'.r.apart hy.o (by decide) e e2)), ho'.p, ho'.k, ho'.s⟩
     . have h1 := List.length_filter_le (fun o : Obx => !gonO y.dy tm o.ob) y.ox
       have h2 := hy.o.len
       have h3 := hy.k.1
       show n5 <= K
       omega
   . have d1 : dif y.oa x.oa := pair_at (fun _ _ h => dif_symm h) hC.o hx hj (fun e => hij e.symm)
     have h1 := h.o j x hj
     by_cases hji : j < i
     . rw [if_pos hji] at h1; rw [if_pos (by omega)]
       exact h1.ch71 hy.o (by rw [exX_oa]; exact d1) hc
     . rw [if_neg hji] at h1; rw [if_neg (by omega)]
       exact h1.ch71 hy.o d1 hc
 . exact (h.c.trans (hc.weak (fun q _ e => .inr ⟨y, List.mem_of_getElem? hx, e⟩))).trans ((Ch.set w5 b _ _).weak (fun q _ e => .inl (by rw [e]; rfl)))
theorem Xp.stay {q : Nat} {cs : Array Value} {t : TypeId} (hC : CtC K w lo hi a n X fa fn fc F) (h : Xp K w W lo hi a n X tm i) (hq : w.heap[q]? = some (.cells cs t (0, 0))) (ht : t ≠ 65 /\ t ≠ 71) : W.heap[q]? = some (.cells cs t (0, 0)) := by
 refine (h.c.block q (gl hq) ?_).trans hq
 rintro (e | ⟨x, hx, e⟩)
 . obtain ⟨c2, h2, _⟩ := hC.b.blk e
   rw [hq] at h2; cases h2; exact ht.1 rfl
 . obtain ⟨c2, h2, _⟩ := (hC.bb x hx).b.o.blk e
   rw [hq] at h2; cases h2; exact ht.2 rfl
end
structure Xq (W : World) (gb b off : Nat) (y : Bkx) : Prop where
 k : W.heap[gb]? = some (.cells #[.pointer (some ⟨b, off, none⟩)] 131 (0, 0))
 s : W.cell? ⟨b, off + 3, none⟩ = some (.slice y.oa y.on y.on)
theorem Xq.c {W : World} {gb b off : Nat} {y : Bkx} (h : Xq W gb b off y) : W.cell? ⟨gb, 0, none⟩ = some (.pointer (some ⟨b, off, none⟩)) := cell_arr h.k rfl
theorem Xq.ch71 {W W' : World} {gb b off lo hi m d n c : Nat} {y : Bkx} {oa : Option Addr} {L : List Obx} {X : List Bkx} (h : Xq W gb b off y) (hr : Rw W lo hi 71 EOb oa m d L) (hb : Rw W lo hi 65 EBk (some ⟨b, 0, none⟩) n c X) (hc : Ch W W' (fun q => blkOf oa = some q)) : Xq W' gb b off y := by
 refine ⟨(hc.block gb (gl h.k) (fun e => ?_)).trans h.k, ?_⟩
 . obtain ⟨cur, h1, _⟩ := hr.blk e
   have h2 := h.k
   rw [h1] at h2
   simp at h2
 . have e := hc.block b (hb.lt (q := b) rfl).2 (fun e2 => hb.apart hr (by decide) (q := b) rfl e2)
   exact (World.cell?_of_block (w := W) (a := ⟨b, off + 3, none⟩) e).trans h.s
set_option maxHeartbeats 16000000 in
theorem expire_n {K : Nat} (hK : K + 1 <= 1048576) {w : World} {A : Array Value} {x : Cx} {lo hi gc : Nat} {a : Option Addr} {n : Nat} {X : List Bkx} {fa : Option Addr} {fn fc : Nat} {F : List Idd} (hX : Hid (A = (encX x).toArray)) (hC : Hid (CtC K w lo hi a n X fa fn fc F)) (hk : Hid (w.heap[gc]? = some (.cells #[.slice a n n,.slice fa fn fc] 58 (0, 0)))) (hlo : lo <= w.heap.size) :
  Calls Tryz.prog 76 #[.pointer (some ⟨gc, 0, none⟩), .agg A] w fun e w' => ∃ R, e = .returned (.agg R) /\ Hid (ChR K w w' lo gc (expO ⟨X.map Bkx.bk, F⟩ x.cm) R) := by
 have a18 : A.size = 18 := encX_sz hX.out
 have A16 : Hid (A[16]? = some (.int .i64 x.cm.tm)) := by rw [hX.out]; rfl
 have LX : Hid (n = X.length) := hC.out.b.len
 obtain ⟨w1, Hw1⟩ := nm ((w.alloc (.cells A 29)).alloc (.cells #[.int .i64 0,.string ⟨#[]⟩] 51))
 obtain ⟨g, Hg⟩ := nm (w.heap.size)
 have B1 : Hid (Below w.heap.size w w1) := by rw [<- Hw1.out]; exact alloc2 w _ _
 have kx : Hid (w1.heap[g]? = some (.cells A 29 (0, 0))) := by
  rw [<- Hw1.out, <- Hg.out]
  exact ((alloc1 (w.alloc (.cells A 29)) _).block w.heap.size (by simp)).trans (heap_alloc_new w _)
 have kr : Hid (w1.heap[g + 1]? = some (.cells #[.int .i64 0,.string ⟨#[]⟩] 51 (0, 0))) := by
  rw [<- Hw1.out, <- Hg.out]
  have e : (w.alloc (.cells A 29)).heap.size = w.heap.size + 1 := by simp
  rw [<- e]
  exact heap_alloc_new _ _
 have k1 := sh B1 hk
 have C1 : Hid (CtC K w1 lo hi a n X fa fn fc F) := hC.out.below B1.out
 have hnK : n <= 1048576 := by have := hC.out.k.1; omega
 have X0 : Hid (Xp K w1 w1 lo hi a n X x.cm.tm 0) := Xp.start C1.out _
 go_enter Tryz.func76, Tryz.ntmps76
 go_upto_region 1 with (fail)
 rw [Hw1.out, Hg.out]
 clear Hw1
 have q0 : w1.cell? ⟨gc, 0, none⟩ = some (.slice a n n) := cell_arr k1.out rfl
 go_wp2
 clear q0
 go_loopw [12] (fun t12 wr => ∃ i : Nat, i <= n /\ t12 = .int .i64 i /\ Hid (Xp K w1 wr lo hi a n X x.cm.tm i)) (fun t12 _ => n - (intOf t12).toNat)
 case atStart => exact ⟨0, by omega, rfl, X0⟩
 case round =>
  obtain ⟨i, hin, rfl, HX⟩ := hrel
  have kcr : Hid (wr.heap[gc]? = some (.cells #[.slice a n n,.slice fa fn fc] 58 (0, 0))) := HX.out.stay C1.out k1.out (by decide)
  by_cases hlt : i < n
  . have i3 : (i : Int) < (n : Int) := by omega
    have kx' : i < X.length := by rw [<- LX.out]; exact hlt
    obtain ⟨y, Hy⟩ := nm (X[i])
    have EX : Hid (X[i]? = some y) := by show _ = _; rw [<- Hy.out]; exact List.getElem?_eq_getElem kx'
    have hti := (take_step (exX x.cm.tm) X i y EX.out).1
    obtain ⟨b, rfl, _, _, e1⟩ := HX.out.r.at_ (List.getElem?_eq_some_iff.1 hti).1
    have ey : ((X.take i).map (exX x.cm.tm) ++ X.drop i)[i]'(List.getElem?_eq_some_iff.1 hti).1 = y := (List.getElem?_eq_some_iff.1 hti).2
    rw [ey] at e1
    have OC : Hid (y.oc = y.on) := (hC.out.bb y (List.mem_of_getElem? EX.out)).c.1
    have E1 : Hid (wr.rangeAt b (i * 5) (EBk.e y)) := e1
    have q0 : wr.cell? ⟨gc, 0, none⟩ = some (.slice (some ⟨b, 0, none⟩) n n) := cell_arr kcr.out rfl
    obtain ⟨w3, Hw3⟩ := nm (wr.alloc (.cells #[.pointer (some ⟨b, i * 5, none⟩)] 131))
    obtain ⟨gb, Hgb⟩ := nm (wr.heap.size)
    clear e1 ey hti Hy kx'
    go_upto_region 5 with (fail)
    rw [Hw3.out, Hgb.out]
    have B3 : Hid (Below wr.heap.size wr w3) := by rw [<- Hw3.out]; exact alloc1 wr _
    have k3 : Hid (w3.heap[gb]? = some (.cells #[.pointer (some ⟨b, i * 5, none⟩)] 131 (0, 0))) := by rw [<- Hw3.out, <- Hgb.out]; exact heap_alloc_new wr _
    have X3 : Hid (Xp K w1 w3 lo hi (some ⟨b, 0, none⟩) n X x.cm.tm i) := HX.out.below B3.out
    have lb : Hid (b < wr.heap.size) := (HX.out.r.lt (q := b) rfl).2
    have E3 : Hid (w3.rangeAt b (i * 5) (EBk.e y)) := fun j v hv => (World.cell?_of_block (w := wr) (a := ⟨b, i * 5 + j, none⟩) (B3.out.block b lb.out)).trans (E1.out j v hv)
    have q1 : w3.cell? ⟨gb, 0, none⟩ = some (.pointer (some ⟨b, i * 5, none⟩)) := cell_arr k3.out rfl
    clear E1 q0 Hw3
    obtain ⟨d, Hd⟩ := nm (y.dy)
    have q2 : w3.cell? ⟨b, i * 5 + 2, none⟩ = some (.int .i64 d) := by rw [<- Hd.out]; exact E3.out 2 _ rfl
    by_cases hd : d = 0
    . have X4 : Hid (Xp K w1 w3 lo hi (some ⟨b, 0, none⟩) n X x.cm.tm (i + 1)) := X3.out.skip EX.out (by rw [Hd.out]; exact hd)
      rw [hd] at q2
      clear hd Hd
      go_wp2
      go_roundw
      case rel => exact ⟨i + 1, by omega, by go_num, X4⟩
      case measure => simp [intOf]; omega
    . have ND : Hid (¬ y.dy = 0) := by rw [Hd.out]; exact hd
      go_upto_region 6 with (fail)
      clear q1 q2
      obtain ⟨wd, Hwd⟩ := nm (w3.drew)
      have BD : Hid (Below w3.heap.size w3 wd) := by rw [<- Hwd.out]; exact (Below.refl _ _).drew
      have XD : Hid (Xp K w1 wd lo hi (some ⟨b, 0, none⟩) n X x.cm.tm i) := X3.out.below BD.out
      have YD : Hid (BkO K wd lo hi y) := by have h1 := XD.out.o i y EX.out; rw [if_neg (Nat.lt_irrefl _)] at h1; exact h1
      have OW : Hid (Rw wd lo hi 71 EOb y.oa y.on y.on y.ox) := by have h := YD.out.o; rw [OC.out] at h; exact h
      have hoK : y.on <= 1048576 := by have := YD.out.k.1; omega
      have RB2 : Hid (Rw wd lo hi 65 EBk (some ⟨b, 0, none⟩) n n ((X.take i).map (exX x.cm.tm) ++ X.drop i)) := XD.out.r
      have kd : Hid (wd.heap[gb]? = some (.cells #[.pointer (some ⟨b, i * 5, none⟩)] 131 (0, 0))) := by rw [<- Hwd.out]; exact k3.out
      have ED : Hid (wd.rangeAt b (i * 5) (EBk.e y)) := by rw [<- Hwd.out]; exact E3.out
      have XQ : Hid (Xq wd gb b (i * 5) y) := ⟨kd.out, by have h := ED.out 3 _ rfl; rw [OC.out] at h; exact h⟩
      have EXQ : Hid (Ex wd gb g b (i * 5) y.dy x.cm.tm) := by
       obtain ⟨cb, hcb, _⟩ := RB2.out.blk (q := b) rfl
       have h2 := ED.out 2 _ rfl
       refine ⟨⟨_, kd.out, rfl⟩, ⟨cb, hcb, ?_⟩, ⟨A, XD.out.stay C1.out kx.out (by decide), A16.out⟩⟩
       unfold World.cell? at h2
       rw [hcb] at h2
       simpa using h2
      refine wp_region_till (S := tillP 9 (fun W => Xq W gb b (i * 5) y)) (by kernel_rfl) (.inr (by rw [Hwd.out]; exact XQ.out)) (fun hS => ?_)
      rw [Hwd.out] at hS ⊢
      clear Hwd
      refine trd (i := 0) (c := 9) (v := .pointer (some ⟨b, i * 5, none⟩)) (T := fun W => Xq W gb b (i * 5) y) rfl rfl (fun L w => tillP_set (by decide)) (fun L w h1 h2 => tillP_out h1 h2) (Or.inl ⟨by rfl, fun w h => by have q9 := h.c; go_simp⟩) hS (fun hSb => ?_)
      simp only [pA,pB,pC,Act.put,pD,pE,pF]
      clear hS
      refine trd (i := 1) (c := 9) (v := .pointer (some ⟨b, i * 5, none⟩)) (T := fun W => Xq W gb b (i * 5) y) rfl rfl (fun L w => tillP_set (by decide)) (fun L w h1 h2 => tillP_out h1 h2) (Or.inl ⟨by rfl, fun w h => by have q9 := h.c; go_simp⟩) hSb (fun hS => ?_)
      simp only [pA,pB,pC,Act.put,pD,pE,pF]
      clear hSb
      refine tkp (i := 2) (v := .pointer (some ⟨b, i * 5, none⟩)) rfl hS (fun hSb => ?_)
      simp only [pA,pB,pC,Act.put,pD,pE,pF]
      clear hS
      refine tkp (i := 3) (v := .pointer (some ⟨b, i * 5 + 3, none⟩)) rfl hSb (fun hS => ?_)
      simp only [pA,pB,pC,Act.put,pD,pE,pF]
      clear hSb
      refine trd (i := 4) (c := 9) (v := .slice y.oa y.on y.on) (T := fun W => Xq W gb b (i * 5) y) rfl rfl (fun L w => tillP_set (by decide)) (fun L w h1 h2 => tillP_out h1 h2) (Or.inl ⟨by rfl, fun w h => by have q9 := h.s; go_simp⟩) hS (fun hSb => ?_)
      simp only [pA,pB,pC,Act.put,pD,pE,pF]
      clear hS
      refine tkp (i := 5) (v := .func (.func 108) #[] #[.pointer (some ⟨gb, 0, none⟩), .pointer (some ⟨g, 0, none⟩)]) rfl hSb (fun hS => ?_)
      simp only [pA,pB,pC,Act.put,pD,pE,pF]
      clear hSb
      refine till_one (i := 6) (by kernel_rfl) rfl (fun K hK => ?_)
      simp only [pA,pB,pC]
      rw [if_pos (by rfl)]
      go_simp
      go_wp2_with (go_at_call 107; refine (delf OW hoK EXQ).mono ?_; rintro e w5 ⟨n5, rfl, H5⟩)
      have S5 : Xq w5 gb b (i * 5) y := XQ.out.ch71 OW.out RB2.out H5.out.2
      refine hK.out _ _ (Or.inr S5) (fun hSb => ?_)
      clear hK K
      try simp only [pA,pB,pC,Act.put,pD,pE,pF]
      clear hS
      refine tkp (i := 7) (v := .pointer (some ⟨b, i * 5, none⟩)) rfl hSb (fun hS => ?_)
      simp only [pA,pB,pC,Act.put,pD,pE,pF]
      clear hSb
      refine tkp (i := 8) (v := .pointer (some ⟨b, i * 5 + 3, none⟩)) rfl hS (fun hSb => ?_)
      simp only [pA,pB,pC,Act.put,pD,pE,pF]
      clear hS
      refine till_one (i := 9) (by kernel_rfl) rfl (fun K hK => ?_)
      simp only [pA,pB,pC]
      rw [if_pos (by rfl)]
      have q9 := S5.s
      have q8 : w5.frozen? ⟨b, i * 5 + 3, none⟩ = false := (RB2.out.keep1 (fun q e => H5.out.2.block q (RB2.out.lt e).2 (fun e2 => RB2.out.apart OW.out (by decide) e e2))).row.frozenAt _
      go_simp
      refine hK.out _ _ (Or.inl (by kernel_rfl)) (fun hS => ?_)
      clear hK K
      try simp only [pA,pB,pC,Act.put,pD,pE,pF]
      clear hSb
      refine till_done (by kernel_rfl) ?_ _
      clear hS
      have X5 : Hid (Xp K w1 (w5.setCell ⟨b, i * 5 + 3, none⟩ (.slice y.oa n5 y.on)) lo hi (some ⟨b, 0, none⟩) n X x.cm.tm (i + 1)) := Xp.step C1.out XD.out EX.out ND.out H5.out.1 H5.out.2
      clear S5 q9 q8 H5
      go_wp2
      go_roundw
      case rel => exact ⟨i + 1, by omega, by go_num, X5⟩
      case measure => simp [intOf]; omega
  . have ein : i = n := by omega
    subst ein
    obtain ⟨R, HR⟩ := nm ((#[.int .i64 0,.string ⟨#[]⟩] : Array Value))
    have a5' : (Tryz.prog.info? 51).map (·.size) = some R.size := by rw [<- HR.out]; exact outZ
    have AA : Hid (R.all (·.oneCell') = true) := (show R.all (·.oneCell') = true by rw [<- HR.out]; kernel_rfl)
    have a6' : Hid (R.size = 2) := (show R.size = 2 by rw [<- HR.out]; rfl)
    have krr : Hid (wr.heap[g + 1]? = some (.cells #[.int .i64 0,.string ⟨#[]⟩] 51 (0, 0))) := HX.out.stay C1.out kr.out (by decide)
    go_wp2_with (first
     | (go_at_call 92; refine (done_n _).mono ?_; rintro e w7 ⟨rfl, H7⟩; rw [HR.out]; have r7 := sh H7 krr)
     | (refine wpList_store_row (by rfl) 51 (.tmp 4) (.tmp 36) (by rfl) (g + 1) R (by rfl) (by rfl) 51 _ r7.out a5' (by rw [a6'.out]; rfl) AA.out ?_))
    refine bodyPost_ret (results_cell_row Tryz.results76 _ _ (g + 1) 51 R (0, 0) _ (by rfl) (setRow_heap _ _ _ _ _ _ r7.out) Tryz.underlying51 rfl a5') rfl ?_
    refine ⟨R, rfl, HR.out.symm, a, i, i, X.map (exX x.cm.tm), fa, fn, fc, F, ?_⟩
    have k7 := (H7.out.block gc (gl kcr.out)).trans kcr.out
    have ng : ∀ q, q < w7.heap.size -> q ≠ g + 1 -> (w7.setRow (g + 1) R).heap[q]? = w7.heap[q]? := fun q hq hn => setRow_other _ _ _ _ hn
    have ne6 : g + 1 ≠ gc := fun e => by have h := krr.out; rw [e, kcr.out] at h; simp at h
    have lX := LX.out
    have CO : CtO (K + 1) wr lo hi a i i (X.map (exX x.cm.tm)) fa fn fc F := by
     refine ⟨?_, fun z hz => ?_, C1.out.f.keep1 (fun q e => HX.out.c.block q (C1.out.f.lt e).2 ?_), ⟨Nat.le_trans C1.out.k.1 (Nat.le_succ K), Nat.le_trans C1.out.k.2 (Nat.le_succ K)⟩⟩
     . have h := HX.out.r
       rw [List.take_of_length_le (by omega), List.drop_of_length_le (by omega), List.append_nil] at h
       exact h
     . obtain ⟨y, hy, rfl⟩ := List.mem_map.1 hz
       obtain ⟨j, hj, rfl⟩ := List.getElem_of_mem hy
       have h := HX.out.o j _ (List.getElem?_eq_getElem hj)
       rw [if_pos (by omega)] at h
       exact h.up (Nat.le_succ K)
     . rintro (e2 | ⟨y, hy, e2⟩)
       . exact C1.out.f.apart C1.out.b (by decide) e e2
       . exact C1.out.f.apart (C1.out.bb y hy).b.o (by decide) e e2
    have hb1 : Below lo w wr := (B1.out.mono hlo).trans (HX.out.c.toBelow (Nat.le_trans hlo B1.out.size) (fun q hq e => by
     rcases e with e | ⟨y, hy, e⟩
     . have := (C1.out.b.lt e).1; omega
     . have := ((C1.out.bb y hy).b.o.lt e).1; omega))
    have hg1 : lo <= g + 1 := by have := Hg.out; omega
    refine ⟨(ng gc (gl k7) (fun e => ne6 e.symm)).trans k7, ((CO.below H7.out).off ng r7.out).full, ?_, rfl, below_setRow (hb1.trans (H7.out.mono (Nat.le_trans (Nat.le_trans hlo B1.out.size) HX.out.c.size))) hg1 _, fun q cs h => ?_⟩
    . simp only [expO, List.map_map]
      exact List.map_congr_left (fun y _ => exX_bk _ _)
    . have h1 := K51.below B1.out q cs h
      have h2 := HX.out.stay C1.out h1 (by decide)
      exact (setRow_other _ _ _ _ (fun e2 => by have h3 := (gl h); have h4 := Hg.out; omega)).trans (K51.below H7.out q cs h2)
end Go.Proofs.YtfabnnbljkkihaaGreatDoor
