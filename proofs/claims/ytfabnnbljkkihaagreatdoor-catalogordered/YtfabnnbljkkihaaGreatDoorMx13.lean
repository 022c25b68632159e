import Derived.Test.YtfabnnbljkkihaaGreatDoorMxp
import Derived.Test.YtfabnnbljkkihaaGreatDoorMx11
import Derived.Test.YtfabnnbljkkihaaGreatDoorMx12
namespace Go.Proofs.YtfabnnbljkkihaaGreatDoor
open Go.ChangeShapes Go.WideShapes Go.ChangeAt Go.RowKit
set_option maxRecDepth 20000
set_option linter.unusedVariables false
set_option linter.unusedSimpArgs false
theorem info24 : (Tryz.prog.info? 24).map (fun i => (i.zero, i.size, i.bytes)) = some (some (.agg #[.int .i64 0,.int .i64 0,.int .i64 0]), 3, 24) := by kernel_rfl
theorem catZ : (Tryz.prog.info? 58).map (·.size) = some 2 := by kernel_rfl
structure Mb (W : World) (gc g : Nat) (A : Array Value) (a : Option Addr) (n c : Nat) (fl : Value) : Prop where
 k : W.heap[gc]? = some (.cells #[.slice a n c, fl] 58 (0, 0))
 x : W.heap[g]? = some (.cells A 29 (0, 0))
section
variable {W W' : World} {gc g : Nat} {A : Array Value} {a : Option Addr} {n c : Nat} {fl : Value}
end
structure CtC (K : Nat) (w : World) (lo hi : Nat) (a : Option Addr) (n : Nat) (X : List Bkx) (fa : Option Addr) (fn fc : Nat) (F : List Idd) : Prop where
 b : Rw w lo hi 65 EBk a n n X
 bb : ∀ b ∈ X, BkC K w lo hi b
 o : X.Pairwise (fun b c => dif b.oa c.oa)
 u : X.Pairwise (fun b c => dif b.ua c.ua)
 p : X.Pairwise (fun b c => ∀ u ∈ b.ux, ∀ v ∈ c.ux, dif u.a v.a)
 f : Rw w lo hi 24 EId fa fn fc F
 k : n <= K /\ fn <= K
section
variable {K : Nat} {w w' : World} {lo hi lo' hi' : Nat} {a fa : Option Addr} {n fn fc : Nat} {X : List Bkx} {F : List Idd}
theorem CtC.keep (h : CtC K w lo hi a n X fa fn fc F) (hb : ∀ q, lo <= q -> q < hi -> q < w.heap.size -> w'.heap[q]? = w.heap[q]?) : CtC K w' lo hi a n X fa fn fc F :=
 ⟨h.b.keep hb, fun b hb' => bkC_stays K _ _ _ _ _ (h.bb b hb') hb, h.o, h.u, h.p, h.f.keep hb, h.k⟩
theorem CtC.below (h : CtC K w lo hi a n X fa fn fc F) (hb : Below w.heap.size w w') : CtC K w' lo hi a n X fa fn fc F := h.keep fun q _ _ hq => hb.block q hq
theorem CtC.ct (h : CtC K w lo hi a n X fa fn fc F) : CtO K w lo hi a n n X fa fn fc F := ⟨h.b, fun b hb => (h.bb b hb).b, h.f, h.k⟩
end
theorem seg_bk {K : Nat} {w : World} {lo hi : Nat} {l : List Bkx} (h : Seg (BkC K w) lo hi l) : (∀ b ∈ l, BkC K w lo hi b) /\ l.Pairwise (fun b c => dif b.oa c.oa) /\ l.Pairwise (fun b c => dif b.ua c.ua) /\ l.Pairwise (fun b c => ∀ u ∈ b.ux, ∀ v ∈ c.ux, dif u.a v.a) := by
 have hp := h.pairs (fun _ _ _ _ _ h hl hh => h.mono hl hh)
 exact ⟨h.all (fun _ _ _ _ _ h hl hh => h.mono hl hh), hp.imp (fun ⟨p, q, r, h1, h2⟩ => h1.b.o.dif h2.b.o (Nat.le_refl _)), hp.imp (fun ⟨p, q, r, h1, h2⟩ => h1.b.u.dif h2.b.u (Nat.le_refl _)), hp.imp (fun ⟨p, q, r, h1, h2⟩ u hu v hv => (h1.b.uu u hu).r.dif (h2.b.uu v hv).r (Nat.le_refl _))⟩
theorem app_fl {w : World} {lo hi : Nat} {fa : Option Addr} {fn fc : Nat} {F : List Idd} (h : Rw w lo hi 24 EId fa fn fc F) (hn : fn <= 1048576) :
  ∃ fa2 fc2 w', (Builtin.append_ #[49, 49] 49 #[.slice none 0 0,.slice fa fn fc]).run Tryz.prog w = .ok (.slice fa2 fn fc2) w' /\ Rw w' w.heap.size w'.heap.size 24 EId fa2 fn fc2 F /\ Below w.heap.size w w' := by
 obtain ⟨i, hi, hz0, hz1, hz2⟩ := info_parts info24
 rcases ha : fa with _ | ad
 . have c0 := h.cap0 ha
   have hn0 : fn = 0 := by have := h.cap; omega
   have hF : F = [] := List.length_eq_zero_iff.1 (by have := h.len; omega)
   subst hn0 c0 hF
   have hr := run_append_owned_none (P := Tryz.prog) w w.heap.size 49 49 24 i 3 Tryz.underlying49 hi (.slice none 0 0) 0 [] (World.ownsRow_nil w w.heap.size 24 3)
   exact ⟨none, 0, w, hr, Rw.nil _ _ _ _ _ (by decide), Below.refl _ _⟩
 . obtain ⟨cur, h3, h4⟩ := h.blk (q := ad.block) (by rw [ha]; rfl)
   obtain ⟨q0, hq0⟩ : ∃ q0, ad = ⟨q0, 0, none⟩ := ⟨_, by rw [ha] at h4; simpa using h4⟩
   subst hq0
   subst ha
   obtain ⟨v', w', hrun, hown, hgr, _⟩ := run_append_own (P := Tryz.prog) w w.heap.size 49 49 24 i _ 3 24 Tryz.underlying49 hi hz0 hz1 hz2 rfl (by decide) (.slice none 0 0) 0 [] (World.ownsRow_nil w w.heap.size 24 3) ⟨q0, 0, none⟩ fn fc (EId.fl F) (by rw [EId.fl_len, <- h.len]; rfl) (fun j u hu => by
    rw [Addr.add_mid, Nat.zero_add]
    have hj := (List.getElem?_eq_some_iff.1 hu).1
    rw [EId.fl_len, <- h.len] at hj
    rw [h.row.cellAt j hj]; exact hu) (EId.fl_oc F) (by unfold maxLen; omega) (by omega) (Nat.le_refl _)
   obtain ⟨a', c', rfl⟩ := rown_slice hown
   rw [Nat.zero_add] at hrun hown
   exact ⟨a', c', w', hrun, ⟨hown, fun q e => (hown.lt q (by rw [ownBlock_slice]; exact e)).2, h.pos⟩, grown_below hgr (Nat.le_refl _) (fun q e => by cases e)⟩
theorem inz58 : (Tryz.prog.info? 58).map (·.size) = some 2 := catZ
set_option maxHeartbeats 8000000 in
theorem copyCatalog_e {K : Nat} (hK : K <= 1048576) {lo hi : Nat} {a fa : Option Addr} {n c fn fc : Nat} {X : List Bkx} {F : List Idd} {w : World} (hx : Hid (CtO K w lo hi a n c X fa fn fc F)) :
  Calls Tryz.prog 46 #[.agg #[.slice a n c,.slice fa fn fc]] w fun e w' => ∃ a2 fa2 fc2, e = .returned (.agg #[.slice a2 n n,.slice fa2 fn fc2]) /\ Hid (∃ Y, Y.map Bkx.bk = X.map Bkx.bk /\ CtC K w' w.heap.size w'.heap.size a2 n Y fa2 fn fc2 F /\ Below w.heap.size w w') := by
 obtain ⟨w1, Hw1⟩ := nm ((w.alloc (.cells #[.slice a n c,.slice fa fn fc] 58)).alloc (.cells #[.slice none 0 0,.slice none 0 0] 58))
 obtain ⟨g, Hg⟩ := nm (w.heap.size)
 have S1 : Hid (Bz 58 #[.slice none 0 0,.slice none 0 0] w w1 g #[.slice a n c,.slice fa fn fc]) := by rw [<- Hw1.out, <- Hg.out]; exact Bz.new _ _ _ _
 have q1 : w1.cell? ⟨g, 0, none⟩ = some (.slice a n c) := S1.out.cell rfl
 have R1 : Hid (Rw w1 lo hi 65 EBk a n c X) := hx.out.b.below S1.out.f
 have HB : Hid (∀ W, Below w1.heap.size w1 W -> ∀ b ∈ X, BkO K W lo hi b) := fun W hW b hb => (hx.out.bb b hb).keep (fun q _ _ hq => (hW.block q (Nat.lt_of_lt_of_le hq S1.out.f.size)).trans (S1.out.f.block q hq))
 have hn : n <= 1048576 := Nat.le_trans hx.out.k.1 hK
 have hn2 : fn <= 1048576 := Nat.le_trans hx.out.k.2 hK
 go_enter Tryz.func46, Tryz.ntmps46
 go_upto_region 1 with (fail)
 rw [Hw1.out, Hg.out]
 clear Hw1
 go_upto_region 2 with (go_at_call 64; refine (copyBks (K := K) R1 hn (fun b hb W A hA hW => copyBucket_e hK b (HB.out W hW.out b hb) A hA)).mono ?_; rintro e w3 ⟨a2, rfl, H3⟩; have B3 := H3.out.choose_spec.2.2.2; have q5 : w3.cell? ⟨g, 0, none⟩ = some (.slice a n c) := (S1.out.below B3).cell rfl; have q6 := (S1.out.below B3).frz 0)
 have S3 : Hid (Bz 58 #[.slice none 0 0,.slice none 0 0] w (w3.setCell ⟨g, 0, none⟩ (.slice a2 n n)) g #[.slice a2 n n,.slice fa fn fc]) := (S1.out.below B3).put 0 _
 have LG : Hid (g + 1 < w1.heap.size) := (gl S1.out.z)
 have LW : Hid (w.heap.size <= w1.heap.size) := S1.out.f.size
 obtain ⟨Y, HY⟩ : ∃ Y, Hid (Y.map Bkx.bk = X.map Bkx.bk /\ Rw (w3.setCell ⟨g, 0, none⟩ (.slice a2 n n)) w1.heap.size w3.heap.size 65 EBk a2 n n Y /\ Seg (BkC K (w3.setCell ⟨g, 0, none⟩ (.slice a2 n n))) w1.heap.size w3.heap.size Y) := by
  obtain ⟨Y, h1, h2, h3, h4⟩ := H3.out
  have hs : ∀ q, w1.heap.size <= q -> (w3.setCell ⟨g, 0, none⟩ (.slice a2 n n)).heap[q]? = w3.heap[q]? := fun q h5 => Below.heap_setCell _ _ _ _ (show q ≠ g by have := LG.out; omega)
  exact ⟨Y, h1, h2.keep (fun q k1 _ _ => hs q k1), h3.imp (fun p q x hp hq h => bkC_stays K _ _ _ _ _ h (fun z k1 _ _ => hs z (by omega)))⟩
 have Z3 : Hid (w3.heap.size = (w3.setCell ⟨g, 0, none⟩ (.slice a2 n n)).heap.size) := (by simp [World.setCell] : w3.heap.size = (w3.setCell ⟨g, 0, none⟩ (.slice a2 n n)).heap.size)
 have LV3 : Hid (w1.heap.size <= w3.heap.size) := B3.size
 obtain ⟨V3, HV3⟩ := nm (w3.setCell ⟨g, 0, none⟩ (.slice a2 n n))
 rw [HV3.out] at S3 HY Z3 ⊢
 clear HV3 q1 q5 q6 B3 H3 R1 HB S1
 have q7 : V3.cell? ⟨g, 1, none⟩ = some (.slice fa fn fc) := S3.out.cell rfl
 obtain ⟨fa2, fc2, w5, AR0, R50, B50⟩ := app_fl (hx.out.f.below S3.out.f) hn2
 have AR : Hid ((Builtin.append_ #[49, 49] 49 #[.slice none 0 0,.slice fa fn fc]).run Tryz.prog V3 = .ok (.slice fa2 fn fc2) w5) := AR0
 have R5 : Hid (Rw w5 V3.heap.size w5.heap.size 24 EId fa2 fn fc2 F) := R50
 have B5 : Hid (Below V3.heap.size V3 w5) := B50
 clear AR0 R50 B50
 have q8 : w5.cell? ⟨g, 1, none⟩ = some (.slice fa fn fc) := (S3.out.below B5.out).cell rfl
 have q9 := (S3.out.below B5.out).frz 1
 go_upto_region 3 with (at_builtin; refine wpList_appt (by rfl) (.const (.slice none 0 0)) (.tmp 8) (by rfl) (by rfl) (by rfl) (by rfl) AR ?_)
 have S5 : Hid (Bz 58 #[.slice none 0 0,.slice none 0 0] w (w5.setCell ⟨g, 1, none⟩ (.slice fa2 fn fc2)) g #[.slice a2 n n,.slice fa2 fn fc2]) := (S3.out.below B5.out).put 1 _
 have hs5 : Hid (∀ q, w1.heap.size <= q -> (w5.setCell ⟨g, 1, none⟩ (.slice fa2 fn fc2)).heap[q]? = w5.heap[q]?) := fun q h5 => Below.heap_setCell _ _ _ _ (show q ≠ g by have := LG.out; omega)
 have Z5 : Hid (w5.heap.size = (w5.setCell ⟨g, 1, none⟩ (.slice fa2 fn fc2)).heap.size) := (by simp [World.setCell] : w5.heap.size = (w5.setCell ⟨g, 1, none⟩ (.slice fa2 fn fc2)).heap.size)
 obtain ⟨V5, HV5⟩ := nm (w5.setCell ⟨g, 1, none⟩ (.slice fa2 fn fc2))
 rw [HV5.out] at S5 hs5 Z5 ⊢
 clear HV5 q7 q8 q9 S3 AR
 obtain ⟨A, HA⟩ := nm ((#[.slice a2 n n,.slice fa2 fn fc2] : Array Value))
 have a5 : (Tryz.prog.info? 58).map (·.size) = some A.size := by rw [<- HA.out]; exact inz58
 have AA : Hid (A.all (·.oneCell') = true) := (show A.all (·.oneCell') = true by rw [<- HA.out]; kernel_rfl)
 have a6 : Hid (A.size = 2) := (show A.size = 2 by rw [<- HA.out]; rfl)
 have S9 : Hid (Bz 58 #[.slice none 0 0,.slice none 0 0] w V5 g A) := by rw [<- HA.out]; exact S5.out
 go_wp2_with (first
  | (refine wpList_load_row (by rfl) 58 (.tmp 1) (by rfl) g (by rfl) 58 A (0, 0) _ S9.out.b Tryz.underlying58 rfl a5 ?_)
  | (refine wpList_store_row (by rfl) 58 (.tmp 2) (.tmp 11) (by rfl) (g + 1) A (by rfl) (by rfl) 58 _ S9.out.z a5 (by rw [a6.out]; rfl) AA.out ?_))
 refine bodyPost_ret (results_cell_row Tryz.results46 _ _ (g + 1) 58 A (0, 0) _ (by rfl) (setRow_heap _ _ _ _ _ _ S9.out.z) Tryz.underlying58 rfl a5) rfl ?_
 obtain ⟨m1, m2, m3⟩ := HY.out
 have hs : ∀ q, w1.heap.size <= q -> (V5.setRow (g + 1) A).heap[q]? = w5.heap[q]? := fun q h5 => (setRow_other _ _ _ _ (show q ≠ g + 1 by have := LG.out; omega)).trans (hs5.out q h5)
 have hs3 : ∀ q, w1.heap.size <= q -> q < V3.heap.size -> (V5.setRow (g + 1) A).heap[q]? = V3.heap[q]? := fun q h5 h6 => (hs q h5).trans (B5.out.block q h6)
 have z2 : w5.heap.size <= (V5.setRow (g + 1) A).heap.size := by rw [setRow_size]; have := Z5.out; omega
 have z1 : w3.heap.size <= (V5.setRow (g + 1) A).heap.size := by have := Z3.out; have := B5.out.size; omega
 have m4 := seg_bk (m3.imp (fun p q x hp hq h => bkC_stays K _ _ _ _ _ h (fun z k1 _ k3 => hs3 z (by omega) k3)))
 refine ⟨a2, fa2, fc2, by rw [<- HA.out], Y, m1, ⟨?_, ?_, m4.2.1, m4.2.2.1, m4.2.2.2, ?_, hx.out.k⟩, below_setRow S9.out.f (by have := S9.out.e; omega) _⟩
 . exact (m2.keep (fun q h1 _ h3 => hs3 q h1 h3)).mono LW.out z1
 . exact fun b hb => (m4.1 b hb).mono LW.out z1
 . exact (R5.out.keep (fun q h1 _ _ => hs q (by have := Z3.out; have := LV3.out; omega))).mono (by have := Z3.out; have := LV3.out; have := LW.out; omega) z2
end Go.Proofs.YtfabnnbljkkihaaGreatDoor
