import Derived.Test.YtfabnnbljkkihaaGreatDoorMxp
import Derived.Test.YtfabnnbljkkihaaGreatDoorMx25
namespace Go.Proofs.YtfabnnbljkkihaaGreatDoor
open Go.ChangeShapes Go.WideShapes Go.ChangeAt Go.RowKit
set_option maxRecDepth 20000
set_option linter.unusedVariables false
set_option linter.unusedSimpArgs false
theorem box_ch {K : Nat} {V w' : World} {lo gc g : Nat} {r : Ctd × Outc} {R cs : Array Value} (kr : V.heap[g]? = some (.cells cs 51 (0, 0))) (hd : ChR K V w' lo gc r R) :
  w'.heap[g]? = some (.cells cs 51 (0, 0)) /\ (Tryz.prog.info? 51).map (·.size) = some R.size /\ R.size = 2 /\ R.all (·.oneCell') = true := by
 obtain ⟨h0, a', n', c', X', fa', fn', fc', F', h1, h2, h3, h4, h5, h6⟩ := hd
 refine ⟨h6 g cs kr, ?_, ?_, ?_⟩
 . rw [h0]; exact outZ
 . rw [h0]; rfl
 . rw [h0]; exact all_oneCell_toArray (cs := [.int .i64 r.2.code,.string r.2.etag]) (by intro v hv; simp at hv; rcases hv with rfl | rfl <;> rfl)
theorem ch_end {K : Nat} {w w1 w5 : World} {lo gc g : Nat} {r : Ctd × Outc} {R cs : Array Value} (hlo : lo <= w.heap.size) (B1 : Below w.heap.size w w1) (hd : ChR K w1 w5 lo gc r R) (kr5 : w5.heap[g]? = some (.cells cs 51 (0, 0))) (hg : w.heap.size <= g) : ChR K w (w5.setRow g R) lo gc r R := by
 obtain ⟨h0, a', n', c', X', fa', fn', fc', F', h1, h2, h3, h4, h5, h6⟩ := hd
 have ng : ∀ q, q < w5.heap.size -> q ≠ g -> (w5.setRow g R).heap[q]? = w5.heap[q]? := fun q hq hn => setRow_other _ _ _ _ hn
 refine ⟨h0, a', n', c', X', fa', fn', fc', F', (ng gc (gl h1) (fun e => ?_)).trans h1, (h2.off ng kr5).full, h3, h4, below_setRow ((B1.mono hlo).trans h5) (Nat.le_trans hlo hg) _, fun q cs h => (setRow_other _ _ _ _ (fun e2 => by have h2 := (gl h); omega)).trans (h6 q cs (K51.below B1 q cs h))⟩
 rw [e, kr5] at h1
 simp at h1
set_option maxHeartbeats 16000000 in
theorem inUpload_put {K : Nat} (hK : K <= 1048576) {w : World} {A : Array Value} {x : Cx} {lo hi gc : Nat} {a : Option Addr} {n : Nat} {X : List Bkx} {fa : Option Addr} {fn fc : Nat} {F : List Idd} {G : Bkd -> Cm -> Uld -> Bkd × Outc} (hX : Hid (A = (encX x).toArray)) (hC : Hid (CtC K w lo hi a n X fa fn fc F)) (hk : Hid (w.heap[gc]? = some (.cells #[.slice a n n,.slice fa fn fc] 58 (0, 0)))) (hlo : lo <= w.heap.size)
  (hdo : ∀ (V : World) (b i u p : Nat) (y : Bkx) (v : Ulx), Hid (Bs K V lo hi b n X i y) -> Hid (y.ux[p]? = some v) -> Hid (y.ua = some ⟨u, 0, none⟩) -> Hid (plcB (byU x.cm.u0 x.cm.u1 x.cm.u2) y.bk.uls = p) -> Below w.heap.size w V -> Calls Tryz.prog 72 #[.pointer (some ⟨b, i * 5, none⟩), .pointer (some ⟨u, p * 5, none⟩), .agg A] V fun e w' => ∃ R, e = .returned (.agg R) /\ Hid (DoR K V w' lo hi b n X i y (G y.bk x.cm v.ul) R)) :
  Calls Tryz.prog 71 #[.pointer (some ⟨gc, 0, none⟩), .agg A, .func (.func 72) #[] #[]] w fun e w' => ∃ R, e = .returned (.agg R) /\ Hid (ChR K w w' lo gc (inB ⟨X.map Bkx.bk, F⟩ x.cm (fun b x => upO b x (G b x))) R) := by
 have a18 : A.size = 18 := encX_sz hX.out
 have HDO : Hid (∀ (V : World) (b i u p : Nat) (y : Bkx) (v : Ulx), Hid (Bs K V lo hi b n X i y) -> Hid (y.ux[p]? = some v) -> Hid (y.ua = some ⟨u, 0, none⟩) -> Hid (plcB (byU x.cm.u0 x.cm.u1 x.cm.u2) y.bk.uls = p) -> Below w.heap.size w V -> Calls Tryz.prog 72 #[.pointer (some ⟨b, i * 5, none⟩), .pointer (some ⟨u, p * 5, none⟩), .agg A] V fun e w' => ∃ R, e = .returned (.agg R) /\ Hid (DoR K V w' lo hi b n X i y (G y.bk x.cm v.ul) R)) := hdo
 clear hdo
 obtain ⟨w1, Hw1⟩ := nm (((w.alloc (.cells A 29)).alloc (.cells #[.func (.func 72) #[] #[]] 117)).alloc (.cells #[.int .i64 0,.string ⟨#[]⟩] 51))
 obtain ⟨g, Hg⟩ := nm (w.heap.size)
 have B1 : Hid (Below w.heap.size w w1) := by rw [<- Hw1.out]; exact (alloc2 w _ _).trans ((alloc1 _ _).mono (alloc2 w _ _).size)
 have e1 : (w.alloc (.cells A 29)).heap.size = g + 1 := by simp [← Hg.out]
 have e2 : ((w.alloc (.cells A 29)).alloc (.cells #[.func (.func 72) #[] #[]] 117)).heap.size = g + 2 := by simp [← Hg.out, Nat.add_assoc]
 have kx : Hid (w1.heap[g]? = some (.cells A 29 (0, 0))) := by
  rw [<- Hw1.out, <- Hg.out]
  exact ((alloc1 ((w.alloc (.cells A 29)).alloc (.cells #[.func (.func 72) #[] #[]] 117)) _).block w.heap.size (by simp; omega)).trans (((alloc1 (w.alloc (.cells A 29)) _).block w.heap.size (by simp)).trans (heap_alloc_new w _))
 have kd : Hid (w1.heap[g + 1]? = some (.cells #[.func (.func 72) #[] #[]] 117 (0, 0))) := by
  rw [<- Hw1.out, <- e1]
  exact ((alloc1 ((w.alloc (.cells A 29)).alloc (.cells #[.func (.func 72) #[] #[]] 117)) _).block (w.alloc (.cells A 29)).heap.size (by simp)).trans (heap_alloc_new _ _)
 have kr : Hid (w1.heap[g + 2]? = some (.cells #[.int .i64 0,.string ⟨#[]⟩] 51 (0, 0))) := by
  rw [<- Hw1.out, <- e2]
  exact heap_alloc_new _ _
 clear e1 e2
 have CC : Hid (CtC K w1 lo hi a n X fa fn fc F) := hC.out.below B1.out
 have HK := sh B1 hk
 have hlo1 : lo <= w1.heap.size := Nat.le_trans hlo B1.out.size
 have CL : Hid (Calls Tryz.prog 67 #[.pointer (some ⟨gc, 0, none⟩), .agg A, .func (.func 101) #[] #[.pointer (some ⟨g + 1, 0, none⟩)]] w1 fun e w' => ∃ R, e = .returned (.agg R) /\ Hid (ChR K w1 w' lo gc (inB ⟨X.map Bkx.bk, F⟩ x.cm (fun b x => upO b x (G b x))) R)) :=
  inBucket_up (f := fun b x => upO b x (G b x)) hK hX CC HK hlo1 (fun V b i y hS hB => clo101_put (G := G y.bk x.cm) hK hX hS (show Hid _ from (hB.block (g + 1) (gl kd.out)).trans kd.out) (fun V2 u p v s1 s2 s3 s4 s5 => HDO.out V2 b i u p y v s1 s2 s3 s4 ((B1.out.trans (hB.mono B1.out.size)).trans (s5.mono (Nat.le_trans B1.out.size hB.size)))))
 go_enter Tryz.func71, Tryz.ntmps71
 go_upto_region 1 with (fail)
 rw [Hw1.out, Hg.out]
 clear Hw1
 go_wp2_with (first
  | (refine wpList_load_row (by rfl) 29 (.tmp 4) (by rfl) g (by rfl) 29 A (0, 0) _ kx.out Tryz.underlying29 rfl (info29 a18) ?_)
  | (go_at_call 67; refine CL.out.mono ?_; rintro e w5 ⟨R, rfl, H5⟩; obtain ⟨kr5, r5, r6, RA⟩ := box_ch kr.out H5.out)
  | (refine wpList_store_row (by rfl) 51 (.tmp 6) (.tmp 10) (by rfl) (g + 2) R (by rfl) (by rfl) 51 _ kr5 r5 (by rw [r6]; rfl) RA ?_))
 refine bodyPost_ret (results_cell_row Tryz.results71 _ _ (g + 2) 51 R (0, 0) _ (by rfl) (setRow_heap _ _ _ _ _ _ kr5) Tryz.underlying51 rfl r5) rfl ?_
 exact ⟨R, rfl, ch_end hlo B1.out H5.out kr5 (by have := Hg.out; omega)⟩
set_option maxHeartbeats 16000000 in
theorem inUpload_abo {K : Nat} (hK : K <= 1048576) {w : World} {A : Array Value} {x : Cx} {lo hi gc : Nat} {a : Option Addr} {n : Nat} {X : List Bkx} {fa : Option Addr} {fn fc : Nat} {F : List Idd} {G : Bkd -> Cm -> Uld -> Bkd × Outc} (hX : Hid (A = (encX x).toArray)) (hC : Hid (CtC K w lo hi a n X fa fn fc F)) (hk : Hid (w.heap[gc]? = some (.cells #[.slice a n n,.slice fa fn fc] 58 (0, 0)))) (hlo : lo <= w.heap.size)
  (hdo : ∀ (V : World) (b i u p : Nat) (y : Bkx) (v : Ulx), Hid (Bs K V lo hi b n X i y) -> Hid (y.ux[p]? = some v) -> Hid (y.ua = some ⟨u, 0, none⟩) -> Hid (plcB (byU x.cm.u0 x.cm.u1 x.cm.u2) y.bk.uls = p) -> Below w.heap.size w V -> Calls Tryz.prog 74 #[.pointer (some ⟨b, i * 5, none⟩), .pointer (some ⟨u, p * 5, none⟩), .agg A] V fun e w' => ∃ R, e = .returned (.agg R) /\ Hid (DoR K V w' lo hi b n X i y (G y.bk x.cm v.ul) R)) :
  Calls Tryz.prog 71 #[.pointer (some ⟨gc, 0, none⟩), .agg A, .func (.func 74) #[] #[]] w fun e w' => ∃ R, e = .returned (.agg R) /\ Hid (ChR K w w' lo gc (inB ⟨X.map Bkx.bk, F⟩ x.cm (fun b x => upO b x (G b x))) R) := by
 have a18 : A.size = 18 := encX_sz hX.out
 have HDO : Hid (∀ (V : World) (b i u p : Nat) (y : Bkx) (v : Ulx), Hid (Bs K V lo hi b n X i y) -> Hid (y.ux[p]? = some v) -> Hid (y.ua = some ⟨u, 0, none⟩) -> Hid (plcB (byU x.cm.u0 x.cm.u1 x.cm.u2) y.bk.uls = p) -> Below w.heap.size w V -> Calls Tryz.prog 74 #[.pointer (some ⟨b, i * 5, none⟩), .pointer (some ⟨u, p * 5, none⟩), .agg A] V fun e w' => ∃ R, e = .returned (.agg R) /\ Hid (DoR K V w' lo hi b n X i y (G y.bk x.cm v.ul) R)) := hdo
 clear hdo
 obtain ⟨w1, Hw1⟩ := nm (((w.alloc (.cells A 29)).alloc (.cells #[.func (.func 74) #[] #[]] 117)).alloc (.cells #[.int .i64 0,.string ⟨#[]⟩] 51))
 obtain ⟨g, Hg⟩ := nm (w.heap.size)
 have B1 : Hid (Below w.heap.size w w1) := by rw [<- Hw1.out]; exact (alloc2 w _ _).trans ((alloc1 _ _).mono (alloc2 w _ _).size)
 have e1 : (w.alloc (.cells A 29)).heap.size = g + 1 := by simp [← Hg.out]
 have e2 : ((w.alloc (.cells A 29)).alloc (.cells #[.func (.func 74) #[] #[]] 117)).heap.size = g + 2 := by simp [← Hg.out, Nat.add_assoc]
 have kx : Hid (w1.heap[g]? = some (.cells A 29 (0, 0))) := by
  rw [<- Hw1.out, <- Hg.out]
  exact ((alloc1 ((w.alloc (.cells A 29)).alloc (.cells #[.func (.func 74) #[] #[]] 117)) _).block w.heap.size (by simp; omega)).trans (((alloc1 (w.alloc (.cells A 29)) _).block w.heap.size (by simp)).trans (heap_alloc_new w _))
 have kd : Hid (w1.heap[g + 1]? = some (.cells #[.func (.func 74) #[] #[]] 117 (0, 0))) := by
  rw [<- Hw1.out, <- e1]
  exact ((alloc1 ((w.alloc (.cells A 29)).alloc (.cells #[.func (.func 74) #[] #[]] 117)) _).block (w.alloc (.cells A 29)).heap.size (by simp)).trans (heap_alloc_new _ _)
 have kr : Hid (w1.heap[g + 2]? = some (.cells #[.int .i64 0,.string ⟨#[]⟩] 51 (0, 0))) := by
  rw [<- Hw1.out, <- e2]
  exact heap_alloc_new _ _
 clear e1 e2
 have CC : Hid (CtC K w1 lo hi a n X fa fn fc F) := hC.out.below B1.out
 have HK := sh B1 hk
 have hlo1 : lo <= w1.heap.size := Nat.le_trans hlo B1.out.size
 have CL : Hid (Calls Tryz.prog 67 #[.pointer (some ⟨gc, 0, none⟩), .agg A, .func (.func 101) #[] #[.pointer (some ⟨g + 1, 0, none⟩)]] w1 fun e w' => ∃ R, e = .returned (.agg R) /\ Hid (ChR K w1 w' lo gc (inB ⟨X.map Bkx.bk, F⟩ x.cm (fun b x => upO b x (G b x))) R)) :=
  inBucket_up (f := fun b x => upO b x (G b x)) hK hX CC HK hlo1 (fun V b i y hS hB => clo101_abo (G := G y.bk x.cm) hK hX hS (show Hid _ from (hB.block (g + 1) (gl kd.out)).trans kd.out) (fun V2 u p v s1 s2 s3 s4 s5 => HDO.out V2 b i u p y v s1 s2 s3 s4 ((B1.out.trans (hB.mono B1.out.size)).trans (s5.mono (Nat.le_trans B1.out.size hB.size)))))
 go_enter Tryz.func71, Tryz.ntmps71
 go_upto_region 1 with (fail)
 rw [Hw1.out, Hg.out]
 clear Hw1
 go_wp2_with (first
  | (refine wpList_load_row (by rfl) 29 (.tmp 4) (by rfl) g (by rfl) 29 A (0, 0) _ kx.out Tryz.underlying29 rfl (info29 a18) ?_)
  | (go_at_call 67; refine CL.out.mono ?_; rintro e w5 ⟨R, rfl, H5⟩; obtain ⟨kr5, r5, r6, RA⟩ := box_ch kr.out H5.out)
  | (refine wpList_store_row (by rfl) 51 (.tmp 6) (.tmp 10) (by rfl) (g + 2) R (by rfl) (by rfl) 51 _ kr5 r5 (by rw [r6]; rfl) RA ?_))
 refine bodyPost_ret (results_cell_row Tryz.results71 _ _ (g + 2) 51 R (0, 0) _ (by rfl) (setRow_heap _ _ _ _ _ _ kr5) Tryz.underlying51 rfl r5) rfl ?_
 exact ⟨R, rfl, ch_end hlo B1.out H5.out kr5 (by have := Hg.out; omega)⟩
set_option maxHeartbeats 16000000 in
theorem inUpload_com {K : Nat} (hK : K <= 1048576) {w : World} {A : Array Value} {x : Cx} {lo hi gc : Nat} {a : Option Addr} {n : Nat} {X : List Bkx} {fa : Option Addr} {fn fc : Nat} {F : List Idd} {G : Bkd -> Cm -> Uld -> Bkd × Outc} (hX : Hid (A = (encX x).toArray)) (hC : Hid (CtC K w lo hi a n X fa fn fc F)) (hk : Hid (w.heap[gc]? = some (.cells #[.slice a n n,.slice fa fn fc] 58 (0, 0)))) (hlo : lo <= w.heap.size)
  (hdo : ∀ (V : World) (b i u p : Nat) (y : Bkx) (v : Ulx), Hid (Bs K V lo hi b n X i y) -> Hid (y.ux[p]? = some v) -> Hid (y.ua = some ⟨u, 0, none⟩) -> Hid (plcB (byU x.cm.u0 x.cm.u1 x.cm.u2) y.bk.uls = p) -> Below w.heap.size w V -> Calls Tryz.prog 73 #[.pointer (some ⟨b, i * 5, none⟩), .pointer (some ⟨u, p * 5, none⟩), .agg A] V fun e w' => ∃ R, e = .returned (.agg R) /\ Hid (DoR K V w' lo hi b n X i y (G y.bk x.cm v.ul) R)) :
  Calls Tryz.prog 71 #[.pointer (some ⟨gc, 0, none⟩), .agg A, .func (.func 73) #[] #[]] w fun e w' => ∃ R, e = .returned (.agg R) /\ Hid (ChR K w w' lo gc (inB ⟨X.map Bkx.bk, F⟩ x.cm (fun b x => upO b x (G b x))) R) := by
 have a18 : A.size = 18 := encX_sz hX.out
 have HDO : Hid (∀ (V : World) (b i u p : Nat) (y : Bkx) (v : Ulx), Hid (Bs K V lo hi b n X i y) -> Hid (y.ux[p]? = some v) -> Hid (y.ua = some ⟨u, 0, none⟩) -> Hid (plcB (byU x.cm.u0 x.cm.u1 x.cm.u2) y.bk.uls = p) -> Below w.heap.size w V -> Calls Tryz.prog 73 #[.pointer (some ⟨b, i * 5, none⟩), .pointer (some ⟨u, p * 5, none⟩), .agg A] V fun e w' => ∃ R, e = .returned (.agg R) /\ Hid (DoR K V w' lo hi b n X i y (G y.bk x.cm v.ul) R)) := hdo
 clear hdo
 obtain ⟨w1, Hw1⟩ := nm (((w.alloc (.cells A 29)).alloc (.cells #[.func (.func 73) #[] #[]] 117)).alloc (.cells #[.int .i64 0,.string ⟨#[]⟩] 51))
 obtain ⟨g, Hg⟩ := nm (w.heap.size)
 have B1 : Hid (Below w.heap.size w w1) := by rw [<- Hw1.out]; exact (alloc2 w _ _).trans ((alloc1 _ _).mono (alloc2 w _ _).size)
 have e1 : (w.alloc (.cells A 29)).heap.size = g + 1 := by simp [← Hg.out]
 have e2 : ((w.alloc (.cells A 29)).alloc (.cells #[.func (.func 73) #[] #[]] 117)).heap.size = g + 2 := by simp [← Hg.out, Nat.add_assoc]
 have kx : Hid (w1.heap[g]? = some (.cells A 29 (0, 0))) := by
  rw [<- Hw1.out, <- Hg.out]
  exact ((alloc1 ((w.alloc (.cells A 29)).alloc (.cells #[.func (.func 73) #[] #[]] 117)) _).block w.heap.size (by simp; omega)).trans (((alloc1 (w.alloc (.cells A 29)) _).block w.heap.size (by simp)).trans (heap_alloc_new w _))
 have kd : Hid (w1.heap[g + 1]? = some (.cells #[.func (.func 73) #[] #[]] 117 (0, 0))) := by
  rw [<- Hw1.out, <- e1]
  exact ((alloc1 ((w.alloc (.cells A 29)).alloc (.cells #[.func (.func 73) #[] #[]] 117)) _).block (w.alloc (.cells A 29)).heap.size (by simp)).trans (heap_alloc_new _ _)
 have kr : Hid (w1.heap[g + 2]? = some (.cells #[.int .i64 0,.string ⟨#[]⟩] 51 (0, 0))) := by
  rw [<- Hw1.out, <- e2]
  exact heap_alloc_new _ _
 clear e1 e2
 have CC : Hid (CtC K w1 lo hi a n X fa fn fc F) := hC.out.below B1.out
 have HK := sh B1 hk
 have hlo1 : lo <= w1.heap.size := Nat.le_trans hlo B1.out.size
 have CL : Hid (Calls Tryz.prog 67 #[.pointer (some ⟨gc, 0, none⟩), .agg A, .func (.func 101) #[] #[.pointer (some ⟨g + 1, 0, none⟩)]] w1 fun e w' => ∃ R, e = .returned (.agg R) /\ Hid (ChR K w1 w' lo gc (inB ⟨X.map Bkx.bk, F⟩ x.cm (fun b x => upO b x (G b x))) R)) :=
  inBucket_up (f := fun b x => upO b x (G b x)) hK hX CC HK hlo1 (fun V b i y hS hB => clo101_com (G := G y.bk x.cm) hK hX hS (show Hid _ from (hB.block (g + 1) (gl kd.out)).trans kd.out) (fun V2 u p v s1 s2 s3 s4 s5 => HDO.out V2 b i u p y v s1 s2 s3 s4 ((B1.out.trans (hB.mono B1.out.size)).trans (s5.mono (Nat.le_trans B1.out.size hB.size)))))
 go_enter Tryz.func71, Tryz.ntmps71
 go_upto_region 1 with (fail)
 rw [Hw1.out, Hg.out]
 clear Hw1
 go_wp2_with (first
  | (refine wpList_load_row (by rfl) 29 (.tmp 4) (by rfl) g (by rfl) 29 A (0, 0) _ kx.out Tryz.underlying29 rfl (info29 a18) ?_)
  | (go_at_call 67; refine CL.out.mono ?_; rintro e w5 ⟨R, rfl, H5⟩; obtain ⟨kr5, r5, r6, RA⟩ := box_ch kr.out H5.out)
  | (refine wpList_store_row (by rfl) 51 (.tmp 6) (.tmp 10) (by rfl) (g + 2) R (by rfl) (by rfl) 51 _ kr5 r5 (by rw [r6]; rfl) RA ?_))
 refine bodyPost_ret (results_cell_row Tryz.results71 _ _ (g + 2) 51 R (0, 0) _ (by rfl) (setRow_heap _ _ _ _ _ _ kr5) Tryz.underlying51 rfl r5) rfl ?_
 exact ⟨R, rfl, ch_end hlo B1.out H5.out kr5 (by have := Hg.out; omega)⟩
def inC (C : Ctd) (x : Cm) (f : Bkd -> Ctd × Outc) : Ctd × Outc :=
 if isB (byN x.bu) C.bks then
  match C.bks[plcB (byN x.bu) C.bks]? with
  | none => (C, noO 1)
  | some b => f b
 else (C, noO 1)
set_option maxHeartbeats 16000000 in
theorem inBucket_drop {K : Nat} (hK : K <= 1048576) {w : World} {A : Array Value} {x : Cx} {lo hi gc : Nat} {a : Option Addr} {n : Nat} {X : List Bkx} {fa : Option Addr} {fn fc : Nat} {F : List Idd} {gd : Nat} {f : Bkd -> Ctd × Outc} (hX : Hid (A = (encX x).toArray)) (hC : Hid (CtC K w lo hi a n X fa fn fc F)) (hk : Hid (w.heap[gc]? = some (.cells #[.slice a n n,.slice fa fn fc] 58 (0, 0)))) (hlo : lo <= w.heap.size)
  (hdo : ∀ (V : World) (b i : Nat) (y : Bkx), Hid (Bs K V lo hi b n X i y) -> a = some ⟨b, 0, none⟩ -> Below w.heap.size w V -> Calls Tryz.prog 93 #[.pointer (some ⟨b, i * 5, none⟩), .agg A, .pointer (some ⟨gd, 0, none⟩)] V fun e w' => ∃ R, e = .returned (.agg R) /\ Hid (ChR K V w' lo gc (f y.bk) R)) :
  Calls Tryz.prog 67 #[.pointer (some ⟨gc, 0, none⟩), .agg A, .func (.func 93) #[] #[.pointer (some ⟨gd, 0, none⟩)]] w fun e w' => ∃ R, e = .returned (.agg R) /\ Hid (ChR K w w' lo gc (inC ⟨X.map Bkx.bk, F⟩ x.cm f) R) := by
 have a18 : A.size = 18 := encX_sz hX.out
 have A4 : Hid (A[4]? = some (.string x.cm.bu)) := by rw [hX.out]; rfl
 have HDO : Hid (∀ (V : World) (b i : Nat) (y : Bkx), Hid (Bs K V lo hi b n X i y) -> a = some ⟨b, 0, none⟩ -> Below w.heap.size w V -> Calls Tryz.prog 93 #[.pointer (some ⟨b, i * 5, none⟩), .agg A, .pointer (some ⟨gd, 0, none⟩)] V fun e w' => ∃ R, e = .returned (.agg R) /\ Hid (ChR K V w' lo gc (f y.bk) R)) := hdo
 clear hdo
 have LX : Hid (n = X.length) := hC.out.b.len
 obtain ⟨w1, Hw1⟩ := nm ((w.alloc (.cells A 29)).alloc (.cells #[.int .i64 0,.string ⟨#[]⟩] 51))
 obtain ⟨g, Hg⟩ := nm (w.heap.size)
 have B1 : Hid (Below w.heap.size w w1) := by rw [<- Hw1.out]; exact alloc2 w _ _
 have kx : Hid (w1.heap[g]? = some (.cells A 29 (0, 0))) := by
  rw [<- Hw1.out, <- Hg.out]
  exact ((alloc1 (w.alloc (.cells A 29)) _).block w.heap.size (by simp)).trans (heap_alloc_new w _)
 have kr : Hid (w1.heap[g + 1]? = some (.cells #[.int .i64 0,.string ⟨#[]⟩] 51 (0, 0))) := by
  rw [<- Hw1.out, <- Hg.out]
  have e : (w.alloc (.cells A 29)).heap.size = w.heap.size + 1 := by simp
  rw [<- e]
  exact heap_alloc_new _ _
 have K0 : Cq2 w1.drew gc g A a n fa fn fc := ⟨(B1.out.block _ (gl hk.out)).trans hk.out, kx.out⟩
 have AD : Hid (Rw w1.drew lo hi 65 EBk a n n X) := (hC.out.b.below B1.out).keep (fun _ _ _ _ => rfl)
 have hnK : n <= 1048576 := Nat.le_trans hC.out.k.1 hK
 obtain ⟨p, Hp⟩ := nm (plcB (byN x.cm.bu) (X.map Bkx.bk))
 obtain ⟨is, HIS⟩ := nm (isB (byN x.cm.bu) (X.map Bkx.bk))
 go_enter Tryz.func67, Tryz.ntmps67
 go_upto_region 1 with (fail)
 rw [Hw1.out, Hg.out]
 clear Hw1
 refine wp_region_till (S := fun L W => Cq2 W gc g A a n fa fn fc) (by kernel_rfl) K0 (fun hS => ?_)
 clear K0
 refine tkg (i := 0) (v := .pointer (some ⟨gc, 0, none⟩)) rfl hS (fun hSb => ?_)
 simp only [pA,pB,pC,Act.put,pD,pE,pF]
 clear hS
 refine tkg (i := 1) (v := .pointer (some ⟨gc, 0, none⟩)) rfl hSb (fun hS => ?_)
 simp only [pA,pB,pC,Act.put,pD,pE,pF]
 clear hSb
 refine tkg (i := 2) (v := .pointer (some ⟨gc, 0, none⟩)) rfl hS (fun hSb => ?_)
 simp only [pA,pB,pC,Act.put,pD,pE,pF]
 clear hS
 refine trx (i := 3) (c := 6) (v := .slice a n n) rfl rfl (Or.inl ⟨by rfl, fun w h => by have q9 := h.c0; go_simp⟩) hSb (fun hS => ?_)
 simp only [pA,pB,pC,Act.put,pD,pE,pF]
 clear hSb
 refine tkg (i := 4) (v := .pointer (some ⟨g, 4, none⟩)) rfl hS (fun hSb => ?_)
 simp only [pA,pB,pC,Act.put,pD,pE,pF]
 clear hS
 refine trx (i := 5) (c := 6) (v := .string x.cm.bu) rfl rfl (Or.inl ⟨by rfl, fun w h => by have q9 := cell_arr h.x A4.out; go_simp⟩) hSb (fun hS => ?_)
 simp only [pA,pB,pC,Act.put,pD,pE,pF]
 clear hSb
 refine till_one (i := 6) (by kernel_rfl) rfl (fun K hK => ?_)
 simp only [pA,pB,pC]
 rw [if_pos (by rfl)]
 go_simp
 go_wp2_with (go_at_call 49; refine (findB x.cm.bu AD hnK).mono ?_; rintro e w2 ⟨rfl, H2⟩; rw [Hp.out, HIS.out])
 refine hK.out _ _ (hS.below H2.out) (fun hSb => ?_)
 clear hK K
 try simp only [pA,pB,pC,Act.put,pD,pE,pF]
 clear hS
 refine tkg (i := 7) (v := .tuple #[.int .i64 (p : Int), .bool is]) rfl hSb (fun hS => ?_)
 simp only [pA,pB,pC,Act.put,pD,pE,pF]
 clear hSb
 refine tkg (i := 8) (v := .int .i64 (p : Int)) rfl hS (fun hSb => ?_)
 simp only [pA,pB,pC,Act.put,pD,pE,pF]
 clear hS
 refine tkg (i := 9) (v := .bool is) rfl hSb (fun hS => ?_)
 simp only [pA,pB,pC,Act.put,pD,pE,pF]
 clear hSb
 refine till_one (i := 10) (by kernel_rfl) rfl (fun K hK => ?_)
 simp only [pA,pB,pC]
 rw [if_pos (by rfl)]
 go_simp
 refine hK.out _ _ (hS) (fun hSb => ?_)
 clear hK K
 try simp only [pA,pB,pC,Act.put,pD,pE,pF]
 clear hS
 refine till_one (i := 11) (by kernel_rfl) rfl (fun K hK => ?_)
 simp only [pA,pB,pC]
 rw [if_pos (by rfl)]
 go_simp
 refine hK.out _ _ (hSb) (fun hS => ?_)
 clear hK K
 try simp only [pA,pB,pC,Act.put,pD,pE,pF]
 clear hSb
 have S3 := hS
 refine till_done (by kernel_rfl) ?_ _
 clear hS
 show (Exit.then _ _) .normal _ _
 have S3h : Hid (Cq2 w2 gc g A a n fa fn fc) := S3
 clear S3
 have B2 : Hid (Below w.heap.size w w2) := (B1.out.drew).trans (H2.out.mono B1.out.size)
 have kr2 := sh H2 kr
 clear H2 AD kr kx B1
 rcases is with _ | _
 . have IB : Hid (inC ⟨X.map Bkx.bk, F⟩ x.cm f = (⟨X.map Bkx.bk, F⟩, noO 1)) := by show _ = _; unfold inC; simp only; rw [HIS.out]; rfl
   obtain ⟨R, HR⟩ := nm ((#[.int .i64 1,.string ⟨#[]⟩] : Array Value))
   have a5' : (Tryz.prog.info? 51).map (·.size) = some R.size := by rw [<- HR.out]; exact outZ
   have AA : Hid (R.all (·.oneCell') = true) := (show R.all (·.oneCell') = true by rw [<- HR.out]; kernel_rfl)
   have a6' : Hid (R.size = 2) := (show R.size = 2 by rw [<- HR.out]; rfl)
   go_wp2_with (first
    | (go_at_call 78; refine (refused_n 1 _).mono ?_; rintro e w7 ⟨rfl, H7⟩; rw [HR.out]; have r7 := sh H7 kr2)
    | (refine wpList_store_row (by rfl) 51 (.tmp 6) (.tmp 21) (by rfl) (g + 1) R (by rfl) (by rfl) 51 _ r7.out a5' (by rw [a6'.out]; rfl) AA.out ?_))
   refine bodyPost_ret (results_cell_row Tryz.results67 _ _ (g + 1) 51 R (0, 0) _ (by rfl) (setRow_heap _ _ _ _ _ _ r7.out) Tryz.underlying51 rfl a5') rfl ?_
   refine ⟨R, rfl, ?_⟩
   rw [IB.out]
   have B7 : Below w.heap.size w w7 := B2.out.trans (H7.out.mono B2.out.size)
   have hg1 : w.heap.size <= g + 1 := by have := Hg.out; omega
   have B8 : Below w.heap.size w (w7.setRow (g + 1) R) := below_setRow B7 hg1 _
   exact ⟨HR.out.symm, a, n, n, X, fa, fn, fc, F, (B8.block gc (gl hk.out)).trans hk.out, ((hC.out.ct.below B8).up (Nat.le_succ K)).full, rfl, rfl, B8.mono hlo, K51.below B8⟩
 . have pl : p < n := by rw [<- Hp.out, LX.out]; rw [<- List.length_map (f := Bkx.bk)]; exact isB_lt HIS.out
   have i1 : (p : Int) < (n : Int) := by omega
   obtain ⟨b, EB, _, _, _⟩ := hC.out.b.at_ (i := p) (by rw [<- LX.out]; exact pl)
   have HEB : Hid (a = some ⟨b, 0, none⟩) := EB
   rw [EB] at hC hk S3h
   clear EB
   obtain ⟨y, EY⟩ : ∃ y, Hid (X[p]? = some y) := ⟨X[p]'(by rw [<- LX.out]; exact pl), List.getElem?_eq_getElem _⟩
   have IB : Hid (inC ⟨X.map Bkx.bk, F⟩ x.cm f = f y.bk) := by show _ = _; unfold inC; simp only; rw [HIS.out, if_pos rfl, Hp.out, List.getElem?_map, EY.out]; rfl
   go_upto_region 4 with (fail)
   obtain ⟨wd, Hwd⟩ := nm (w2.drew)
   have BD : Hid (Below w.heap.size w wd) := by rw [<- Hwd.out]; exact B2.out.drew
   have CC : Hid (CtC K wd lo hi (some ⟨b, 0, none⟩) n X fa fn fc F) := hC.out.below BD.out
   have SD : Hid (Bs K wd lo hi b n X p y) := ⟨CC.out.b, EY.out, CC.out.bb y (List.mem_of_getElem? EY.out)⟩
   have KD : Hid (Cq2 wd gc g A (some ⟨b, 0, none⟩) n fa fn fc) := by rw [<- Hwd.out]; exact ⟨S3h.out.k, S3h.out.x⟩
   have KRD : Hid (wd.heap[g + 1]? = some (.cells #[.int .i64 0,.string ⟨#[]⟩] 51 (0, 0))) := by rw [<- Hwd.out]; exact kr2.out
   refine wp_region_till (S := tillP 8 (fun W => Cq2 W gc g A (some ⟨b, 0, none⟩) n fa fn fc)) (by kernel_rfl) (.inr (by rw [Hwd.out]; exact KD.out)) (fun hS => ?_)
   rw [Hwd.out] at hS ⊢
   clear Hwd
   refine tkp (i := 0) (v := .func (.func 93) #[] #[.pointer (some ⟨gd, 0, none⟩)]) rfl hS (fun hSb => ?_)
   simp only [pA,pB,pC,Act.put,pD,pE,pF]
   clear hS
   refine tkp (i := 1) (v := .pointer (some ⟨gc, 0, none⟩)) rfl hSb (fun hS => ?_)
   simp only [pA,pB,pC,Act.put,pD,pE,pF]
   clear hSb
   refine tkp (i := 2) (v := .pointer (some ⟨gc, 0, none⟩)) rfl hS (fun hSb => ?_)
   simp only [pA,pB,pC,Act.put,pD,pE,pF]
   clear hS
   refine tkp (i := 3) (v := .pointer (some ⟨gc, 0, none⟩)) rfl hSb (fun hS => ?_)
   simp only [pA,pB,pC,Act.put,pD,pE,pF]
   clear hSb
   refine till_readc (i := 4) (cs := [6, 8]) (v := .slice (some ⟨b, 0, none⟩) n n) (T := fun W => Cq2 W gc g A (some ⟨b, 0, none⟩) n fa fn fc) rfl (by kernel_rfl) (by kernel_rfl) (by kernel_rfl) (by kernel_rfl) (by kernel_rfl) (fun _ _ _ h => h) (fun L w => tillP_set (by decide)) (fun L w h1 h2 => tillP_out (h1 8 (by simp)) h2) (Or.inl ⟨by rfl, fun w h => by have q9 := h.c0; go_simp⟩) hS (fun hSb => ?_)
   simp only [pA,pB,pC,Act.put,pD,pE,pF]
   clear hS
   refine tkp (i := 5) (v := .int .i64 (p : Int)) rfl hSb (fun hS => ?_)
   simp only [pA,pB,pC,Act.put,pD,pE,pF]
   clear hSb
   refine tkp (i := 6) (v := .pointer (some ⟨b, p * 5, none⟩)) rfl hS (fun hSb => ?_)
   simp only [pA,pB,pC,Act.put,pD,pE,pF]
   clear hS
   refine trd (i := 7) (c := 8) (v := .agg A) (T := fun W => Cq2 W gc g A (some ⟨b, 0, none⟩) n fa fn fc) rfl rfl (fun L w => tillP_set (by decide)) (fun L w h1 h2 => tillP_out h1 h2) (yl_any (by rfl) (by rfl) (by rfl) (fun W h => run_loadVar_row W g 29 29 A (0, 0) _ h.x Tryz.underlying29 rfl (info29 a18))) hSb (fun hS => ?_)
   simp only [pA,pB,pC,Act.put,pD,pE,pF]
   clear hSb
   refine till_one (i := 8) (by kernel_rfl) rfl (fun K hK => ?_)
   simp only [pA,pB,pC]
   rw [if_pos (by rfl)]
   go_simp
   go_wp2_with (go_at_call 93; refine (HDO.out wd b p y SD HEB.out BD.out).mono ?_; rintro e w5 ⟨R, rfl, H5⟩)
   refine hK.out _ _ (Or.inl (by kernel_rfl)) (fun hSb => ?_)
   clear hK K
   try simp only [pA,pB,pC,Act.put,pD,pE,pF]
   clear hS
   refine till_one (i := 9) (by kernel_rfl) rfl (fun K hK => ?_)
   simp only [pA,pB,pC]
   rw [if_pos (by rfl)]
   obtain ⟨kr5, r5, r6, RA⟩ := box_ch KRD.out H5.out
   refine wp_store_row 51 (.tmp 6) (.tmp 30) (by rfl) (g + 1) R (by rfl) (by rfl) 51 _ kr5 r5 (by rw [r6]; rfl) RA ?_
   refine hK.out _ _ (Or.inl (by kernel_rfl)) (fun hS => ?_)
   clear hK K
   try simp only [pA,pB,pC,Act.put,pD,pE,pF]
   clear hSb
   refine till_done (by kernel_rfl) ?_ _
   clear hS
   show (Exit.then _ _) .normal _ _
   go_wp2
   refine bodyPost_ret (results_cell_row Tryz.results67 _ _ (g + 1) 51 R (0, 0) _ (by rfl) (setRow_heap _ _ _ _ _ _ kr5) Tryz.underlying51 rfl r5) rfl ?_
   refine ⟨R, rfl, ?_⟩
   rw [IB.out]
   exact ch_end hlo BD.out H5.out kr5 (by have := Hg.out; omega)
def droB (b : Bkd) (C : Ctd) (x : Cm) : Ctd × Outc := if b.obs ≠ [] ∨ b.uls ≠ [] then (C, noO 5) else (⟨outB (byN x.bu) C.bks, C.fls⟩, okO)
set_option maxHeartbeats 16000000 in
theorem clo93 {K : Nat} (hK : K <= 1048576) {w : World} {A : Array Value} {x : Cx} {lo hi gc gd b n : Nat} {X : List Bkx} {fa : Option Addr} {fn fc : Nat} {F : List Idd} {i : Nat} {y : Bkx} (hX : Hid (A = (encX x).toArray)) (hC : Hid (CtC K w lo hi (some ⟨b, 0, none⟩) n X fa fn fc F)) (hk : Hid (w.heap[gc]? = some (.cells #[.slice (some ⟨b, 0, none⟩) n n,.slice fa fn fc] 58 (0, 0)))) (hD : Hid (w.heap[gd]? = some (.cells #[.pointer (some ⟨gc, 0, none⟩)] 97 (0, 0)))) (hlo : lo <= w.heap.size) (hgc : lo <= gc) (hB : Hid (Bs K w lo hi b n X i y)) :
  Calls Tryz.prog 93 #[.pointer (some ⟨b, i * 5, none⟩), .agg A, .pointer (some ⟨gd, 0, none⟩)] w fun e w' => ∃ R, e = .returned (.agg R) /\ Hid (ChR K w w' lo gc (droB y.bk ⟨X.map Bkx.bk, F⟩ x.cm) R) := by
 have a18 : A.size = 18 := encX_sz hX.out
 obtain ⟨w1, Hw1⟩ := nm ((w.alloc (.cells A 29)).alloc (.cells #[.int .i64 0,.string ⟨#[]⟩] 51))
 obtain ⟨g, Hg⟩ := nm (w.heap.size)
 have B1 : Hid (Below w.heap.size w w1) := by rw [<- Hw1.out]; exact alloc2 w _ _
 have kx : Hid (w1.heap[g]? = some (.cells A 29 (0, 0))) := by
  rw [<- Hw1.out, <- Hg.out]
  exact ((alloc1 (w.alloc (.cells A 29)) _).block w.heap.size (by simp)).trans (heap_alloc_new w _)
 have kr : Hid (w1.heap[g + 1]? = some (.cells #[.int .i64 0,.string ⟨#[]⟩] 51 (0, 0))) := by
  rw [<- Hw1.out, <- Hg.out]
  have e : (w.alloc (.cells A 29)).heap.size = w.heap.size + 1 := by simp
  rw [<- e]
  exact heap_alloc_new _ _
 have S1 : Hid (Bs K w1 lo hi b n X i y) := hB.out.below B1.out
 go_enter Tryz.func93, Tryz.ntmps93
 go_upto_region 1 with (fail)
 rw [Hw1.out, Hg.out]
 clear Hw1
 have A4 : Hid (A[4]? = some (.string x.cm.bu)) := by rw [hX.out]; rfl
 have q1 := S1.out.c3
 have q2 := S1.out.c4
 have LO : Hid (y.on = y.ox.length) := S1.out.c.b.o.len
 have LU : Hid (y.un = y.ux.length) := S1.out.c.b.u.len
 by_cases ho : 0 < y.on
 . have i1 : (0 : Int) < (y.on : Int) := by omega
   have IB : Hid (droB y.bk ⟨X.map Bkx.bk, F⟩ x.cm = (⟨X.map Bkx.bk, F⟩, noO 5)) := if_pos (.inl (fun e => by have h := congrArg List.length e; have h2 := LO.out; simp [Bkx.bk] at h; rw [h] at h2; simp at h2; omega))
   obtain ⟨R, HR⟩ := nm ((#[.int .i64 5,.string ⟨#[]⟩] : Array Value))
   have a5' : (Tryz.prog.info? 51).map (·.size) = some R.size := by rw [<- HR.out]; exact outZ
   have AA : Hid (R.all (·.oneCell') = true) := (show R.all (·.oneCell') = true by rw [<- HR.out]; kernel_rfl)
   have a6' : Hid (R.size = 2) := (show R.size = 2 by rw [<- HR.out]; rfl)
   go_wp2_with (first
    | (go_at_call 78; refine (refused_n 5 _).mono ?_; rintro e w7 ⟨rfl, H7⟩; rw [HR.out]; have r7 := sh H7 kr)
    | (refine wpList_store_row (by rfl) 51 (.tmp 5) (.tmp 20) (by rfl) (g + 1) R (by rfl) (by rfl) 51 _ r7.out a5' (by rw [a6'.out]; rfl) AA.out ?_))
   refine bodyPost_ret (results_cell_row Tryz.results93 _ _ (g + 1) 51 R (0, 0) _ (by rfl) (setRow_heap _ _ _ _ _ _ r7.out) Tryz.underlying51 rfl a5') rfl ?_
   refine ⟨R, rfl, ?_⟩
   rw [IB.out]
   have B7 : Below w.heap.size w w7 := B1.out.trans (H7.out.mono B1.out.size)
   have hg1 : w.heap.size <= g + 1 := by have := Hg.out; omega
   have B8 : Below w.heap.size w (w7.setRow (g + 1) R) := below_setRow B7 hg1 _
   exact ⟨HR.out.symm, some ⟨b, 0, none⟩, n, n, X, fa, fn, fc, F, (B8.block gc (gl hk.out)).trans hk.out, ((hC.out.ct.below B8).up (Nat.le_succ K)).full, rfl, rfl, B8.mono hlo, K51.below B8⟩
 . have o0 : y.on = 0 := by omega
   rw [o0] at q1
   by_cases hu : 0 < y.un
   . have i1 : (0 : Int) < (y.un : Int) := by omega
     have IB : Hid (droB y.bk ⟨X.map Bkx.bk, F⟩ x.cm = (⟨X.map Bkx.bk, F⟩, noO 5)) := if_pos (.inr (fun e => by have h := congrArg List.length e; have h2 := LU.out; simp [Bkx.bk] at h; rw [h] at h2; simp at h2; omega))
     obtain ⟨R, HR⟩ := nm ((#[.int .i64 5,.string ⟨#[]⟩] : Array Value))
     have a5' : (Tryz.prog.info? 51).map (·.size) = some R.size := by rw [<- HR.out]; exact outZ
     have AA : Hid (R.all (·.oneCell') = true) := (show R.all (·.oneCell') = true by rw [<- HR.out]; kernel_rfl)
     have a6' : Hid (R.size = 2) := (show R.size = 2 by rw [<- HR.out]; rfl)
     go_wp2_with (first
      | (go_at_call 78; refine (refused_n 5 _).mono ?_; rintro e w7 ⟨rfl, H7⟩; rw [HR.out]; have r7 := sh H7 kr)
      | (refine wpList_store_row (by rfl) 51 (.tmp 5) (.tmp 20) (by rfl) (g + 1) R (by rfl) (by rfl) 51 _ r7.out a5' (by rw [a6'.out]; rfl) AA.out ?_))
     refine bodyPost_ret (results_cell_row Tryz.results93 _ _ (g + 1) 51 R (0, 0) _ (by rfl) (setRow_heap _ _ _ _ _ _ r7.out) Tryz.underlying51 rfl a5') rfl ?_
     refine ⟨R, rfl, ?_⟩
     rw [IB.out]
     have B7 : Below w.heap.size w w7 := B1.out.trans (H7.out.mono B1.out.size)
     have hg1 : w.heap.size <= g + 1 := by have := Hg.out; omega
     have B8 : Below w.heap.size w (w7.setRow (g + 1) R) := below_setRow B7 hg1 _
     exact ⟨HR.out.symm, some ⟨b, 0, none⟩, n, n, X, fa, fn, fc, F, (B8.block gc (gl hk.out)).trans hk.out, ((hC.out.ct.below B8).up (Nat.le_succ K)).full, rfl, rfl, B8.mono hlo, K51.below B8⟩
   . have u0 : y.un = 0 := by omega
     rw [u0] at q2
     have IB : Hid (droB y.bk ⟨X.map Bkx.bk, F⟩ x.cm = (⟨outB (byN x.cm.bu) (X.map Bkx.bk), F⟩, okO)) := if_neg (fun h => by
      have h1 : y.ox = [] := List.length_eq_zero_iff.1 (by have := LO.out; omega)
      have h2 : y.ux = [] := List.length_eq_zero_iff.1 (by have := LU.out; omega)
      simp [Bkx.bk, h1, h2] at h)
     go_upto_region 3 with (fail)
     clear q1 q2
     obtain ⟨wd, Hwd⟩ := nm (w1.drew)
     have BD : Hid (Below w.heap.size w wd) := by rw [<- Hwd.out]; exact B1.out.drew
     have CC : Hid (CtC K wd lo hi (some ⟨b, 0, none⟩) n X fa fn fc F) := hC.out.below BD.out
     have RB : Hid (Rw wd lo hi 65 EBk (some ⟨b, 0, none⟩) n n X) := CC.out.b
     have KD : Hid (Cq2 wd gc g A (some ⟨b, 0, none⟩) n fa fn fc /\ wd.heap[gd]? = some (.cells #[.pointer (some ⟨gc, 0, none⟩)] 97 (0, 0))) := ⟨⟨(BD.out.block gc (gl hk.out)).trans hk.out, by rw [<- Hwd.out]; exact kx.out⟩, (BD.out.block gd (gl hD.out)).trans hD.out⟩
     have KRD : Hid (wd.heap[g + 1]? = some (.cells #[.int .i64 0,.string ⟨#[]⟩] 51 (0, 0))) := by rw [<- Hwd.out]; exact kr.out
     have hlo5 : lo <= wd.heap.size := Nat.le_trans hlo BD.out.size
     have hnK : n <= 1048576 := Nat.le_trans CC.out.k.1 hK
     refine wp_region_till (S := tillP 10 (fun W => Cq2 W gc g A (some ⟨b, 0, none⟩) n fa fn fc /\ W.heap[gd]? = some (.cells #[.pointer (some ⟨gc, 0, none⟩)] 97 (0, 0)))) (by kernel_rfl) (.inr (by rw [Hwd.out]; exact KD.out)) (fun hS => ?_)
     rw [Hwd.out] at hS ⊢
     clear Hwd
     refine trd (i := 0) (c := 10) (v := .pointer (some ⟨gc, 0, none⟩)) (T := fun W => Cq2 W gc g A (some ⟨b, 0, none⟩) n fa fn fc /\ W.heap[gd]? = some (.cells #[.pointer (some ⟨gc, 0, none⟩)] 97 (0, 0))) rfl rfl (fun L w => tillP_set (by decide)) (fun L w h1 h2 => tillP_out h1 h2) (Or.inl ⟨by rfl, fun w h => by have q9 := cell_arr (i := 0) h.2 rfl; go_simp⟩) hS (fun hSb => ?_)
     simp only [pA,pB,pC,Act.put,pD,pE,pF]
     clear hS
     refine trd (i := 1) (c := 10) (v := .pointer (some ⟨gc, 0, none⟩)) (T := fun W => Cq2 W gc g A (some ⟨b, 0, none⟩) n fa fn fc /\ W.heap[gd]? = some (.cells #[.pointer (some ⟨gc, 0, none⟩)] 97 (0, 0))) rfl rfl (fun L w => tillP_set (by decide)) (fun L w h1 h2 => tillP_out h1 h2) (Or.inl ⟨by rfl, fun w h => by have q9 := cell_arr (i := 0) h.2 rfl; go_simp⟩) hSb (fun hS => ?_)
     simp only [pA,pB,pC,Act.put,pD,pE,pF]
     clear hSb
     refine tkp (i := 2) (v := .pointer (some ⟨gc, 0, none⟩)) rfl hS (fun hSb => ?_)
     simp only [pA,pB,pC,Act.put,pD,pE,pF]
     clear hS
     refine tkp (i := 3) (v := .pointer (some ⟨gc, 0, none⟩)) rfl hSb (fun hS => ?_)
     simp only [pA,pB,pC,Act.put,pD,pE,pF]
     clear hSb
     refine trd (i := 4) (c := 10) (v := .slice (some ⟨b, 0, none⟩) n n) (T := fun W => Cq2 W gc g A (some ⟨b, 0, none⟩) n fa fn fc /\ W.heap[gd]? = some (.cells #[.pointer (some ⟨gc, 0, none⟩)] 97 (0, 0))) rfl rfl (fun L w => tillP_set (by decide)) (fun L w h1 h2 => tillP_out h1 h2) (Or.inl ⟨by rfl, fun w h => by have q9 := h.1.c0; go_simp⟩) hS (fun hSb => ?_)
     simp only [pA,pB,pC,Act.put,pD,pE,pF]
     clear hS
     refine tkp (i := 5) (v := .pointer (some ⟨g, 4, none⟩)) rfl hSb (fun hS => ?_)
     simp only [pA,pB,pC,Act.put,pD,pE,pF]
     clear hSb
     refine trd (i := 6) (c := 10) (v := .string x.cm.bu) (T := fun W => Cq2 W gc g A (some ⟨b, 0, none⟩) n fa fn fc /\ W.heap[gd]? = some (.cells #[.pointer (some ⟨gc, 0, none⟩)] 97 (0, 0))) rfl rfl (fun L w => tillP_set (by decide)) (fun L w h1 h2 => tillP_out h1 h2) (Or.inl ⟨by rfl, fun w h => by have q9 := cell_arr h.1.x A4.out; go_simp⟩) hS (fun hSb => ?_)
     simp only [pA,pB,pC,Act.put,pD,pE,pF]
     clear hS
     refine till_one (i := 7) (by kernel_rfl) rfl (fun K hK => ?_)
     simp only [pA,pB,pC]
     rw [if_pos (by rfl)]
     go_simp
     go_wp2_with (go_at_call 94; refine (out_B x.cm.bu RB hnK).mono ?_; rintro e w5 ⟨n5, rfl, H5⟩)
     have S5 : Cq2 w5 gc g A (some ⟨b, 0, none⟩) n fa fn fc := cq_set KD.out.1 RB.out H5.out.2
     have D5 : w5.heap[gd]? = some (.cells #[.pointer (some ⟨gc, 0, none⟩)] 97 (0, 0)) := (H5.out.2.block gd (gl KD.out.2) (fun e => by have h2 := KD.out.2; obtain ⟨cur, h1, _⟩ := RB.out.blk e; rw [h1] at h2; simp at h2)).trans KD.out.2
     refine hK.out _ _ (Or.inr ⟨S5, D5⟩) (fun hS => ?_)
     clear hK K
     try simp only [pA,pB,pC,Act.put,pD,pE,pF]
     clear hSb
     refine tkp (i := 8) (v := .pointer (some ⟨gc, 0, none⟩)) rfl hS (fun hSb => ?_)
     simp only [pA,pB,pC,Act.put,pD,pE,pF]
     clear hS
     refine tkp (i := 9) (v := .pointer (some ⟨gc, 0, none⟩)) rfl hSb (fun hS => ?_)
     simp only [pA,pB,pC,Act.put,pD,pE,pF]
     clear hSb
     refine till_one (i := 10) (by kernel_rfl) rfl (fun K hK => ?_)
     simp only [pA,pB,pC]
     rw [if_pos (by rfl)]
     have q9 := S5.c0
     have q8 : w5.frozen? ⟨gc, 0, none⟩ = false := by have h := S5.k; simp [World.frozen?, h]
     go_simp
     refine hK.out _ _ (Or.inl (by kernel_rfl)) (fun hSb => ?_)
     clear hK K
     try simp only [pA,pB,pC,Act.put,pD,pE,pF]
     clear hS
     refine till_done (by kernel_rfl) ?_ _
     clear hSb
     show (Exit.then _ _) .normal _ _
     have kr5 : Hid (w5.heap[g + 1]? = some (.cells #[.int .i64 0,.string ⟨#[]⟩] 51 (0, 0))) := (H5.out.2.block _ (gl KRD.out) (fun e => by
      obtain ⟨cur, h1, _⟩ := RB.out.blk e
      have h2 := KRD.out
      rw [h1] at h2
      simp at h2)).trans KRD.out
     have k5 : Hid (w5.heap[gc]? = some (.cells #[.slice (some ⟨b, 0, none⟩) n n,.slice fa fn fc] 58 (0, 0))) := S5.k
     have CO5 : Hid (CtO (K + 1) w5 lo w5.heap.size (some ⟨b, 0, none⟩) n5 n (outX (byN x.cm.bu) Bkx.bk X) fa fn fc F) := by
      refine ⟨H5.out.1.full, fun z hz => (((CC.out.bb z (outX_mem hz)).b.chB RB.out H5.out.2).up (Nat.le_succ K)).full, ?_, ?_, Nat.le_trans CC.out.k.2 (Nat.le_succ K)⟩
      . exact (CC.out.f.keep1 (fun q e => H5.out.2.block q (CC.out.f.lt e).2 (fun e2 => CC.out.f.apart RB.out (by decide) e e2))).full
      . have h1 := H5.out.1.len
        have h2 := outX_len (byN x.cm.bu) Bkx.bk X
        have h3 := RB.out.len
        have h4 := CC.out.k.1
        omega
     have BL5 : Hid (Below lo w w5) := (BD.out.mono hlo).trans (H5.out.2.toBelow hlo5 (fun q hq e => by have := (RB.out.lt e).1; omega))
     have k6 : Hid ((w5.setCell ⟨gc, 0, none⟩ (.slice (some ⟨b, 0, none⟩) n5 n)).heap[gc]? = some (.cells #[.slice (some ⟨b, 0, none⟩) n5 n,.slice fa fn fc] 58 (0, 0))) := set_blkf k5.out 0 _
     have ne6 : Hid (g + 1 ≠ gc) := fun e => by have h := kr5.out; rw [e, k5.out] at h; simp at h
     have kr6 : Hid ((w5.setCell ⟨gc, 0, none⟩ (.slice (some ⟨b, 0, none⟩) n5 n)).heap[g + 1]? = some (.cells #[.int .i64 0,.string ⟨#[]⟩] 51 (0, 0))) := (Below.heap_setCell _ _ _ _ ne6.out).trans kr5.out
     have CO6 : Hid (CtO (K + 1) (w5.setCell ⟨gc, 0, none⟩ (.slice (some ⟨b, 0, none⟩) n5 n)) lo w5.heap.size (some ⟨b, 0, none⟩) n5 n (outX (byN x.cm.bu) Bkx.bk X) fa fn fc F) := by
      have hb : ∀ q, q < w5.heap.size -> q ≠ gc -> (w5.setCell ⟨gc, 0, none⟩ (.slice (some ⟨b, 0, none⟩) n5 n)).heap[q]? = w5.heap[q]? := fun q _ hq => Below.heap_setCell _ _ _ _ hq
      exact ⟨CO5.out.b.off hb k5.out (by decide), fun z hz => (CO5.out.bb z hz).off hb k5.out (by decide), CO5.out.f.off hb k5.out (by decide), CO5.out.k⟩
     have BL6 : Hid (Below lo w (w5.setCell ⟨gc, 0, none⟩ (.slice (some ⟨b, 0, none⟩) n5 n))) := BL5.out.setCell hgc _
     have K6 : Hid (K51 w (w5.setCell ⟨gc, 0, none⟩ (.slice (some ⟨b, 0, none⟩) n5 n))) := fun q cs h => by
      have h1 := K51.below BD.out q cs h
      have h2 : w5.heap[q]? = some (.cells cs 51 (0, 0)) := (H5.out.2.block q (gl h1) (fun e => by
       obtain ⟨cur, h3, _⟩ := RB.out.blk e
       rw [h3] at h1
       simp at h1)).trans h1
      exact (Below.heap_setCell _ _ _ _ (fun e => by rw [e, k5.out] at h2; simp at h2)).trans h2
     obtain ⟨w6, Hw6⟩ := nm (w5.setCell ⟨gc, 0, none⟩ (.slice (some ⟨b, 0, none⟩) n5 n))
     rw [Hw6.out] at k6 kr6 CO6 BL6 K6 ⊢
     clear Hw6 S5 q9 q8 H5 CO5 BL5 k5 kr5
     obtain ⟨R, HR⟩ := nm ((#[.int .i64 0,.string ⟨#[]⟩] : Array Value))
     have a5' : (Tryz.prog.info? 51).map (·.size) = some R.size := by rw [<- HR.out]; exact outZ
     have AA : Hid (R.all (·.oneCell') = true) := (show R.all (·.oneCell') = true by rw [<- HR.out]; kernel_rfl)
     have a6' : Hid (R.size = 2) := (show R.size = 2 by rw [<- HR.out]; rfl)
     go_wp2_with (first
      | (go_at_call 92; refine (done_n _).mono ?_; rintro e w7 ⟨rfl, H7⟩; rw [HR.out]; have r7 := sh H7 kr6)
      | (refine wpList_store_row (by rfl) 51 (.tmp 5) (.tmp 31) (by rfl) (g + 1) R (by rfl) (by rfl) 51 _ r7.out a5' (by rw [a6'.out]; rfl) AA.out ?_))
     refine bodyPost_ret (results_cell_row Tryz.results93 _ _ (g + 1) 51 R (0, 0) _ (by rfl) (setRow_heap _ _ _ _ _ _ r7.out) Tryz.underlying51 rfl a5') rfl ?_
     refine ⟨R, rfl, ?_⟩
     rw [IB.out]
     have hg1 : lo <= g + 1 := by have := Hg.out; omega
     have k7 := (H7.out.block gc (gl k6.out)).trans k6.out
     have ng : ∀ q, q < w7.heap.size -> q ≠ g + 1 -> (w7.setRow (g + 1) R).heap[q]? = w7.heap[q]? := fun q hq hn => setRow_other _ _ _ _ hn
     refine ⟨HR.out.symm, some ⟨b, 0, none⟩, n5, n, _, fa, fn, fc, F, (ng gc (gl k7) (fun e => ne6.out e.symm)).trans k7, ((CO6.out.below H7.out).off ng r7.out).full, ?_, rfl, below_setRow (BL6.out.trans (H7.out.mono (Nat.le_trans hlo BL6.out.size))) hg1 _, fun q cs h => (setRow_other _ _ _ _ (fun e2 => by have h2 := (gl h); have h3 := Hg.out; omega)).trans (K51.below H7.out q cs (K6.out q cs h))⟩
     rw [outX_map]
theorem droO_eq (C : Ctd) (x : Cm) : droO C x = inC C x (fun b => droB b C x) := rfl
set_option maxHeartbeats 16000000 in
theorem dropBucket_n {K : Nat} (hK : K <= 1048576) {w : World} {A : Array Value} {x : Cx} {lo hi gc : Nat} {a : Option Addr} {n : Nat} {X : List Bkx} {fa : Option Addr} {fn fc : Nat} {F : List Idd} (hX : Hid (A = (encX x).toArray)) (hC : Hid (CtC K w lo hi a n X fa fn fc F)) (hk : Hid (w.heap[gc]? = some (.cells #[.slice a n n,.slice fa fn fc] 58 (0, 0)))) (hlo : lo <= w.heap.size) (hgc : lo <= gc) :
  Calls Tryz.prog 66 #[.pointer (some ⟨gc, 0, none⟩), .agg A] w fun e w' => ∃ R, e = .returned (.agg R) /\ Hid (ChR K w w' lo gc (droO ⟨X.map Bkx.bk, F⟩ x.cm) R) := by
 have a18 : A.size = 18 := encX_sz hX.out
 obtain ⟨w1, Hw1⟩ := nm (((w.alloc (.cells #[.pointer (some ⟨gc, 0, none⟩)] 97)).alloc (.cells A 29)).alloc (.cells #[.int .i64 0,.string ⟨#[]⟩] 51))
 obtain ⟨g, Hg⟩ := nm (w.heap.size)
 have B1 : Hid (Below w.heap.size w w1) := by rw [<- Hw1.out]; exact (alloc2 w _ _).trans ((alloc1 _ _).mono (alloc2 w _ _).size)
 have e1 : (w.alloc (.cells #[.pointer (some ⟨gc, 0, none⟩)] 97)).heap.size = g + 1 := by simp [← Hg.out]
 have e2 : ((w.alloc (.cells #[.pointer (some ⟨gc, 0, none⟩)] 97)).alloc (.cells A 29)).heap.size = g + 2 := by simp [← Hg.out, Nat.add_assoc]
 have kd : Hid (w1.heap[g]? = some (.cells #[.pointer (some ⟨gc, 0, none⟩)] 97 (0, 0))) := by
  rw [<- Hw1.out, <- Hg.out]
  exact ((alloc1 ((w.alloc (.cells #[.pointer (some ⟨gc, 0, none⟩)] 97)).alloc (.cells A 29)) _).block w.heap.size (by simp; omega)).trans (((alloc1 (w.alloc (.cells #[.pointer (some ⟨gc, 0, none⟩)] 97)) _).block w.heap.size (by simp)).trans (heap_alloc_new w _))
 have kx : Hid (w1.heap[g + 1]? = some (.cells A 29 (0, 0))) := by
  rw [<- Hw1.out, <- e1]
  exact ((alloc1 ((w.alloc (.cells #[.pointer (some ⟨gc, 0, none⟩)] 97)).alloc (.cells A 29)) _).block (w.alloc (.cells #[.pointer (some ⟨gc, 0, none⟩)] 97)).heap.size (by simp)).trans (heap_alloc_new _ _)
 have kr : Hid (w1.heap[g + 2]? = some (.cells #[.int .i64 0,.string ⟨#[]⟩] 51 (0, 0))) := by
  rw [<- Hw1.out, <- e2]
  exact heap_alloc_new _ _
 clear e1 e2
 have CC : Hid (CtC K w1 lo hi a n X fa fn fc F) := hC.out.below B1.out
 have HK := sh B1 hk
 have hlo1 : lo <= w1.heap.size := Nat.le_trans hlo B1.out.size
 have CL : Hid (Calls Tryz.prog 67 #[.pointer (some ⟨gc, 0, none⟩), .agg A, .func (.func 93) #[] #[.pointer (some ⟨g, 0, none⟩)]] w1 fun e w' => ∃ R, e = .returned (.agg R) /\ Hid (ChR K w1 w' lo gc (inC ⟨X.map Bkx.bk, F⟩ x.cm (fun b => droB b ⟨X.map Bkx.bk, F⟩ x.cm)) R)) :=
  inBucket_drop (f := fun b => droB b ⟨X.map Bkx.bk, F⟩ x.cm) hK hX CC HK hlo1 (fun V b i y hS ha hB => by
   subst ha
   exact clo93 hK hX (show Hid _ from CC.out.below hB) (show Hid _ from (hB.block gc (gl HK.out)).trans HK.out) (show Hid _ from (hB.block g (gl kd.out)).trans kd.out) (Nat.le_trans hlo1 hB.size) hgc hS)
 rw [droO_eq]
 have q1 : w1.cell? ⟨g, 0, none⟩ = some (.pointer (some ⟨gc, 0, none⟩)) := cell_arr kd.out rfl
 go_enter Tryz.func66, Tryz.ntmps66
 go_upto_region 1 with (fail)
 rw [Hw1.out, Hg.out]
 clear Hw1
 go_wp2_with (first
  | (refine wpList_load_row (by rfl) 29 (.tmp 3) (by rfl) (g + 1) (by rfl) 29 A (0, 0) _ kx.out Tryz.underlying29 rfl (info29 a18) ?_)
  | (go_at_call 67; refine CL.out.mono ?_; rintro e w5 ⟨R, rfl, H5⟩; obtain ⟨kr5, r5, r6, RA⟩ := box_ch kr.out H5.out)
  | (refine wpList_store_row (by rfl) 51 (.tmp 4) (.tmp 8) (by rfl) (g + 2) R (by rfl) (by rfl) 51 _ kr5 r5 (by rw [r6]; rfl) RA ?_))
 refine bodyPost_ret (results_cell_row Tryz.results66 _ _ (g + 2) 51 R (0, 0) _ (by rfl) (setRow_heap _ _ _ _ _ _ kr5) Tryz.underlying51 rfl r5) rfl ?_
 exact ⟨R, rfl, ch_end hlo B1.out H5.out kr5 (by have := Hg.out; omega)⟩
end Go.Proofs.YtfabnnbljkkihaaGreatDoor
