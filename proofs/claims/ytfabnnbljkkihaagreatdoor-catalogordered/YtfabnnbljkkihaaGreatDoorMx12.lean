import Derived.Test.YtfabnnbljkkihaaGreatDoorMxp
import Derived.Test.YtfabnnbljkkihaaGreatDoorMx11
namespace Go.Proofs.YtfabnnbljkkihaaGreatDoor
open Go.ChangeShapes Go.WideShapes Go.ChangeAt Go.RowKit
set_option maxRecDepth 20000
set_option linter.unusedVariables false
set_option linter.unusedSimpArgs false
def dif (a b : Option Addr) : Prop := ∀ q, blkOf a = some q -> blkOf b ≠ some q
structure BkC (K : Nat) (w : World) (lo hi : Nat) (x : Bkx) : Prop where
 b : BkO K w lo hi x
 q : x.ux.Pairwise (fun u v => dif u.a v.a)
 c : x.oc = x.on /\ x.uc = x.un
 p : ∀ u ∈ x.ux, u.c = u.n
theorem bkC_stays (K : Nat) : Stays (BkC K) := fun _ _ _ _ _ h hb => ⟨h.b.keep hb, h.q, h.c, h.p⟩
theorem BkC.mono {K : Nat} {w : World} {lo hi lo' hi' : Nat} {x : Bkx} (h : BkC K w lo hi x) (hl : lo' <= lo) (hh : hi <= hi') : BkC K w lo' hi' x := ⟨h.b.mono hl hh, h.q, h.c, h.p⟩
theorem Rw.dif {α β : Type} {E : Enc α} {F : Enc β} {w W : World} {p q r s : Nat} {t t' : TypeId} {a b : Option Addr} {n c m d : Nat} {l : List α} {k : List β} (h : Rw w p q t E a n c l) (h' : Rw W r s t' F b m d k) (hq : q <= r) : dif a b := fun z e e' => by
 have h1 := h.top z e
 have h2 := (h'.lt e').1
 omega
theorem seg_ul {K : Nat} {w : World} {lo hi : Nat} {l : List Ulx} (h : Seg (UlO K w) lo hi l) : l.Pairwise (fun u v => dif u.a v.a) :=
 (h.pairs (fun _ _ _ _ _ h hl hh => h.mono hl hh)).imp (fun ⟨p, q, r, h1, h2⟩ => h1.r.dif h2.r (Nat.le_refl _))
theorem inf65 : (Tryz.prog.info? 65).map (fun i => (i.zero, i.size, i.bytes)) = some (some (.agg #[.string ⟨#[]⟩,.int .i64 0,.int .i64 0,.slice none 0 0,.slice none 0 0]), 5, 80) := by kernel_rfl
theorem inz65 : (Tryz.prog.info? 65).map (·.size) = some 5 := by kernel_rfl
theorem fold65 {A : Array Value} {x : Bkx} (h : A = (EBk.e x).toArray) : Array.foldl (fun cs (x : Value × Nat) => cs.setIfInBounds x.snd x.fst) #[.string ⟨#[]⟩,.int .i64 0,.int .i64 0,.slice none 0 0,.slice none 0 0] A.zipIdx 0 5 = A := by
 subst h
 kernel_rfl
set_option maxHeartbeats 8000000 in
theorem copyBks {w : World} {lo hi K : Nat} {a : Option Addr} {n c : Nat} {X : List Bkx} (hA : Hid (Rw w lo hi 65 EBk a n c X)) (hn : n <= 1048576)
  (hC : ∀ x ∈ X, ∀ (W : World) (A : Array Value), Hid (A = (EBk.e x).toArray) -> Hid (Below w.heap.size w W) -> Calls Tryz.prog 51 #[.agg A] W fun e w' => ∃ B, e = .returned (.agg B) /\ Hid (∃ y, B = (EBk.e y).toArray /\ Bkx.bk y = Bkx.bk x /\ (BkC K) w' W.heap.size w'.heap.size y /\ Below W.heap.size W w')) :
  Calls Tryz.prog 64 #[.slice a n c, .func (.func 51) #[] #[]] w fun e w' => ∃ a', e = .returned (.slice a' n n) /\ Hid (∃ Y, Y.map Bkx.bk = X.map Bkx.bk /\ Rw w' w.heap.size w'.heap.size 65 EBk a' n n Y /\ Seg ((BkC K) w') w.heap.size w'.heap.size Y /\ Below w.heap.size w w') := by
 have LX : Hid (n = X.length) := hA.out.len
 have HC : Hid _ := hC
 clear hC
 obtain ⟨w1, mk0, cp0⟩ := cp_start (O := (BkC K)) (d := Bkx.bk) (E := EBk) (w := w) (n := n) Tryz.underlying56 inf65 (by decide) (by omega) hn X
 have mk := mk0
 have CP0 : Hid (Cp (BkC K) Bkx.bk 65 EBk w w1 n 0 X) := cp0
 clear mk0 cp0
 go_enter Tryz.func64, Tryz.ntmps64
 go_wp2
 clear mk
 obtain ⟨g0, Hg0⟩ := nm (w.heap.size)
 rw [Hg0.out]
 go_loopw [5, 13] (fun t5 t13 wr => ∃ (i : Nat), i <= n /\ t13 = .int .i64 i /\ t5 = .slice (some ⟨g0, 0, none⟩) i n /\ Hid (Cp (BkC K) Bkx.bk 65 EBk w wr n i X)) (fun _ t13 _ => n - (intOf t13).toNat)
 case atStart => exact ⟨0, by omega, rfl, rfl, CP0⟩
 case round =>
  clear CP0
  obtain ⟨i, hi, rfl, rfl, HP⟩ := hrel
  by_cases hlt : i < n
  . have i3 : (i : Int) < (n : Int) := by omega
    have kx : i < X.length := by rw [<- LX.out]; exact hlt
    have HB : Hid (Below w.heap.size w wr) := HP.out.choose_spec.2.2.2.1
    obtain ⟨b1, rfl, _, _, e1⟩ := (hA.out.below HB.out).at_ kx
    obtain ⟨x, Hx⟩ := nm (X[i])
    rw [Hx.out] at e1
    have EX : Hid (X[i]? = some x) := by show _ = _; rw [<- Hx.out]; exact List.getElem?_eq_getElem kx
    have MX : x ∈ X := List.mem_of_getElem? EX.out
    obtain ⟨A, HA⟩ : ∃ A, Hid (A = (EBk.e x).toArray) := ⟨_, rfl⟩
    have az : A.size = 5 := arr_sz HA.out
    have ai : (Tryz.prog.info? 65).map (·.size) = some A.size := by rw [az]; exact inz65
    have AA : Hid (A.all (·.oneCell') = true) := arr_all HA.out
    have E1 : Hid (wr.rangeAt b1 (i * 5) (EBk.e x)) := e1
    clear e1
    obtain ⟨w2, Hw2, K2⟩ := box_any wr 65 #[.string ⟨#[]⟩,.int .i64 0,.int .i64 0,.slice none 0 0,.slice none 0 0] A
    obtain ⟨g1, Hg1⟩ := nm (wr.heap.size)
    have LA : Hid (some A.size = some ((EBk.e x).toArray.size)) := by show _ = _; rw [HA.out]
    go_upto_region 5 with first
     | (refine wpList_load_mid (by rfl) 65 (.tmp 15) (by rfl) b1 (i * 5) (by rfl) (EBk.e x) _ E1.out Tryz.underlying65 rfl (by rw [EBk.len]; exact inz65) ?_; rw [<- HA.out])
     | (refine wpList_store_row (by rfl) 65 (.tmp 7) (.tmp 16) (by rfl) wr.heap.size A (by rfl) (by rfl) 65 _ (heap_alloc_new wr _) ai (by rw [az]; rfl) AA.out ?_)
    rw [Hw2.out, Hg1.out]
    have k1 : Hid (w2.heap[g1]? = some (.cells A 65 (0, 0))) := by rw [<- Hg1.out]; exact K2.out.1
    have B2 : Hid (Below wr.heap.size wr w2) := K2.out.2.1
    have BW := bt HB B2
    clear K2 Hw2 Hg1 E1 LA
    go_wp2_with (first
     | (refine wpList_load_row (by rfl) 65 (.tmp 7) (by rfl) g1 (by rfl) 65 A (0, 0) _ k1.out Tryz.underlying65 rfl ai ?_)
     | (go_at_call 51; refine (HC.out x MX w2 A HA BW).mono ?_; rintro e w3 ⟨B, rfl, H3⟩
        obtain ⟨y, hy1, hy2, hy3, hy4⟩ := H3.out
        have HBY : Hid (B = (EBk.e y).toArray) := hy1
        have bz : B.size = 5 := arr_sz hy1
        obtain ⟨w6, r1, r2⟩ := cp_step (bkC_stays K) HP.out EX.out hlt Tryz.underlying56 inz65 B2.out hy4 hy2 hy3
        obtain ⟨g4, Hg4⟩ := nm (w3.heap.size)
        obtain ⟨w4, Hw4⟩ := nm (w3.alloc (.cells B 65))
        rw [<- hy1, Hw4.out, Hg4.out, Hg0.out] at r1
        have AR : Hid ((Builtin.append_ #[56, 56] 56 #[.slice (some ⟨g0, 0, none⟩) i n,.slice (some ⟨g4, 0, none⟩) 1 1]).run Tryz.prog w4 = .ok (.slice (some ⟨g0, 0, none⟩) (i + 1) n) w6) := r1
        have FIN : Hid (Cp (BkC K) Bkx.bk 65 EBk w w6 n (i + 1) X) := r2
        have FD : Hid (Array.foldl (fun cs (x : Value × Nat) => cs.setIfInBounds x.snd x.fst) #[.string ⟨#[]⟩,.int .i64 0,.int .i64 0,.slice none 0 0,.slice none 0 0] B.zipIdx 0 5 = B) := fold65 HBY.out
        clear hy1 hy2 hy3 hy4 H3 r1 r2)
     | (at_builtin; rw [FD.out, Hw4.out, Hg4.out]; refine wpList_appt (by rfl) (.tmp 17) (.tmp 21) (by rfl) (by rfl) (by rfl) (by rfl) AR ?_))
    go_roundw
    case rel => exact ⟨i + 1, by omega, by go_num, rfl, FIN⟩
    case measure => simp [intOf]; omega
  . have ein : i = n := by omega
    subst ein
    have FIN : Hid _ := cp_end HP.out LX.out
    clear HP
    go_wp2
    go_ret
    refine ⟨some ⟨g0, 0, none⟩, rfl, ?_⟩
    obtain ⟨Y, h1, h2, h3, h4⟩ := FIN.out
    exact ⟨Y, h1, by rw [<- Hg0.out]; exact h2, h3, h4⟩
set_option maxHeartbeats 8000000 in
theorem copyBucket_e {K : Nat} (hK : K <= 1048576) {lo hi : Nat} (x : Bkx) {w : World} (hx : Hid (BkO K w lo hi x)) (A0 : Array Value) (hA : Hid (A0 = (EBk.e x).toArray)) :
  Calls Tryz.prog 51 #[.agg A0] w fun e w' => ∃ B, e = .returned (.agg B) /\ Hid (∃ y, B = (EBk.e y).toArray /\ Bkx.bk y = Bkx.bk x /\ BkC K w' w.heap.size w'.heap.size y /\ Below w.heap.size w w') := by
 rw [show A0 = #[.string x.nm,.int .i64 x.tm,.int .i64 x.dy,.slice x.oa x.on x.oc,.slice x.ua x.un x.uc] from hA.out]
 obtain ⟨w1, Hw1⟩ := nm ((w.alloc (.cells #[.string x.nm,.int .i64 x.tm,.int .i64 x.dy,.slice x.oa x.on x.oc,.slice x.ua x.un x.uc] 65)).alloc (.cells #[.string ⟨#[]⟩,.int .i64 0,.int .i64 0,.slice none 0 0,.slice none 0 0] 65))
 obtain ⟨g, Hg⟩ := nm (w.heap.size)
 have S1 : Hid (Bz 65 #[.string ⟨#[]⟩,.int .i64 0,.int .i64 0,.slice none 0 0,.slice none 0 0] w w1 g #[.string x.nm,.int .i64 x.tm,.int .i64 x.dy,.slice x.oa x.on x.oc,.slice x.ua x.un x.uc]) := by rw [<- Hw1.out, <- Hg.out]; exact Bz.new _ _ _ _
 have q1 : w1.cell? ⟨g, 0, none⟩ = some (.string x.nm) := S1.out.cell rfl
 go_enter Tryz.func51, Tryz.ntmps51
 go_upto_region 1 with (fail)
 rw [Hw1.out, Hg.out]
 clear Hw1
 go_upto_region 2 with (go_at_call 79; refine (clone_n x.nm _ hx.out.s).mono ?_; rintro e w2 ⟨rfl, H2⟩; have q2 : w2.cell? ⟨g, 0, none⟩ = some (.string x.nm) := (S1.out.below H2.out).cell rfl; have q3 := (S1.out.below H2.out).frz 0)
 have S2 : Hid (Bz 65 #[.string ⟨#[]⟩,.int .i64 0,.int .i64 0,.slice none 0 0,.slice none 0 0] w (w2.setCell ⟨g, 0, none⟩ (.string x.nm)) g #[.string x.nm,.int .i64 x.tm,.int .i64 x.dy,.slice x.oa x.on x.oc,.slice x.ua x.un x.uc]) := (S1.out.below H2.out).set rfl
 obtain ⟨V2, HV2⟩ := nm (w2.setCell ⟨g, 0, none⟩ (.string x.nm))
 rw [HV2.out] at S2 ⊢
 clear HV2 q1 q2 q3 H2 S1
 have q4 : V2.cell? ⟨g, 3, none⟩ = some (.slice x.oa x.on x.oc) := S2.out.cell rfl
 have R2 : Hid (Rw V2 lo hi 71 EOb x.oa x.on x.oc x.ox) := hx.out.o.below S2.out.f
 have HO : Hid (∀ W, Below V2.heap.size V2 W -> ∀ o ∈ x.ox, ObO K W lo hi o) := fun W hW o ho => (hx.out.oo o ho).keep (fun q _ _ hq => (hW.block q (Nat.lt_of_lt_of_le hq S2.out.f.size)).trans (S2.out.f.block q hq))
 have hn : x.on <= 1048576 := Nat.le_trans hx.out.k.1 hK
 have hn2 : x.un <= 1048576 := Nat.le_trans hx.out.k.2 hK
 go_upto_region 3 with (go_at_call 83; refine (copyObs (K := K) R2 hn (fun o ho W A hA hW => copyObject_e hK o (HO.out W hW.out o ho) A hA)).mono ?_; rintro e w3 ⟨a2, rfl, H3⟩; have B3 := H3.out.choose_spec.2.2.2; have q5 : w3.cell? ⟨g, 3, none⟩ = some (.slice x.oa x.on x.oc) := (S2.out.below B3).cell rfl; have q6 := (S2.out.below B3).frz 3)
 have S3 : Hid (Bz 65 #[.string ⟨#[]⟩,.int .i64 0,.int .i64 0,.slice none 0 0,.slice none 0 0] w (w3.setCell ⟨g, 3, none⟩ (.slice a2 x.on x.on)) g #[.string x.nm,.int .i64 x.tm,.int .i64 x.dy,.slice a2 x.on x.on,.slice x.ua x.un x.uc]) := (S2.out.below B3).put 3 _
 have LG : Hid (g + 1 < V2.heap.size) := (gl S2.out.z)
 have LW : Hid (w.heap.size <= V2.heap.size) := S2.out.f.size
 obtain ⟨Y1, HY1⟩ : ∃ Y1, Hid (Y1.map Obx.ob = x.ox.map Obx.ob /\ Rw (w3.setCell ⟨g, 3, none⟩ (.slice a2 x.on x.on)) V2.heap.size w3.heap.size 71 EOb a2 x.on x.on Y1 /\ (∀ o ∈ Y1, ObO K (w3.setCell ⟨g, 3, none⟩ (.slice a2 x.on x.on)) V2.heap.size w3.heap.size o)) := by
  obtain ⟨Y, h1, h2, h3, h4⟩ := H3.out
  have hs : ∀ q, V2.heap.size <= q -> q < w3.heap.size -> q < w3.heap.size -> (w3.setCell ⟨g, 3, none⟩ (.slice a2 x.on x.on)).heap[q]? = w3.heap[q]? := fun q h5 h6 h7 => Below.heap_setCell _ _ _ _ (show q ≠ g by have := LG.out; omega)
  exact ⟨Y, h1, h2.keep hs, fun o ho => (h3.all (fun _ _ _ _ _ h hl hh => h.mono hl hh) o ho).keep hs⟩
 have Z3 : Hid (w3.heap.size = (w3.setCell ⟨g, 3, none⟩ (.slice a2 x.on x.on)).heap.size) := (by simp [World.setCell] : w3.heap.size = (w3.setCell ⟨g, 3, none⟩ (.slice a2 x.on x.on)).heap.size)
 have LV3 : Hid (V2.heap.size <= w3.heap.size) := B3.size
 obtain ⟨V3, HV3⟩ := nm (w3.setCell ⟨g, 3, none⟩ (.slice a2 x.on x.on))
 rw [HV3.out] at S3 HY1 Z3 ⊢
 clear HV3 q4 q5 q6 B3 H3 R2 S2 HO
 have q7 : V3.cell? ⟨g, 4, none⟩ = some (.slice x.ua x.un x.uc) := S3.out.cell rfl
 have R4 : Hid (Rw V3 lo hi 77 EUl x.ua x.un x.uc x.ux) := hx.out.u.below S3.out.f
 have HU : Hid (∀ W, Below V3.heap.size V3 W -> ∀ u ∈ x.ux, UlO K W lo hi u) := fun W hW u hu => (hx.out.uu u hu).keep (fun q _ _ hq => (hW.block q (Nat.lt_of_lt_of_le hq S3.out.f.size)).trans (S3.out.f.block q hq))
 go_upto_region 4 with (go_at_call 84; refine (copyUls (K := K) R4 hn2 (fun u hu W A hA hW => copyUpload_e hK u (HU.out W hW.out u hu) A hA)).mono ?_; rintro e w5 ⟨a4, rfl, H5⟩; have B5 := H5.out.choose_spec.2.2.2; have q8 : w5.cell? ⟨g, 4, none⟩ = some (.slice x.ua x.un x.uc) := (S3.out.below B5).cell rfl; have q9 := (S3.out.below B5).frz 4)
 have S5 : Hid (Bz 65 #[.string ⟨#[]⟩,.int .i64 0,.int .i64 0,.slice none 0 0,.slice none 0 0] w (w5.setCell ⟨g, 4, none⟩ (.slice a4 x.un x.un)) g #[.string x.nm,.int .i64 x.tm,.int .i64 x.dy,.slice a2 x.on x.on,.slice a4 x.un x.un]) := (S3.out.below B5).put 4 _
 have HY2 : Hid (Rw (w5.setCell ⟨g, 4, none⟩ (.slice a4 x.un x.un)) V2.heap.size w3.heap.size 71 EOb a2 x.on x.on Y1 /\ (∀ o ∈ Y1, ObO K (w5.setCell ⟨g, 4, none⟩ (.slice a4 x.un x.un)) V2.heap.size w3.heap.size o)) := by
  have hs : ∀ q, V2.heap.size <= q -> q < w3.heap.size -> q < V3.heap.size -> (w5.setCell ⟨g, 4, none⟩ (.slice a4 x.un x.un)).heap[q]? = V3.heap[q]? := fun q h5 h6 h7 => (Below.heap_setCell _ _ _ _ (show q ≠ g by have := LG.out; omega)).trans (B5.block q h7)
  exact ⟨HY1.out.2.1.keep hs, fun o ho => (HY1.out.2.2 o ho).keep hs⟩
 obtain ⟨Y2, HY3⟩ : ∃ Y2, Hid (Y2.map Ulx.ul = x.ux.map Ulx.ul /\ Rw (w5.setCell ⟨g, 4, none⟩ (.slice a4 x.un x.un)) V3.heap.size w5.heap.size 77 EUl a4 x.un x.un Y2 /\ (∀ u ∈ Y2, UlO K (w5.setCell ⟨g, 4, none⟩ (.slice a4 x.un x.un)) V3.heap.size w5.heap.size u) /\ Y2.Pairwise (fun u v => dif u.a v.a) /\ (∀ u ∈ Y2, u.c = u.n)) := by
  obtain ⟨Y, h1, h2, h3, h4⟩ := H5.out
  have hs : ∀ q, V3.heap.size <= q -> q < w5.heap.size -> q < w5.heap.size -> (w5.setCell ⟨g, 4, none⟩ (.slice a4 x.un x.un)).heap[q]? = w5.heap[q]? := fun q h5 h6 h7 => Below.heap_setCell _ _ _ _ (show q ≠ g by have := LG.out; have := LV3.out; have := Z3.out; omega)
  exact ⟨Y, h1, h2.keep hs, fun o ho => (h3.all (fun _ _ _ _ _ h hl hh => ⟨h.1.mono hl hh, h.2⟩) o ho).1.keep hs, seg_ul (h3.imp (fun p q u _ _ h => h.1)), fun u hu => (h3.all (fun _ _ _ _ _ h hl hh => ⟨h.1.mono hl hh, h.2⟩) u hu).2⟩
 have Z5 : Hid (w5.heap.size = (w5.setCell ⟨g, 4, none⟩ (.slice a4 x.un x.un)).heap.size) := (by simp [World.setCell] : w5.heap.size = (w5.setCell ⟨g, 4, none⟩ (.slice a4 x.un x.un)).heap.size)
 have LV5 : Hid (V3.heap.size <= w5.heap.size) := B5.size
 obtain ⟨V5, HV5⟩ := nm (w5.setCell ⟨g, 4, none⟩ (.slice a4 x.un x.un))
 rw [HV5.out] at S5 HY2 HY3 Z5 ⊢
 clear HV5 q7 q8 q9 B5 H5 R4 S3 HU
 obtain ⟨A, HA⟩ := nm ((#[.string x.nm,.int .i64 x.tm,.int .i64 x.dy,.slice a2 x.on x.on,.slice a4 x.un x.un] : Array Value))
 have a5 : (Tryz.prog.info? 65).map (·.size) = some A.size := by rw [<- HA.out]; exact inz65
 have AA : Hid (A.all (·.oneCell') = true) := (show A.all (·.oneCell') = true by rw [<- HA.out]; kernel_rfl)
 have a6 : Hid (A.size = 5) := (show A.size = 5 by rw [<- HA.out]; rfl)
 have S9 : Hid (Bz 65 #[.string ⟨#[]⟩,.int .i64 0,.int .i64 0,.slice none 0 0,.slice none 0 0] w V5 g A) := by rw [<- HA.out]; exact S5.out
 go_wp2_with (first
  | (refine wpList_load_row (by rfl) 65 (.tmp 1) (by rfl) g (by rfl) 65 A (0, 0) _ S9.out.b Tryz.underlying65 rfl a5 ?_)
  | (refine wpList_store_row (by rfl) 65 (.tmp 2) (.tmp 15) (by rfl) (g + 1) A (by rfl) (by rfl) 65 _ S9.out.z a5 (by rw [a6.out]; rfl) AA.out ?_))
 refine bodyPost_ret (results_cell_row Tryz.results51 _ _ (g + 1) 65 A (0, 0) _ (by rfl) (setRow_heap _ _ _ _ _ _ S9.out.z) Tryz.underlying65 rfl a5) rfl ?_
 obtain ⟨m1, m2, m3⟩ := HY1.out
 obtain ⟨m4, m5⟩ := HY2.out
 obtain ⟨m6, m7, m8, m9, m10⟩ := HY3.out
 have hs : ∀ q, V2.heap.size <= q -> (V5.setRow (g + 1) A).heap[q]? = V5.heap[q]? := fun q h5 => setRow_other _ _ _ _ (show q ≠ g + 1 by have := LG.out; omega)
 have z1 : w3.heap.size <= (V5.setRow (g + 1) A).heap.size := by rw [setRow_size]; have := Z3.out; have := Z5.out; have := LV5.out; omega
 have z2 : w5.heap.size <= (V5.setRow (g + 1) A).heap.size := by rw [setRow_size]; have := Z5.out; omega
 have z3 : w.heap.size <= V3.heap.size := by have := Z3.out; have := LW.out; have := LV3.out; omega
 refine ⟨A, rfl, ⟨x.nm, x.tm, x.dy, a2, x.on, x.on, Y1, a4, x.un, x.un, Y2⟩, HA.out.symm, by simp only [Bkx.bk, m1, m6], ⟨⟨?_, ?_, ?_, ?_, hx.out.k, hx.out.s⟩, m9, ⟨rfl, rfl⟩, m10⟩, below_setRow S9.out.f (by have := S9.out.e; omega) _⟩
 . exact (m4.keep (fun q h1 _ _ => hs q h1)).mono LW.out z1
 . exact fun o ho => ((m5 o ho).keep (fun q h1 _ _ => hs q h1)).mono LW.out z1
 . exact (m7.keep (fun q h1 _ _ => hs q (by have := Z3.out; have := LV3.out; omega))).mono z3 z2
 . exact fun u hu => ((m8 u hu).keep (fun q h1 _ _ => hs q (by have := Z3.out; have := LV3.out; omega))).mono z3 z2
end Go.Proofs.YtfabnnbljkkihaaGreatDoor
