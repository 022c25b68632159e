import Derived.Test.YtfabnnbljkkihaaGreatDoorMxp
import Derived.Test.YtfabnnbljkkihaaGreatDoorMx10
import Derived.Laws.MakeOwn
namespace Go.Proofs.YtfabnnbljkkihaaGreatDoor
open Go.ChangeShapes Go.WideShapes Go.ChangeAt Go.RowKit
set_option maxRecDepth 20000
set_option linter.unusedVariables false
set_option linter.unusedSimpArgs false
structure Bz (t : TypeId) (Z : Array Value) (w W : World) (g : Nat) (A : Array Value) : Prop where
 b : W.heap[g]? = some (.cells A t (0, 0))
 z : W.heap[g + 1]? = some (.cells Z t (0, 0))
 f : Below w.heap.size w W
 e : w.heap.size <= g
section
variable {t : TypeId} {Z : Array Value} {w W W' : World} {g : Nat} {A : Array Value}
theorem Bz.below (h : Bz t Z w W g A) (hb : Below W.heap.size W W') : Bz t Z w W' g A :=
 ⟨(hb.block g (gl h.b)).trans h.b, (hb.block (g + 1) (gl h.z)).trans h.z, h.f.trans (hb.mono h.f.size), h.e⟩
theorem Bz.cell (h : Bz t Z w W g A) {i : Nat} {v : Value} (hv : A[i]? = some v) : W.cell? ⟨g, i, none⟩ = some v := by simp [World.cell?, h.b, hv]
theorem Bz.frz (h : Bz t Z w W g A) (i : Nat) : W.frozen? ⟨g, i, none⟩ = false := by simp [World.frozen?, h.b]
theorem Bz.set (h : Bz t Z w W g A) {i : Nat} {v : Value} (hv : A[i]? = some v) : Bz t Z w (W.setCell ⟨g, i, none⟩ v) g A :=
 ⟨by rw [set_blkf h.b, set_arr hv], (Below.heap_setCell _ _ _ _ (show g + 1 ≠ g by omega)).trans h.z, h.f.setCell h.e _, h.e⟩
theorem Bz.put (h : Bz t Z w W g A) (i : Nat) (v : Value) : Bz t Z w (W.setCell ⟨g, i, none⟩ v) g (A.setIfInBounds i v) :=
 ⟨by rw [set_blkf h.b], (Below.heap_setCell _ _ _ _ (show g + 1 ≠ g by omega)).trans h.z, h.f.setCell h.e _, h.e⟩
theorem Bz.new (w : World) (t : TypeId) (A Z : Array Value) : Bz t Z w ((w.alloc (.cells A t)).alloc (.cells Z t)) w.heap.size A := by
 refine ⟨((alloc1 (w.alloc (.cells A t)) _).block w.heap.size (by simp)).trans (heap_alloc_new w _), ?_, alloc2 w _ _, Nat.le_refl _⟩
 have e : (w.alloc (.cells A t)).heap.size = w.heap.size + 1 := by simp
 rw [<- e]
 exact heap_alloc_new _ _
end
theorem pieceZ : (Tryz.prog.info? 26).map (·.size) = some 5 := by kernel_rfl
set_option maxHeartbeats 1000000 in
theorem copyPiece_n (b0 b1 b2 sz : Int) (et : ByteArray) (w : World) (hs : et.size <= 281474976710656) :
  Calls Tryz.prog 80 #[.agg #[.int .i64 b0,.int .i64 b1,.int .i64 b2,.int .i64 sz,.string et]] w fun e w' => e = .returned (.agg #[.int .i64 b0,.int .i64 b1,.int .i64 b2,.int .i64 sz,.string et]) /\ Hid (Below w.heap.size w w') := by
 obtain ⟨w1, Hw1⟩ := nm ((w.alloc (.cells #[.int .i64 b0,.int .i64 b1,.int .i64 b2,.int .i64 sz,.string et] 26)).alloc (.cells #[.int .i64 0,.int .i64 0,.int .i64 0,.int .i64 0,.string ⟨#[]⟩] 26))
 obtain ⟨g, Hg⟩ := nm (w.heap.size)
 have S1 : Hid (Bz 26 #[.int .i64 0,.int .i64 0,.int .i64 0,.int .i64 0,.string ⟨#[]⟩] w w1 g #[.int .i64 b0,.int .i64 b1,.int .i64 b2,.int .i64 sz,.string et]) := by rw [<- Hw1.out, <- Hg.out]; exact Bz.new _ _ _ _
 have q9 : w1.cell? ⟨g, 4, none⟩ = some (.string et) := S1.out.cell rfl
 go_enter Tryz.func80, Tryz.ntmps80
 go_upto_region 1 with (fail)
 rw [Hw1.out, Hg.out]
 clear Hw1
 go_upto_region 2 with (go_at_call 79; refine (clone_n et _ hs).mono ?_; rintro e w2 ⟨rfl, H2⟩; have q7 : w2.cell? ⟨g, 4, none⟩ = some (.string et) := (S1.out.below H2.out).cell rfl; have q8 := (S1.out.below H2.out).frz 4)
 have S2 : Hid (Bz 26 #[.int .i64 0,.int .i64 0,.int .i64 0,.int .i64 0,.string ⟨#[]⟩] w (w2.setCell ⟨g, 4, none⟩ (.string et)) g #[.int .i64 b0,.int .i64 b1,.int .i64 b2,.int .i64 sz,.string et]) := (S1.out.below H2.out).set rfl
 obtain ⟨V2, HV2⟩ := nm (w2.setCell ⟨g, 4, none⟩ (.string et))
 rw [HV2.out] at S2 ⊢
 clear HV2 q9 q7 q8 H2
 obtain ⟨A, HA⟩ := nm ((#[.int .i64 b0,.int .i64 b1,.int .i64 b2,.int .i64 sz,.string et] : Array Value))
 have a5 : (Tryz.prog.info? 26).map (·.size) = some A.size := by rw [<- HA.out]; exact pieceZ
 have AA : Hid (A.all (·.oneCell') = true) := (show A.all (·.oneCell') = true by rw [<- HA.out]; kernel_rfl)
 have a6 : Hid (A.size = 5) := (show A.size = 5 by rw [<- HA.out]; rfl)
 rw [HA.out] at S2
 go_wp2_with (first
  | (refine wpList_load_row (by rfl) 26 (.tmp 1) (by rfl) g (by rfl) 26 A (0, 0) _ S2.out.b Tryz.underlying26 rfl a5 ?_)
  | (refine wpList_store_row (by rfl) 26 (.tmp 2) (.tmp 7) (by rfl) (g + 1) A (by rfl) (by rfl) 26 _ S2.out.z a5 (by rw [a6.out]; rfl) AA.out ?_))
 refine bodyPost_ret (results_cell_row Tryz.results80 _ _ (g + 1) 26 A (0, 0) _ (by rfl) (setRow_heap _ _ _ _ _ _ S2.out.z) Tryz.underlying26 rfl a5) rfl ?_
 exact ⟨by rw [<- HA.out], below_setRow S2.out.f (by have := S2.out.e; omega) _⟩
set_option maxHeartbeats 4000000 in
theorem copyTexts_n {w : World} {A : Array Value} {x : Cx} (hA : Hid (A = (encX x).toArray)) (hT : Hid (x.cm.bu.size <= 281474976710656 /\ x.cm.ke.size <= 281474976710656 /\ x.cm.et.size <= 281474976710656)) :
  Calls Tryz.prog 48 #[.agg A] w fun e w' => e = .returned (.agg A) /\ Hid (Below w.heap.size w w') := by
 have a18 : A.size = 18 := encX_sz hA.out
 have AA : Hid (A.all (·.oneCell') = true) := encX_all hA.out
 have A4 : Hid (A[4]? = some (.string x.cm.bu)) := by rw [hA.out]; rfl
 have A5 : Hid (A[5]? = some (.string x.cm.ke)) := by rw [hA.out]; rfl
 have A9 : Hid (A[9]? = some (.int .i64 x.cm.b0)) := by rw [hA.out]; rfl
 have A10 : Hid (A[10]? = some (.int .i64 x.cm.b1)) := by rw [hA.out]; rfl
 have A11 : Hid (A[11]? = some (.int .i64 x.cm.b2)) := by rw [hA.out]; rfl
 have A12 : Hid (A[12]? = some (.int .i64 x.cm.sz)) := by rw [hA.out]; rfl
 have A13 : Hid (A[13]? = some (.string x.cm.et)) := by rw [hA.out]; rfl
 obtain ⟨w1, Hw1⟩ := nm ((w.alloc (.cells A 29)).alloc (.cells #[.int .i64 0,.int .i64 0,.int .i64 0,.int .i64 0,.string ⟨#[]⟩,.string ⟨#[]⟩,.int .i64 0,.int .i64 0,.int .i64 0,.int .i64 0,.int .i64 0,.int .i64 0,.int .i64 0,.string ⟨#[]⟩,.int .i64 0,.slice none 0 0,.int .i64 0,.int .i64 0] 29))
 obtain ⟨g, Hg⟩ := nm (w.heap.size)
 have S1 : Cs w w1 g A := by
  rw [<- Hw1.out, <- Hg.out]
  have h := Bz.new w 29 A #[.int .i64 0,.int .i64 0,.int .i64 0,.int .i64 0,.string ⟨#[]⟩,.string ⟨#[]⟩,.int .i64 0,.int .i64 0,.int .i64 0,.int .i64 0,.int .i64 0,.int .i64 0,.int .i64 0,.string ⟨#[]⟩,.int .i64 0,.slice none 0 0,.int .i64 0,.int .i64 0]
  exact ⟨h.b, h.z, h.f, h.e⟩
 have K0 : Cs w w1.drew g A := ⟨S1.b, S1.z, S1.f.drew, S1.e⟩
 clear S1
 go_enter Tryz.func48, Tryz.ntmps48
 go_upto_region 1 with (fail)
 rw [Hw1.out, Hg.out]
 clear Hw1
 refine wp_region_till (S := fun L W => Cs w W g A) (by kernel_rfl) K0 (fun hS => ?_)
 clear K0
 refine tkg (i := 0) (v := .pointer (some ⟨g, 4, none⟩)) rfl hS (fun hSb => ?_)
 simp only [pA,pB,pC,Act.put,pD,pE,pF]
 clear hS
 refine trx (i := 1) (c := 2) (v := .string x.cm.bu) rfl rfl (Or.inl ⟨by rfl, fun w h => by have q9 := h.cell A4.out; go_simp⟩) hSb (fun hS => ?_)
 simp only [pA,pB,pC,Act.put,pD,pE,pF]
 clear hSb
 refine tkg (i := 3) (v := .pointer (some ⟨g, 5, none⟩)) rfl hS (fun hSb => ?_)
 simp only [pA,pB,pC,Act.put,pD,pE,pF]
 clear hS
 refine trx (i := 4) (c := 5) (v := .string x.cm.ke) rfl rfl (Or.inl ⟨by rfl, fun w h => by have q9 := h.cell A5.out; go_simp⟩) hSb (fun hS => ?_)
 simp only [pA,pB,pC,Act.put,pD,pE,pF]
 clear hSb
 refine till_one (i := 2) (by kernel_rfl) rfl (fun K hK => ?_)
 simp only [pA,pB,pC]
 rw [if_pos (by rfl)]
 go_simp
 go_wp2_with (go_at_call 79; refine (clone_n x.cm.bu _ hT.out.1).mono ?_; rintro e w2 ⟨rfl, H2⟩)
 refine hK.out _ _ (hS.below H2.out) (fun hSb => ?_)
 clear hK K
 try simp only [pA,pB,pC,Act.put,pD,pE,pF]
 clear hS
 refine tkg (i := 6) (v := .pointer (some ⟨g, 4, none⟩)) rfl hSb (fun hS => ?_)
 simp only [pA,pB,pC,Act.put,pD,pE,pF]
 clear hSb
 refine till_one (i := 5) (by kernel_rfl) rfl (fun K hK => ?_)
 simp only [pA,pB,pC]
 rw [if_pos (by rfl)]
 go_simp
 go_wp2_with (go_at_call 79; refine (clone_n x.cm.ke _ hT.out.2.1).mono ?_; rintro e w3 ⟨rfl, H3⟩)
 refine hK.out _ _ (hS.below H3.out) (fun hSb => ?_)
 clear hK K
 try simp only [pA,pB,pC,Act.put,pD,pE,pF]
 clear hS
 refine till_one (i := 7) (by kernel_rfl) rfl (fun K hK => ?_)
 simp only [pA,pB,pC]
 rw [if_pos (by rfl)]
 have q9 := hSb.cell A4.out
 have q8 := hSb.frz 4
 go_simp
 refine hK.out _ _ (hSb.set A4.out) (fun hS => ?_)
 clear hK K
 try simp only [pA,pB,pC,Act.put,pD,pE,pF]
 clear hSb
 refine tkg (i := 8) (v := .pointer (some ⟨g, 5, none⟩)) rfl hS (fun hSb => ?_)
 simp only [pA,pB,pC,Act.put,pD,pE,pF]
 clear hS
 refine till_one (i := 9) (by kernel_rfl) rfl (fun K hK => ?_)
 simp only [pA,pB,pC]
 rw [if_pos (by rfl)]
 have q9 := hSb.cell A5.out
 have q8 := hSb.frz 5
 go_simp
 refine hK.out _ _ (hSb.set A5.out) (fun hS => ?_)
 clear hK K
 try simp only [pA,pB,pC,Act.put,pD,pE,pF]
 clear hSb
 have S4 := hS
 refine till_done (by kernel_rfl) ?_ _
 clear hS
 show (Exit.then _ _) .normal _ _
 obtain ⟨V1, HV1⟩ := nm ((w3.setCell ⟨g, 4, none⟩ (.string x.cm.bu)).setCell ⟨g, 5, none⟩ (.string x.cm.ke))
 rw [HV1.out] at S4 ⊢
 clear HV1 H2 H3
 have S5 : Hid (Cs w V1 g A) := S4
 clear S4
 have c1 := S5.out.cell A9.out
 have c2 := S5.out.cell A10.out
 have c3 := S5.out.cell A11.out
 have c4 := S5.out.cell A12.out
 have c5 := S5.out.cell A13.out
 go_upto_region 3 with (go_at_call 80; refine (copyPiece_n _ _ _ _ _ _ hT.out.2.2).mono ?_; rintro e w4 ⟨rfl, H4⟩; have S6 := S5.out.below H4.out; have d1 := S6.cell A9.out; have d2 := S6.cell A10.out; have d3 := S6.cell A11.out; have d4 := S6.cell A12.out; have d5 := S6.cell A13.out; have f1 := S6.frz 9; have f2 := S6.frz 10; have f3 := S6.frz 11; have f4 := S6.frz 12; have f5 := S6.frz 13)
 have S7 : Hid (Cs w (((((w4.setCell ⟨g, 9, none⟩ (.int .i64 x.cm.b0)).setCell ⟨g, 10, none⟩ (.int .i64 x.cm.b1)).setCell ⟨g, 11, none⟩ (.int .i64 x.cm.b2)).setCell ⟨g, 12, none⟩ (.int .i64 x.cm.sz)).setCell ⟨g, 13, none⟩ (.string x.cm.et)) g A) := ((((S6.set A9.out).set A10.out).set A11.out).set A12.out).set A13.out
 obtain ⟨V2, HV2⟩ := nm (((((w4.setCell ⟨g, 9, none⟩ (.int .i64 x.cm.b0)).setCell ⟨g, 10, none⟩ (.int .i64 x.cm.b1)).setCell ⟨g, 11, none⟩ (.int .i64 x.cm.b2)).setCell ⟨g, 12, none⟩ (.int .i64 x.cm.sz)).setCell ⟨g, 13, none⟩ (.string x.cm.et))
 rw [HV2.out] at S7 ⊢
 clear HV2 c1 c2 c3 c4 c5 d1 d2 d3 d4 d5 f1 f2 f3 f4 f5 S6 H4 S5
 go_wp2_with (first
  | (refine wpList_load_row (by rfl) 29 (.tmp 1) (by rfl) g (by rfl) 29 A (0, 0) _ S7.out.b Tryz.underlying29 rfl (info29 a18) ?_)
  | (refine wpList_store_row (by rfl) 29 (.tmp 2) (.tmp 15) (by rfl) (g + 1) A (by rfl) (by rfl) 29 _ S7.out.z (info29 a18) (by rw [a18]; rfl) AA.out ?_))
 refine bodyPost_ret (results_cell_row Tryz.results48 _ _ (g + 1) 29 A (0, 0) _ (by rfl) (setRow_heap _ _ _ _ _ _ S7.out.z) Tryz.underlying29 rfl (info29 a18)) rfl ?_
 exact ⟨rfl, below_setRow S7.out.f (by have := S7.out.e; omega) A⟩
theorem inf108 : (Tryz.prog.info? 108).map (fun i => (i.zero, i.size, i.bytes)) = some (some (.agg #[.int .i64 0,.int .i64 0,.int .i64 0,.int .i64 0,.int .i64 0,.string ⟨#[]⟩]), 6, 56) := by kernel_rfl
theorem inz108 : (Tryz.prog.info? 108).map (·.size) = some 6 := by kernel_rfl
theorem fold108 {A : Array Value} {x : Ptd} (h : A = (EPt.e x).toArray) : Array.foldl (fun cs (x : Value × Nat) => cs.setIfInBounds x.snd x.fst) #[.int .i64 0,.int .i64 0,.int .i64 0,.int .i64 0,.int .i64 0,.string ⟨#[]⟩] A.zipIdx 0 6 = A := by
 subst h
 kernel_rfl
set_option maxHeartbeats 8000000 in
theorem copyPts {w : World} {lo hi K : Nat} {a : Option Addr} {n c : Nat} {X : List Ptd} (hA : Hid (Rw w lo hi 108 EPt a n c X)) (hn : n <= 1048576)
  (hC : ∀ x ∈ X, ∀ (W : World) (A : Array Value), Hid (A = (EPt.e x).toArray) -> Hid (Below w.heap.size w W) -> Calls Tryz.prog 90 #[.agg A] W fun e w' => ∃ B, e = .returned (.agg B) /\ Hid (∃ y, B = (EPt.e y).toArray /\ id y = id x /\ (fun _ _ _ (p : Ptd) => PcO p.pc) w' W.heap.size w'.heap.size y /\ Below W.heap.size W w')) :
  Calls Tryz.prog 89 #[.slice a n c, .func (.func 90) #[] #[]] w fun e w' => ∃ a', e = .returned (.slice a' n n) /\ Hid (∃ Y, Y.map id = X.map id /\ Rw w' w.heap.size w'.heap.size 108 EPt a' n n Y /\ Seg ((fun _ _ _ (p : Ptd) => PcO p.pc) w') w.heap.size w'.heap.size Y /\ Below w.heap.size w w') := by
 have LX : Hid (n = X.length) := hA.out.len
 have HC : Hid _ := hC
 clear hC
 obtain ⟨w1, mk0, cp0⟩ := cp_start (O := (fun _ _ _ (p : Ptd) => PcO p.pc)) (d := id) (E := EPt) (w := w) (n := n) Tryz.underlying75 inf108 (by decide) (by omega) hn X
 have mk := mk0
 have CP0 : Hid (Cp (fun _ _ _ (p : Ptd) => PcO p.pc) id 108 EPt w w1 n 0 X) := cp0
 clear mk0 cp0
 go_enter Tryz.func89, Tryz.ntmps89
 go_wp2
 clear mk
 obtain ⟨g0, Hg0⟩ := nm (w.heap.size)
 rw [Hg0.out]
 go_loopw [5, 13] (fun t5 t13 wr => ∃ (i : Nat), i <= n /\ t13 = .int .i64 i /\ t5 = .slice (some ⟨g0, 0, none⟩) i n /\ Hid (Cp (fun _ _ _ (p : Ptd) => PcO p.pc) id 108 EPt w wr n i X)) (fun _ t13 _ => n - (intOf t13).toNat)
 case atStart => exact ⟨0, by omega, rfl, rfl, CP0⟩
 case round =>
  clear CP0
  obtain ⟨i, hi, rfl, rfl, HP⟩ := hrel
  by_cases hlt : i < n
  . have i3 : (i : Int) < (n : Int) := by omega
    have kx : i < X.length := by rw [<- LX.out]; exact hlt
    have HB : Hid (Below w.heap.size w wr) := HP.out.choose_spec.2.2.2.1
    obtain ⟨b1, rfl, _, _, e1⟩ := (hA.out.below HB.out).at_ kx
    obtain ⟨x, Hx⟩ := nm (X[i])
    rw [Hx.out] at e1
    have EX : Hid (X[i]? = some x) := by show _ = _; rw [<- Hx.out]; exact List.getElem?_eq_getElem kx
    have MX : x ∈ X := List.mem_of_getElem? EX.out
    obtain ⟨A, HA⟩ : ∃ A, Hid (A = (EPt.e x).toArray) := ⟨_, rfl⟩
    have az : A.size = 6 := arr_sz HA.out
    have ai : (Tryz.prog.info? 108).map (·.size) = some A.size := by rw [az]; exact inz108
    have AA : Hid (A.all (·.oneCell') = true) := arr_all HA.out
    have E1 : Hid (wr.rangeAt b1 (i * 6) (EPt.e x)) := e1
    clear e1
    obtain ⟨w2, Hw2, K2⟩ := box_any wr 108 #[.int .i64 0,.int .i64 0,.int .i64 0,.int .i64 0,.int .i64 0,.string ⟨#[]⟩] A
    obtain ⟨g1, Hg1⟩ := nm (wr.heap.size)
    have LA : Hid (some A.size = some ((EPt.e x).toArray.size)) := by show _ = _; rw [HA.out]
    go_upto_region 5 with first
     | (refine wpList_load_mid (by rfl) 108 (.tmp 15) (by rfl) b1 (i * 6) (by rfl) (EPt.e x) _ E1.out Tryz.underlying108 rfl (by rw [EPt.len]; exact inz108) ?_; rw [<- HA.out])
     | (refine wpList_store_row (by rfl) 108 (.tmp 7) (.tmp 16) (by rfl) wr.heap.size A (by rfl) (by rfl) 108 _ (heap_alloc_new wr _) ai (by rw [az]; rfl) AA.out ?_)
    rw [Hw2.out, Hg1.out]
    have k1 : Hid (w2.heap[g1]? = some (.cells A 108 (0, 0))) := by rw [<- Hg1.out]; exact K2.out.1
    have B2 : Hid (Below wr.heap.size wr w2) := K2.out.2.1
    have BW := bt HB B2
    clear K2 Hw2 Hg1 E1 LA
    go_wp2_with (first
     | (refine wpList_load_row (by rfl) 108 (.tmp 7) (by rfl) g1 (by rfl) 108 A (0, 0) _ k1.out Tryz.underlying108 rfl ai ?_)
     | (go_at_call 90; refine (HC.out x MX w2 A HA BW).mono ?_; rintro e w3 ⟨B, rfl, H3⟩
        obtain ⟨y, hy1, hy2, hy3, hy4⟩ := H3.out
        have HBY : Hid (B = (EPt.e y).toArray) := hy1
        have bz : B.size = 6 := arr_sz hy1
        obtain ⟨w6, r1, r2⟩ := cp_step ptO_stays HP.out EX.out hlt Tryz.underlying75 inz108 B2.out hy4 hy2 hy3
        obtain ⟨g4, Hg4⟩ := nm (w3.heap.size)
        obtain ⟨w4, Hw4⟩ := nm (w3.alloc (.cells B 108))
        rw [<- hy1, Hw4.out, Hg4.out, Hg0.out] at r1
        have AR : Hid ((Builtin.append_ #[75, 75] 75 #[.slice (some ⟨g0, 0, none⟩) i n,.slice (some ⟨g4, 0, none⟩) 1 1]).run Tryz.prog w4 = .ok (.slice (some ⟨g0, 0, none⟩) (i + 1) n) w6) := r1
        have FIN : Hid (Cp (fun _ _ _ (p : Ptd) => PcO p.pc) id 108 EPt w w6 n (i + 1) X) := r2
        have FD : Hid (Array.foldl (fun cs (x : Value × Nat) => cs.setIfInBounds x.snd x.fst) #[.int .i64 0,.int .i64 0,.int .i64 0,.int .i64 0,.int .i64 0,.string ⟨#[]⟩] B.zipIdx 0 6 = B) := fold108 HBY.out
        clear hy1 hy2 hy3 hy4 H3 r1 r2)
     | (at_builtin; rw [FD.out, Hw4.out, Hg4.out]; refine wpList_appt (by rfl) (.tmp 17) (.tmp 21) (by rfl) (by rfl) (by rfl) (by rfl) AR ?_))
    go_roundw
    case rel => exact ⟨i + 1, by omega, by go_num, rfl, FIN⟩
    case measure => simp [intOf]; omega
  . have ein : i = n := by omega
    subst ein
    have FIN : Hid _ := cp_end HP.out LX.out
    clear HP
    go_wp2
    go_ret
    refine ⟨some ⟨g0, 0, none⟩, rfl, ?_⟩
    obtain ⟨Y, h1, h2, h3, h4⟩ := FIN.out
    exact ⟨Y, h1, by rw [<- Hg0.out]; exact h2, h3, h4⟩
theorem copyPiece_e (p : Pcd) (hp : PcO p) (w : World) (A : Array Value) (hA : Hid (A = (EPc.e p).toArray)) :
  Calls Tryz.prog 80 #[.agg A] w fun e w' => ∃ B, e = .returned (.agg B) /\ Hid (∃ y, B = (EPc.e y).toArray /\ id y = id p /\ (fun _ _ _ p => PcO p) w' w.heap.size w'.heap.size y /\ Below w.heap.size w w') := by
 rw [hA.out]
 refine (copyPiece_n p.b0 p.b1 p.b2 p.sz p.et w hp.s).mono ?_
 rintro e w' ⟨rfl, H⟩
 exact ⟨_, rfl, p, rfl, rfl, hp, H.out⟩
set_option maxHeartbeats 2000000 in
theorem copyPart_e (p : Ptd) (hp : PcO p.pc) (w : World) (A0 : Array Value) (hA : Hid (A0 = (EPt.e p).toArray)) :
  Calls Tryz.prog 90 #[.agg A0] w fun e w' => ∃ B, e = .returned (.agg B) /\ Hid (∃ y, B = (EPt.e y).toArray /\ id y = id p /\ (fun _ _ _ (p : Ptd) => PcO p.pc) w' w.heap.size w'.heap.size y /\ Below w.heap.size w w') := by
 rw [show A0 = #[.int .i64 p.no,.int .i64 p.pc.b0,.int .i64 p.pc.b1,.int .i64 p.pc.b2,.int .i64 p.pc.sz,.string p.pc.et] from hA.out]
 obtain ⟨w1, Hw1⟩ := nm ((w.alloc (.cells #[.int .i64 p.no,.int .i64 p.pc.b0,.int .i64 p.pc.b1,.int .i64 p.pc.b2,.int .i64 p.pc.sz,.string p.pc.et] 108)).alloc (.cells #[.int .i64 0,.int .i64 0,.int .i64 0,.int .i64 0,.int .i64 0,.string ⟨#[]⟩] 108))
 obtain ⟨g, Hg⟩ := nm (w.heap.size)
 have S1 : Hid (Bz 108 #[.int .i64 0,.int .i64 0,.int .i64 0,.int .i64 0,.int .i64 0,.string ⟨#[]⟩] w w1 g #[.int .i64 p.no,.int .i64 p.pc.b0,.int .i64 p.pc.b1,.int .i64 p.pc.b2,.int .i64 p.pc.sz,.string p.pc.et]) := by rw [<- Hw1.out, <- Hg.out]; exact Bz.new _ _ _ _
 have c1 := S1.out.cell (i := 1) rfl
 have c2 := S1.out.cell (i := 2) rfl
 have c3 := S1.out.cell (i := 3) rfl
 have c4 := S1.out.cell (i := 4) rfl
 have c5 := S1.out.cell (i := 5) rfl
 go_enter Tryz.func90, Tryz.ntmps90
 go_upto_region 1 with (fail)
 rw [Hw1.out, Hg.out]
 clear Hw1
 go_upto_region 2 with (go_at_call 80; refine (copyPiece_n _ _ _ _ _ _ hp.s).mono ?_; rintro e w4 ⟨rfl, H4⟩; have S6 := S1.out.below H4.out; have d1 := S6.cell (i := 1) rfl; have d2 := S6.cell (i := 2) rfl; have d3 := S6.cell (i := 3) rfl; have d4 := S6.cell (i := 4) rfl; have d5 := S6.cell (i := 5) rfl; have f1 := S6.frz 1; have f2 := S6.frz 2; have f3 := S6.frz 3; have f4 := S6.frz 4; have f5 := S6.frz 5)
 have S9 : Hid (Bz 108 #[.int .i64 0,.int .i64 0,.int .i64 0,.int .i64 0,.int .i64 0,.string ⟨#[]⟩] w (((((w4.setCell ⟨g, 1, none⟩ (.int .i64 p.pc.b0)).setCell ⟨g, 2, none⟩ (.int .i64 p.pc.b1)).setCell ⟨g, 3, none⟩ (.int .i64 p.pc.b2)).setCell ⟨g, 4, none⟩ (.int .i64 p.pc.sz)).setCell ⟨g, 5, none⟩ (.string p.pc.et)) g #[.int .i64 p.no,.int .i64 p.pc.b0,.int .i64 p.pc.b1,.int .i64 p.pc.b2,.int .i64 p.pc.sz,.string p.pc.et]) := ((((S6.set rfl).set rfl).set rfl).set rfl).set rfl
 obtain ⟨V2, HV2⟩ := nm ((((((w4.setCell ⟨g, 1, none⟩ (.int .i64 p.pc.b0)).setCell ⟨g, 2, none⟩ (.int .i64 p.pc.b1)).setCell ⟨g, 3, none⟩ (.int .i64 p.pc.b2)).setCell ⟨g, 4, none⟩ (.int .i64 p.pc.sz)).setCell ⟨g, 5, none⟩ (.string p.pc.et)))
 rw [HV2.out] at S9 ⊢
 clear HV2 c1 c2 c3 c4 c5 d1 d2 d3 d4 d5 f1 f2 f3 f4 f5 S6 H4 S1
 obtain ⟨A, HA⟩ := nm ((#[.int .i64 p.no,.int .i64 p.pc.b0,.int .i64 p.pc.b1,.int .i64 p.pc.b2,.int .i64 p.pc.sz,.string p.pc.et] : Array Value))
 have a5 : (Tryz.prog.info? 108).map (·.size) = some A.size := by rw [<- HA.out]; exact inz108
 have AA : Hid (A.all (·.oneCell') = true) := (show A.all (·.oneCell') = true by rw [<- HA.out]; kernel_rfl)
 have a6 : Hid (A.size = 6) := (show A.size = 6 by rw [<- HA.out]; rfl)
 rw [HA.out] at S9
 go_wp2_with (first
  | (refine wpList_load_row (by rfl) 108 (.tmp 1) (by rfl) g (by rfl) 108 A (0, 0) _ S9.out.b Tryz.underlying108 rfl a5 ?_)
  | (refine wpList_store_row (by rfl) 108 (.tmp 2) (.tmp 7) (by rfl) (g + 1) A (by rfl) (by rfl) 108 _ S9.out.z a5 (by rw [a6.out]; rfl) AA.out ?_))
 refine bodyPost_ret (results_cell_row Tryz.results90 _ _ (g + 1) 108 A (0, 0) _ (by rfl) (setRow_heap _ _ _ _ _ _ S9.out.z) Tryz.underlying108 rfl a5) rfl ?_
 exact ⟨A, rfl, p, HA.out.symm, rfl, hp, below_setRow S9.out.f (by have := S9.out.e; omega) _⟩
theorem inf77 : (Tryz.prog.info? 77).map (fun i => (i.zero, i.size, i.bytes)) = some (some (.agg #[.int .i64 0,.int .i64 0,.int .i64 0,.string ⟨#[]⟩,.slice none 0 0]), 5, 64) := by kernel_rfl
theorem inz77 : (Tryz.prog.info? 77).map (·.size) = some 5 := by kernel_rfl
theorem fold77 {A : Array Value} {x : Ulx} (h : A = (EUl.e x).toArray) : Array.foldl (fun cs (x : Value × Nat) => cs.setIfInBounds x.snd x.fst) #[.int .i64 0,.int .i64 0,.int .i64 0,.string ⟨#[]⟩,.slice none 0 0] A.zipIdx 0 5 = A := by
 subst h
 kernel_rfl
set_option maxHeartbeats 8000000 in
theorem copyUls {w : World} {lo hi K : Nat} {a : Option Addr} {n c : Nat} {X : List Ulx} (hA : Hid (Rw w lo hi 77 EUl a n c X)) (hn : n <= 1048576)
  (hC : ∀ x ∈ X, ∀ (W : World) (A : Array Value), Hid (A = (EUl.e x).toArray) -> Hid (Below w.heap.size w W) -> Calls Tryz.prog 56 #[.agg A] W fun e w' => ∃ B, e = .returned (.agg B) /\ Hid (∃ y, B = (EUl.e y).toArray /\ Ulx.ul y = Ulx.ul x /\ (fun W p q u => UlO K W p q u /\ u.c = u.n) w' W.heap.size w'.heap.size y /\ Below W.heap.size W w')) :
  Calls Tryz.prog 84 #[.slice a n c, .func (.func 56) #[] #[]] w fun e w' => ∃ a', e = .returned (.slice a' n n) /\ Hid (∃ Y, Y.map Ulx.ul = X.map Ulx.ul /\ Rw w' w.heap.size w'.heap.size 77 EUl a' n n Y /\ Seg ((fun W p q u => UlO K W p q u /\ u.c = u.n) w') w.heap.size w'.heap.size Y /\ Below w.heap.size w w') := by
 have LX : Hid (n = X.length) := hA.out.len
 have HC : Hid _ := hC
 clear hC
 obtain ⟨w1, mk0, cp0⟩ := cp_start (O := (fun W p q u => UlO K W p q u /\ u.c = u.n)) (d := Ulx.ul) (E := EUl) (w := w) (n := n) Tryz.underlying63 inf77 (by decide) (by omega) hn X
 have mk := mk0
 have CP0 : Hid (Cp (fun W p q u => UlO K W p q u /\ u.c = u.n) Ulx.ul 77 EUl w w1 n 0 X) := cp0
 clear mk0 cp0
 go_enter Tryz.func84, Tryz.ntmps84
 go_wp2
 clear mk
 obtain ⟨g0, Hg0⟩ := nm (w.heap.size)
 rw [Hg0.out]
 go_loopw [5, 13] (fun t5 t13 wr => ∃ (i : Nat), i <= n /\ t13 = .int .i64 i /\ t5 = .slice (some ⟨g0, 0, none⟩) i n /\ Hid (Cp (fun W p q u => UlO K W p q u /\ u.c = u.n) Ulx.ul 77 EUl w wr n i X)) (fun _ t13 _ => n - (intOf t13).toNat)
 case atStart => exact ⟨0, by omega, rfl, rfl, CP0⟩
 case round =>
  clear CP0
  obtain ⟨i, hi, rfl, rfl, HP⟩ := hrel
  by_cases hlt : i < n
  . have i3 : (i : Int) < (n : Int) := by omega
    have kx : i < X.length := by rw [<- LX.out]; exact hlt
    have HB : Hid (Below w.heap.size w wr) := HP.out.choose_spec.2.2.2.1
    obtain ⟨b1, rfl, _, _, e1⟩ := (hA.out.below HB.out).at_ kx
    obtain ⟨x, Hx⟩ := nm (X[i])
    rw [Hx.out] at e1
    have EX : Hid (X[i]? = some x) := by show _ = _; rw [<- Hx.out]; exact List.getElem?_eq_getElem kx
    have MX : x ∈ X := List.mem_of_getElem? EX.out
    obtain ⟨A, HA⟩ : ∃ A, Hid (A = (EUl.e x).toArray) := ⟨_, rfl⟩
    have az : A.size = 5 := arr_sz HA.out
    have ai : (Tryz.prog.info? 77).map (·.size) = some A.size := by rw [az]; exact inz77
    have AA : Hid (A.all (·.oneCell') = true) := arr_all HA.out
    have E1 : Hid (wr.rangeAt b1 (i * 5) (EUl.e x)) := e1
    clear e1
    obtain ⟨w2, Hw2, K2⟩ := box_any wr 77 #[.int .i64 0,.int .i64 0,.int .i64 0,.string ⟨#[]⟩,.slice none 0 0] A
    obtain ⟨g1, Hg1⟩ := nm (wr.heap.size)
    have LA : Hid (some A.size = some ((EUl.e x).toArray.size)) := by show _ = _; rw [HA.out]
    go_upto_region 5 with first
     | (refine wpList_load_mid (by rfl) 77 (.tmp 15) (by rfl) b1 (i * 5) (by rfl) (EUl.e x) _ E1.out Tryz.underlying77 rfl (by rw [EUl.len]; exact inz77) ?_; rw [<- HA.out])
     | (refine wpList_store_row (by rfl) 77 (.tmp 7) (.tmp 16) (by rfl) wr.heap.size A (by rfl) (by rfl) 77 _ (heap_alloc_new wr _) ai (by rw [az]; rfl) AA.out ?_)
    rw [Hw2.out, Hg1.out]
    have k1 : Hid (w2.heap[g1]? = some (.cells A 77 (0, 0))) := by rw [<- Hg1.out]; exact K2.out.1
    have B2 : Hid (Below wr.heap.size wr w2) := K2.out.2.1
    have BW := bt HB B2
    clear K2 Hw2 Hg1 E1 LA
    go_wp2_with (first
     | (refine wpList_load_row (by rfl) 77 (.tmp 7) (by rfl) g1 (by rfl) 77 A (0, 0) _ k1.out Tryz.underlying77 rfl ai ?_)
     | (go_at_call 56; refine (HC.out x MX w2 A HA BW).mono ?_; rintro e w3 ⟨B, rfl, H3⟩
        obtain ⟨y, hy1, hy2, hy3, hy4⟩ := H3.out
        have HBY : Hid (B = (EUl.e y).toArray) := hy1
        have bz : B.size = 5 := arr_sz hy1
        obtain ⟨w6, r1, r2⟩ := cp_step (ulC_stays K) HP.out EX.out hlt Tryz.underlying63 inz77 B2.out hy4 hy2 hy3
        obtain ⟨g4, Hg4⟩ := nm (w3.heap.size)
        obtain ⟨w4, Hw4⟩ := nm (w3.alloc (.cells B 77))
        rw [<- hy1, Hw4.out, Hg4.out, Hg0.out] at r1
        have AR : Hid ((Builtin.append_ #[63, 63] 63 #[.slice (some ⟨g0, 0, none⟩) i n,.slice (some ⟨g4, 0, none⟩) 1 1]).run Tryz.prog w4 = .ok (.slice (some ⟨g0, 0, none⟩) (i + 1) n) w6) := r1
        have FIN : Hid (Cp (fun W p q u => UlO K W p q u /\ u.c = u.n) Ulx.ul 77 EUl w w6 n (i + 1) X) := r2
        have FD : Hid (Array.foldl (fun cs (x : Value × Nat) => cs.setIfInBounds x.snd x.fst) #[.int .i64 0,.int .i64 0,.int .i64 0,.string ⟨#[]⟩,.slice none 0 0] B.zipIdx 0 5 = B) := fold77 HBY.out
        clear hy1 hy2 hy3 hy4 H3 r1 r2)
     | (at_builtin; rw [FD.out, Hw4.out, Hg4.out]; refine wpList_appt (by rfl) (.tmp 17) (.tmp 21) (by rfl) (by rfl) (by rfl) (by rfl) AR ?_))
    go_roundw
    case rel => exact ⟨i + 1, by omega, by go_num, rfl, FIN⟩
    case measure => simp [intOf]; omega
  . have ein : i = n := by omega
    subst ein
    have FIN : Hid _ := cp_end HP.out LX.out
    clear HP
    go_wp2
    go_ret
    refine ⟨some ⟨g0, 0, none⟩, rfl, ?_⟩
    obtain ⟨Y, h1, h2, h3, h4⟩ := FIN.out
    exact ⟨Y, h1, by rw [<- Hg0.out]; exact h2, h3, h4⟩
set_option maxHeartbeats 4000000 in
theorem copyUpload_e {K : Nat} (hK : K <= 1048576) {lo hi : Nat} (x : Ulx) {w : World} (hx : Hid (UlO K w lo hi x)) (A0 : Array Value) (hA : Hid (A0 = (EUl.e x).toArray)) :
  Calls Tryz.prog 56 #[.agg A0] w fun e w' => ∃ B, e = .returned (.agg B) /\ Hid (∃ y, B = (EUl.e y).toArray /\ Ulx.ul y = Ulx.ul x /\ (fun W p q (u : Ulx) => UlO K W p q u /\ u.c = u.n) w' w.heap.size w'.heap.size y /\ Below w.heap.size w w') := by
 rw [show A0 = #[.int .i64 x.ul.i0,.int .i64 x.ul.i1,.int .i64 x.ul.i2,.string x.ul.key,.slice x.a x.n x.c] from hA.out]
 obtain ⟨w1, Hw1⟩ := nm ((w.alloc (.cells #[.int .i64 x.ul.i0,.int .i64 x.ul.i1,.int .i64 x.ul.i2,.string x.ul.key,.slice x.a x.n x.c] 77)).alloc (.cells #[.int .i64 0,.int .i64 0,.int .i64 0,.string ⟨#[]⟩,.slice none 0 0] 77))
 obtain ⟨g, Hg⟩ := nm (w.heap.size)
 have S1 : Hid (Bz 77 #[.int .i64 0,.int .i64 0,.int .i64 0,.string ⟨#[]⟩,.slice none 0 0] w w1 g #[.int .i64 x.ul.i0,.int .i64 x.ul.i1,.int .i64 x.ul.i2,.string x.ul.key,.slice x.a x.n x.c]) := by rw [<- Hw1.out, <- Hg.out]; exact Bz.new _ _ _ _
 have q1 : w1.cell? ⟨g, 3, none⟩ = some (.string x.ul.key) := S1.out.cell rfl
 go_enter Tryz.func56, Tryz.ntmps56
 go_upto_region 1 with (fail)
 rw [Hw1.out, Hg.out]
 clear Hw1
 go_upto_region 2 with (go_at_call 79; refine (clone_n x.ul.key _ hx.out.s).mono ?_; rintro e w2 ⟨rfl, H2⟩; have q2 : w2.cell? ⟨g, 3, none⟩ = some (.string x.ul.key) := (S1.out.below H2.out).cell rfl; have q3 := (S1.out.below H2.out).frz 3)
 have S2 : Hid (Bz 77 #[.int .i64 0,.int .i64 0,.int .i64 0,.string ⟨#[]⟩,.slice none 0 0] w (w2.setCell ⟨g, 3, none⟩ (.string x.ul.key)) g #[.int .i64 x.ul.i0,.int .i64 x.ul.i1,.int .i64 x.ul.i2,.string x.ul.key,.slice x.a x.n x.c]) := (S1.out.below H2.out).set rfl
 obtain ⟨V2, HV2⟩ := nm (w2.setCell ⟨g, 3, none⟩ (.string x.ul.key))
 rw [HV2.out] at S2 ⊢
 clear HV2 q1 q2 q3 H2 S1
 have q4 : V2.cell? ⟨g, 4, none⟩ = some (.slice x.a x.n x.c) := S2.out.cell rfl
 have R2 : Hid (Rw V2 lo hi 108 EPt x.a x.n x.c x.ul.pts) := hx.out.r.below S2.out.f
 have HP : Hid (∀ p ∈ x.ul.pts, PcO p.pc) := hx.out.p
 have hn : x.n <= 1048576 := Nat.le_trans hx.out.k hK
 go_upto_region 3 with (go_at_call 89; refine (copyPts (K := K) R2 hn (fun p hp W A hA hW => copyPart_e p (HP.out p hp) W A hA)).mono ?_; rintro e w3 ⟨a2, rfl, H3⟩; have B3 := H3.out.choose_spec.2.2.2; have q5 : w3.cell? ⟨g, 4, none⟩ = some (.slice x.a x.n x.c) := (S2.out.below B3).cell rfl; have q6 := (S2.out.below B3).frz 4)
 have S3 : Hid (Bz 77 #[.int .i64 0,.int .i64 0,.int .i64 0,.string ⟨#[]⟩,.slice none 0 0] w (w3.setCell ⟨g, 4, none⟩ (.slice a2 x.n x.n)) g #[.int .i64 x.ul.i0,.int .i64 x.ul.i1,.int .i64 x.ul.i2,.string x.ul.key,.slice a2 x.n x.n]) := (S2.out.below B3).put 4 _
 have LG : Hid (g < V2.heap.size) := (gl S2.out.b)
 have R3 : Hid (∃ Y, Y = x.ul.pts /\ Rw (w3.setCell ⟨g, 4, none⟩ (.slice a2 x.n x.n)) V2.heap.size w3.heap.size 108 EPt a2 x.n x.n Y) := by
  obtain ⟨Y, h1, h2, h3, h4⟩ := H3.out
  refine ⟨Y, by simpa using h1, h2.keep1 (fun q e => Below.heap_setCell _ _ _ _ (show q ≠ g by have := (h2.lt e).1; have := LG.out; omega))⟩
 have Z3 : Hid (w3.heap.size = (w3.setCell ⟨g, 4, none⟩ (.slice a2 x.n x.n)).heap.size) := (by simp [World.setCell] : w3.heap.size = (w3.setCell ⟨g, 4, none⟩ (.slice a2 x.n x.n)).heap.size)
 obtain ⟨V3, HV3⟩ := nm (w3.setCell ⟨g, 4, none⟩ (.slice a2 x.n x.n))
 have LW : Hid (w.heap.size <= V2.heap.size) := S2.out.f.size
 rw [HV3.out] at S3 R3 Z3 ⊢
 clear HV3 q4 q5 q6 B3 H3 R2 S2
 obtain ⟨A, HA⟩ := nm ((#[.int .i64 x.ul.i0,.int .i64 x.ul.i1,.int .i64 x.ul.i2,.string x.ul.key,.slice a2 x.n x.n] : Array Value))
 have a5 : (Tryz.prog.info? 77).map (·.size) = some A.size := by rw [<- HA.out]; exact inz77
 have AA : Hid (A.all (·.oneCell') = true) := (show A.all (·.oneCell') = true by rw [<- HA.out]; kernel_rfl)
 have a6 : Hid (A.size = 5) := (show A.size = 5 by rw [<- HA.out]; rfl)
 have S9 : Hid (Bz 77 #[.int .i64 0,.int .i64 0,.int .i64 0,.string ⟨#[]⟩,.slice none 0 0] w V3 g A) := by rw [<- HA.out]; exact S3.out
 go_wp2_with (first
  | (refine wpList_load_row (by rfl) 77 (.tmp 1) (by rfl) g (by rfl) 77 A (0, 0) _ S9.out.b Tryz.underlying77 rfl a5 ?_)
  | (refine wpList_store_row (by rfl) 77 (.tmp 2) (.tmp 11) (by rfl) (g + 1) A (by rfl) (by rfl) 77 _ S9.out.z a5 (by rw [a6.out]; rfl) AA.out ?_))
 refine bodyPost_ret (results_cell_row Tryz.results56 _ _ (g + 1) 77 A (0, 0) _ (by rfl) (setRow_heap _ _ _ _ _ _ S9.out.z) Tryz.underlying77 rfl a5) rfl ?_
 obtain ⟨Y, rfl, h2⟩ := R3.out
 refine ⟨A, rfl, ⟨x.ul, a2, x.n, x.n⟩, HA.out.symm, rfl, ⟨⟨?_, hx.out.p, hx.out.k, hx.out.s⟩, rfl⟩, below_setRow S9.out.f (by have := S9.out.e; omega) _⟩
 refine ((h2.mono LW.out (Nat.le_of_eq (Z3.out.trans (by rw [setRow_size])))).keep1 (fun q e => setRow_other _ _ _ _ ?_))
 have h5 := (h2.lt e).1
 have h6 := LG.out
 have h7 : q ≠ g + 1 := fun e2 => by
  obtain ⟨cur, h8, _⟩ := h2.blk e
  rw [e2, S9.out.z] at h8
  simp at h8
 exact h7
theorem inf71 : (Tryz.prog.info? 71).map (fun i => (i.zero, i.size, i.bytes)) = some (some (.agg #[.string ⟨#[]⟩,.int .i64 0,.string ⟨#[]⟩,.int .i64 0,.slice none 0 0]), 5, 72) := by kernel_rfl
theorem inz71 : (Tryz.prog.info? 71).map (·.size) = some 5 := by kernel_rfl
theorem fold71 {A : Array Value} {x : Obx} (h : A = (EOb.e x).toArray) : Array.foldl (fun cs (x : Value × Nat) => cs.setIfInBounds x.snd x.fst) #[.string ⟨#[]⟩,.int .i64 0,.string ⟨#[]⟩,.int .i64 0,.slice none 0 0] A.zipIdx 0 5 = A := by
 subst h
 kernel_rfl
set_option maxHeartbeats 8000000 in
theorem copyObs {w : World} {lo hi K : Nat} {a : Option Addr} {n c : Nat} {X : List Obx} (hA : Hid (Rw w lo hi 71 EOb a n c X)) (hn : n <= 1048576)
  (hC : ∀ x ∈ X, ∀ (W : World) (A : Array Value), Hid (A = (EOb.e x).toArray) -> Hid (Below w.heap.size w W) -> Calls Tryz.prog 54 #[.agg A] W fun e w' => ∃ B, e = .returned (.agg B) /\ Hid (∃ y, B = (EOb.e y).toArray /\ Obx.ob y = Obx.ob x /\ (ObO K) w' W.heap.size w'.heap.size y /\ Below W.heap.size W w')) :
  Calls Tryz.prog 83 #[.slice a n c, .func (.func 54) #[] #[]] w fun e w' => ∃ a', e = .returned (.slice a' n n) /\ Hid (∃ Y, Y.map Obx.ob = X.map Obx.ob /\ Rw w' w.heap.size w'.heap.size 71 EOb a' n n Y /\ Seg ((ObO K) w') w.heap.size w'.heap.size Y /\ Below w.heap.size w w') := by
 have LX : Hid (n = X.length) := hA.out.len
 have HC : Hid _ := hC
 clear hC
 obtain ⟨w1, mk0, cp0⟩ := cp_start (O := (ObO K)) (d := Obx.ob) (E := EOb) (w := w) (n := n) Tryz.underlying62 inf71 (by decide) (by omega) hn X
 have mk := mk0
 have CP0 : Hid (Cp (ObO K) Obx.ob 71 EOb w w1 n 0 X) := cp0
 clear mk0 cp0
 go_enter Tryz.func83, Tryz.ntmps83
 go_wp2
 clear mk
 obtain ⟨g0, Hg0⟩ := nm (w.heap.size)
 rw [Hg0.out]
 go_loopw [5, 13] (fun t5 t13 wr => ∃ (i : Nat), i <= n /\ t13 = .int .i64 i /\ t5 = .slice (some ⟨g0, 0, none⟩) i n /\ Hid (Cp (ObO K) Obx.ob 71 EOb w wr n i X)) (fun _ t13 _ => n - (intOf t13).toNat)
 case atStart => exact ⟨0, by omega, rfl, rfl, CP0⟩
 case round =>
  clear CP0
  obtain ⟨i, hi, rfl, rfl, HP⟩ := hrel
  by_cases hlt : i < n
  . have i3 : (i : Int) < (n : Int) := by omega
    have kx : i < X.length := by rw [<- LX.out]; exact hlt
    have HB : Hid (Below w.heap.size w wr) := HP.out.choose_spec.2.2.2.1
    obtain ⟨b1, rfl, _, _, e1⟩ := (hA.out.below HB.out).at_ kx
    obtain ⟨x, Hx⟩ := nm (X[i])
    rw [Hx.out] at e1
    have EX : Hid (X[i]? = some x) := by show _ = _; rw [<- Hx.out]; exact List.getElem?_eq_getElem kx
    have MX : x ∈ X := List.mem_of_getElem? EX.out
    obtain ⟨A, HA⟩ : ∃ A, Hid (A = (EOb.e x).toArray) := ⟨_, rfl⟩
    have az : A.size = 5 := arr_sz HA.out
    have ai : (Tryz.prog.info? 71).map (·.size) = some A.size := by rw [az]; exact inz71
    have AA : Hid (A.all (·.oneCell') = true) := arr_all HA.out
    have E1 : Hid (wr.rangeAt b1 (i * 5) (EOb.e x)) := e1
    clear e1
    obtain ⟨w2, Hw2, K2⟩ := box_any wr 71 #[.string ⟨#[]⟩,.int .i64 0,.string ⟨#[]⟩,.int .i64 0,.slice none 0 0] A
    obtain ⟨g1, Hg1⟩ := nm (wr.heap.size)
    have LA : Hid (some A.size = some ((EOb.e x).toArray.size)) := by show _ = _; rw [HA.out]
    go_upto_region 5 with first
     | (refine wpList_load_mid (by rfl) 71 (.tmp 15) (by rfl) b1 (i * 5) (by rfl) (EOb.e x) _ E1.out Tryz.underlying71 rfl (by rw [EOb.len]; exact inz71) ?_; rw [<- HA.out])
     | (refine wpList_store_row (by rfl) 71 (.tmp 7) (.tmp 16) (by rfl) wr.heap.size A (by rfl) (by rfl) 71 _ (heap_alloc_new wr _) ai (by rw [az]; rfl) AA.out ?_)
    rw [Hw2.out, Hg1.out]
    have k1 : Hid (w2.heap[g1]? = some (.cells A 71 (0, 0))) := by rw [<- Hg1.out]; exact K2.out.1
    have B2 : Hid (Below wr.heap.size wr w2) := K2.out.2.1
    have BW := bt HB B2
    clear K2 Hw2 Hg1 E1 LA
    go_wp2_with (first
     | (refine wpList_load_row (by rfl) 71 (.tmp 7) (by rfl) g1 (by rfl) 71 A (0, 0) _ k1.out Tryz.underlying71 rfl ai ?_)
     | (go_at_call 54; refine (HC.out x MX w2 A HA BW).mono ?_; rintro e w3 ⟨B, rfl, H3⟩
        obtain ⟨y, hy1, hy2, hy3, hy4⟩ := H3.out
        have HBY : Hid (B = (EOb.e y).toArray) := hy1
        have bz : B.size = 5 := arr_sz hy1
        obtain ⟨w6, r1, r2⟩ := cp_step (obO_stays K) HP.out EX.out hlt Tryz.underlying62 inz71 B2.out hy4 hy2 hy3
        obtain ⟨g4, Hg4⟩ := nm (w3.heap.size)
        obtain ⟨w4, Hw4⟩ := nm (w3.alloc (.cells B 71))
        rw [<- hy1, Hw4.out, Hg4.out, Hg0.out] at r1
        have AR : Hid ((Builtin.append_ #[62, 62] 62 #[.slice (some ⟨g0, 0, none⟩) i n,.slice (some ⟨g4, 0, none⟩) 1 1]).run Tryz.prog w4 = .ok (.slice (some ⟨g0, 0, none⟩) (i + 1) n) w6) := r1
        have FIN : Hid (Cp (ObO K) Obx.ob 71 EOb w w6 n (i + 1) X) := r2
        have FD : Hid (Array.foldl (fun cs (x : Value × Nat) => cs.setIfInBounds x.snd x.fst) #[.string ⟨#[]⟩,.int .i64 0,.string ⟨#[]⟩,.int .i64 0,.slice none 0 0] B.zipIdx 0 5 = B) := fold71 HBY.out
        clear hy1 hy2 hy3 hy4 H3 r1 r2)
     | (at_builtin; rw [FD.out, Hw4.out, Hg4.out]; refine wpList_appt (by rfl) (.tmp 17) (.tmp 21) (by rfl) (by rfl) (by rfl) (by rfl) AR ?_))
    go_roundw
    case rel => exact ⟨i + 1, by omega, by go_num, rfl, FIN⟩
    case measure => simp [intOf]; omega
  . have ein : i = n := by omega
    subst ein
    have FIN : Hid _ := cp_end HP.out LX.out
    clear HP
    go_wp2
    go_ret
    refine ⟨some ⟨g0, 0, none⟩, rfl, ?_⟩
    obtain ⟨Y, h1, h2, h3, h4⟩ := FIN.out
    exact ⟨Y, h1, by rw [<- Hg0.out]; exact h2, h3, h4⟩
set_option maxHeartbeats 4000000 in
theorem copyObject_e {K : Nat} (hK : K <= 1048576) {lo hi : Nat} (x : Obx) {w : World} (hx : Hid (ObO K w lo hi x)) (A0 : Array Value) (hA : Hid (A0 = (EOb.e x).toArray)) :
  Calls Tryz.prog 54 #[.agg A0] w fun e w' => ∃ B, e = .returned (.agg B) /\ Hid (∃ y, B = (EOb.e y).toArray /\ Obx.ob y = Obx.ob x /\ ObO K w' w.heap.size w'.heap.size y /\ Below w.heap.size w w') := by
 rw [show A0 = #[.string x.ob.key,.int .i64 x.ob.size,.string x.ob.etag,.int .i64 x.ob.time,.slice x.a x.n x.c] from hA.out]
 obtain ⟨w1, Hw1⟩ := nm ((w.alloc (.cells #[.string x.ob.key,.int .i64 x.ob.size,.string x.ob.etag,.int .i64 x.ob.time,.slice x.a x.n x.c] 71)).alloc (.cells #[.string ⟨#[]⟩,.int .i64 0,.string ⟨#[]⟩,.int .i64 0,.slice none 0 0] 71))
 obtain ⟨g, Hg⟩ := nm (w.heap.size)
 have S1 : Hid (Bz 71 #[.string ⟨#[]⟩,.int .i64 0,.string ⟨#[]⟩,.int .i64 0,.slice none 0 0] w w1 g #[.string x.ob.key,.int .i64 x.ob.size,.string x.ob.etag,.int .i64 x.ob.time,.slice x.a x.n x.c]) := by rw [<- Hw1.out, <- Hg.out]; exact Bz.new _ _ _ _
 have K0 : Bz 71 #[.string ⟨#[]⟩,.int .i64 0,.string ⟨#[]⟩,.int .i64 0,.slice none 0 0] w w1.drew g #[.string x.ob.key,.int .i64 x.ob.size,.string x.ob.etag,.int .i64 x.ob.time,.slice x.a x.n x.c] := ⟨S1.out.b, S1.out.z, S1.out.f.drew, S1.out.e⟩
 clear S1
 go_enter Tryz.func54, Tryz.ntmps54
 go_upto_region 1 with (fail)
 rw [Hw1.out, Hg.out]
 clear Hw1
 refine wp_region_till (S := fun L W => Bz 71 #[.string ⟨#[]⟩,.int .i64 0,.string ⟨#[]⟩,.int .i64 0,.slice none 0 0] w W g #[.string x.ob.key,.int .i64 x.ob.size,.string x.ob.etag,.int .i64 x.ob.time,.slice x.a x.n x.c]) (by kernel_rfl) K0 (fun hS => ?_)
 clear K0
 refine tkg (i := 0) (v := .pointer (some ⟨g, 0, none⟩)) rfl hS (fun hSb => ?_)
 simp only [pA,pB,pC,Act.put,pD,pE,pF]
 clear hS
 refine trx (i := 1) (c := 2) (v := .string x.ob.key) rfl rfl (Or.inl ⟨by rfl, fun w h => by have q9 := h.cell (i := 0) rfl; go_simp⟩) hSb (fun hS => ?_)
 simp only [pA,pB,pC,Act.put,pD,pE,pF]
 clear hSb
 refine tkg (i := 3) (v := .pointer (some ⟨g, 2, none⟩)) rfl hS (fun hSb => ?_)
 simp only [pA,pB,pC,Act.put,pD,pE,pF]
 clear hS
 refine trx (i := 4) (c := 5) (v := .string x.ob.etag) rfl rfl (Or.inl ⟨by rfl, fun w h => by have q9 := h.cell (i := 2) rfl; go_simp⟩) hSb (fun hS => ?_)
 simp only [pA,pB,pC,Act.put,pD,pE,pF]
 clear hSb
 refine till_one (i := 2) (by kernel_rfl) rfl (fun K hK => ?_)
 simp only [pA,pB,pC]
 rw [if_pos (by rfl)]
 go_simp
 go_wp2_with (go_at_call 79; refine (clone_n x.ob.key _ hx.out.s.1).mono ?_; rintro e w2 ⟨rfl, H2⟩)
 refine hK.out _ _ (hS.below H2.out) (fun hSb => ?_)
 clear hK K
 try simp only [pA,pB,pC,Act.put,pD,pE,pF]
 clear hS
 refine tkg (i := 6) (v := .pointer (some ⟨g, 0, none⟩)) rfl hSb (fun hS => ?_)
 simp only [pA,pB,pC,Act.put,pD,pE,pF]
 clear hSb
 refine till_one (i := 5) (by kernel_rfl) rfl (fun K hK => ?_)
 simp only [pA,pB,pC]
 rw [if_pos (by rfl)]
 go_simp
 go_wp2_with (go_at_call 79; refine (clone_n x.ob.etag _ hx.out.s.2).mono ?_; rintro e w3 ⟨rfl, H3⟩)
 refine hK.out _ _ (hS.below H3.out) (fun hSb => ?_)
 clear hK K
 try simp only [pA,pB,pC,Act.put,pD,pE,pF]
 clear hS
 refine till_one (i := 7) (by kernel_rfl) rfl (fun K hK => ?_)
 simp only [pA,pB,pC]
 rw [if_pos (by rfl)]
 have q9 := hSb.cell (i := 0) rfl
 have q8 := hSb.frz 0
 go_simp
 refine hK.out _ _ (hSb.set rfl) (fun hS => ?_)
 clear hK K
 try simp only [pA,pB,pC,Act.put,pD,pE,pF]
 clear hSb
 refine tkg (i := 8) (v := .pointer (some ⟨g, 2, none⟩)) rfl hS (fun hSb => ?_)
 simp only [pA,pB,pC,Act.put,pD,pE,pF]
 clear hS
 refine till_one (i := 9) (by kernel_rfl) rfl (fun K hK => ?_)
 simp only [pA,pB,pC]
 rw [if_pos (by rfl)]
 have q9 := hSb.cell (i := 2) rfl
 have q8 := hSb.frz 2
 go_simp
 refine hK.out _ _ (hSb.set rfl) (fun hS => ?_)
 clear hK K
 try simp only [pA,pB,pC,Act.put,pD,pE,pF]
 clear hSb
 have S4 := hS
 refine till_done (by kernel_rfl) ?_ _
 clear hS
 show (Exit.then _ _) .normal _ _
 obtain ⟨V2, HV2⟩ := nm ((w3.setCell ⟨g, 0, none⟩ (.string x.ob.key)).setCell ⟨g, 2, none⟩ (.string x.ob.etag))
 rw [HV2.out] at S4 ⊢
 clear HV2 H2 H3
 have S2 : Hid (Bz 71 #[.string ⟨#[]⟩,.int .i64 0,.string ⟨#[]⟩,.int .i64 0,.slice none 0 0] w V2 g #[.string x.ob.key,.int .i64 x.ob.size,.string x.ob.etag,.int .i64 x.ob.time,.slice x.a x.n x.c]) := S4
 clear S4
 have q4 : V2.cell? ⟨g, 4, none⟩ = some (.slice x.a x.n x.c) := S2.out.cell rfl
 have R2 : Hid (Rw V2 lo hi 26 EPc x.a x.n x.c x.ob.pcs) := hx.out.r.below S2.out.f
 have HP : Hid (∀ p ∈ x.ob.pcs, PcO p) := hx.out.p
 have hn : x.n <= 1048576 := Nat.le_trans hx.out.k hK
 go_upto_region 3 with (go_at_call 86; refine (copyPcs (K := K) R2 hn (fun p hp W A hA hW => copyPiece_e p (HP.out p hp) W A hA)).mono ?_; rintro e w3 ⟨a2, rfl, H3⟩; have B3 := H3.out.choose_spec.2.2.2; have q5 : w3.cell? ⟨g, 4, none⟩ = some (.slice x.a x.n x.c) := (S2.out.below B3).cell rfl; have q6 := (S2.out.below B3).frz 4)
 have S3 : Hid (Bz 71 #[.string ⟨#[]⟩,.int .i64 0,.string ⟨#[]⟩,.int .i64 0,.slice none 0 0] w (w3.setCell ⟨g, 4, none⟩ (.slice a2 x.n x.n)) g #[.string x.ob.key,.int .i64 x.ob.size,.string x.ob.etag,.int .i64 x.ob.time,.slice a2 x.n x.n]) := (S2.out.below B3).put 4 _
 have LG : Hid (g < V2.heap.size) := (gl S2.out.b)
 have R3 : Hid (∃ Y, Y = x.ob.pcs /\ Rw (w3.setCell ⟨g, 4, none⟩ (.slice a2 x.n x.n)) V2.heap.size w3.heap.size 26 EPc a2 x.n x.n Y) := by
  obtain ⟨Y, h1, h2, h3, h4⟩ := H3.out
  refine ⟨Y, by simpa using h1, h2.keep1 (fun q e => Below.heap_setCell _ _ _ _ (show q ≠ g by have := (h2.lt e).1; have := LG.out; omega))⟩
 have Z3 : Hid (w3.heap.size = (w3.setCell ⟨g, 4, none⟩ (.slice a2 x.n x.n)).heap.size) := (by simp [World.setCell] : w3.heap.size = (w3.setCell ⟨g, 4, none⟩ (.slice a2 x.n x.n)).heap.size)
 obtain ⟨V3, HV3⟩ := nm (w3.setCell ⟨g, 4, none⟩ (.slice a2 x.n x.n))
 have LW : Hid (w.heap.size <= V2.heap.size) := S2.out.f.size
 rw [HV3.out] at S3 R3 Z3 ⊢
 clear HV3 q4 q5 q6 B3 H3 R2 S2
 obtain ⟨A, HA⟩ := nm ((#[.string x.ob.key,.int .i64 x.ob.size,.string x.ob.etag,.int .i64 x.ob.time,.slice a2 x.n x.n] : Array Value))
 have a5 : (Tryz.prog.info? 71).map (·.size) = some A.size := by rw [<- HA.out]; exact inz71
 have AA : Hid (A.all (·.oneCell') = true) := (show A.all (·.oneCell') = true by rw [<- HA.out]; kernel_rfl)
 have a6 : Hid (A.size = 5) := (show A.size = 5 by rw [<- HA.out]; rfl)
 have S9 : Hid (Bz 71 #[.string ⟨#[]⟩,.int .i64 0,.string ⟨#[]⟩,.int .i64 0,.slice none 0 0] w V3 g A) := by rw [<- HA.out]; exact S3.out
 go_wp2_with (first
  | (refine wpList_load_row (by rfl) 71 (.tmp 1) (by rfl) g (by rfl) 71 A (0, 0) _ S9.out.b Tryz.underlying71 rfl a5 ?_)
  | (refine wpList_store_row (by rfl) 71 (.tmp 2) (.tmp 15) (by rfl) (g + 1) A (by rfl) (by rfl) 71 _ S9.out.z a5 (by rw [a6.out]; rfl) AA.out ?_))
 refine bodyPost_ret (results_cell_row Tryz.results54 _ _ (g + 1) 71 A (0, 0) _ (by rfl) (setRow_heap _ _ _ _ _ _ S9.out.z) Tryz.underlying71 rfl a5) rfl ?_
 obtain ⟨Y, rfl, h2⟩ := R3.out
 refine ⟨A, rfl, ⟨x.ob, a2, x.n, x.n⟩, HA.out.symm, rfl, ⟨?_, hx.out.p, hx.out.k, hx.out.s⟩, below_setRow S9.out.f (by have := S9.out.e; omega) _⟩
 refine ((h2.mono LW.out (Nat.le_of_eq (Z3.out.trans (by rw [setRow_size])))).keep1 (fun q e => setRow_other _ _ _ _ ?_))
 exact fun e2 => by
  obtain ⟨cur, h8, _⟩ := h2.blk e
  rw [e2, S9.out.z] at h8
  simp at h8
end Go.Proofs.YtfabnnbljkkihaaGreatDoor
