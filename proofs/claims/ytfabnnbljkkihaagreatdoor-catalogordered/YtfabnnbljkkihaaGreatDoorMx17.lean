import Derived.Test.YtfabnnbljkkihaaGreatDoorMxp
import Derived.Test.YtfabnnbljkkihaaGreatDoorMx15
import Derived.Test.YtfabnnbljkkihaaGreatDoorMx16
namespace Go.Proofs.YtfabnnbljkkihaaGreatDoor
open Go.ChangeShapes Go.WideShapes Go.ChangeAt Go.RowKit
set_option maxRecDepth 20000
set_option linter.unusedVariables false
set_option linter.unusedSimpArgs false
structure SU (W : World) (b h g : Nat) (i0 i1 i2 : Int) (x : Ulx) : Prop where
 e0 : W.cell? ⟨b, h * 5, none⟩ = some (.int .i64 x.ul.i0)
 e1 : W.cell? ⟨b, h * 5 + 1, none⟩ = some (.int .i64 x.ul.i1)
 e2 : W.cell? ⟨b, h * 5 + 2, none⟩ = some (.int .i64 x.ul.i2)
 e3 : W.cell? ⟨b, h * 5 + 3, none⟩ = some (.string x.ul.key)
 e4 : W.cell? ⟨b, h * 5 + 4, none⟩ = some (.slice x.a x.n x.c)
 m0 : W.cell? ⟨g, 0, none⟩ = some (.int .i64 i0)
 m1 : W.cell? ⟨g, 1, none⟩ = some (.int .i64 i1)
 m2 : W.cell? ⟨g, 2, none⟩ = some (.int .i64 i2)
theorem SU.below {W W' : World} {b h g : Nat} {i0 i1 i2 : Int} {x : Ulx} (s : SU W b h g i0 i1 i2 x) (hb : Below W.heap.size W W') : SU W' b h g i0 i1 i2 x :=
 ⟨(hb.cell (p := ⟨b, h * 5, none⟩) (cell_lt s.e0)).trans s.e0, (hb.cell (p := ⟨b, h * 5 + 1, none⟩) (cell_lt s.e1)).trans s.e1, (hb.cell (p := ⟨b, h * 5 + 2, none⟩) (cell_lt s.e2)).trans s.e2, (hb.cell (p := ⟨b, h * 5 + 3, none⟩) (cell_lt s.e3)).trans s.e3, (hb.cell (p := ⟨b, h * 5 + 4, none⟩) (cell_lt s.e4)).trans s.e4, (hb.cell (p := ⟨g, 0, none⟩) (cell_lt s.m0)).trans s.m0, (hb.cell (p := ⟨g, 1, none⟩) (cell_lt s.m1)).trans s.m1, (hb.cell (p := ⟨g, 2, none⟩) (cell_lt s.m2)).trans s.m2⟩
theorem su_of {W : World} {b h g : Nat} {i0 i1 i2 : Int} {x : Ulx} (hr : W.rangeAt b (h * 5) (EUl.e x)) (hg : W.heap[g]? = some (.cells #[.int .i64 i0,.int .i64 i1,.int .i64 i2] 24 (0, 0))) : SU W.drew b h g i0 i1 i2 x :=
 ⟨hr 0 _ rfl, hr 1 _ rfl, hr 2 _ rfl, hr 3 _ rfl, hr 4 _ rfl, cell_arr hg rfl, cell_arr hg rfl, cell_arr hg rfl⟩
set_option maxHeartbeats 16000000 in
theorem bsfU {w : World} {lo hi : Nat} {a : Option Addr} {n c : Nat} {X : List Ulx} (i0 i1 i2 : Int) (hA : Hid (Rw w lo hi 77 EUl a n c X)) (hn : n <= 1048576) :
  Calls Tryz.prog 115 #[.slice a n c, .agg #[.int .i64 i0,.int .i64 i1,.int .i64 i2], .func (.func 88) #[] #[]] w fun e w' => e = .returned (.tuple #[.int .i64 (plcB (byU i0 i1 i2) (X.map Ulx.ul) : Nat), .bool (isB (byU i0 i1 i2) (X.map Ulx.ul))]) /\ Hid (Below w.heap.size w w') := by
 have LX : Hid (n = X.length) := hA.out.len
 have LD : Hid ((X.map Ulx.ul).length = n) := by show _ = _; rw [List.length_map]; exact LX.out.symm
 obtain ⟨p, Hp⟩ : ∃ p : Nat -> Bool, Hid ((fun h => ((X.map Ulx.ul)[h]?).any (fun x => decide (byU i0 i1 i2 x < 0))) = p) := ⟨_, rfl⟩
 have HPL : Hid (plcB (byU i0 i1 i2) (X.map Ulx.ul) = bsr p n 0 n) := by show _ = _; unfold plcB; rw [Hp.out, LD.out]
 have HPX : Hid (∀ h x, X[h]? = some x -> p h = decide (byU i0 i1 i2 (Ulx.ul x) < 0)) := fun h x hx => by rw [<- Hp.out]; simp [hx]
 obtain ⟨w1, Hw1⟩ := nm (w.alloc (.cells #[.int .i64 i0,.int .i64 i1,.int .i64 i2] 24))
 obtain ⟨g, Hg⟩ := nm (w.heap.size)
 have B1 : Hid (Below w.heap.size w w1) := by rw [<- Hw1.out]; exact alloc1 w _
 have k1 : Hid (w1.heap[g]? = some (.cells #[.int .i64 i0,.int .i64 i1,.int .i64 i2] 24 (0, 0))) := by rw [<- Hw1.out, <- Hg.out]; exact heap_alloc_new w _
 have A1 : Hid (Rw w1 lo hi 77 EUl a n c X) := hA.out.below B1.out
 go_enter Tryz.func115, Tryz.ntmps115
 go_upto_region 1 with (fail)
 rw [Hw1.out, Hg.out]
 clear Hw1
 go_wp2
 go_loopw [9, 10] (fun t9 t10 wr => ∃ (i j : Nat), i <= j /\ j <= n /\ t9 = .int .i64 i /\ t10 = .int .i64 j /\ Hid (bsr p n i j = bsr p n 0 n) /\ Hid (Below w1.heap.size w1 wr)) (fun t9 t10 _ => (intOf t10).toNat - (intOf t9).toNat)
 case atStart => exact ⟨0, n, by omega, by omega, rfl, rfl, rfl, Below.refl _ _⟩
 case round =>
  obtain ⟨i, j, hij, hjn, rfl, rfl, HI, HB⟩ := hrel
  have kr := sh HB k1
  by_cases hlt : i < j
  . have i3 : (i : Int) < (j : Int) := by omega
    obtain ⟨h, Hh⟩ := nm ((i + j) / 2)
    have hh : ((i : Int) + (j : Int)) / 2 = (h : Int) := by have := Hh.out; omega
    have hi2 : i <= h /\ h < j := by have := Hh.out; omega
    have hhn : h < n := by omega
    have i5 : (h : Int) < (n : Int) := by omega
    have kx : h < X.length := by rw [<- LX.out]; exact hhn
    obtain ⟨b1, rfl, _, _, e1⟩ := (A1.out.below HB.out).at_ kx
    obtain ⟨x, Hx⟩ := nm (X[h])
    rw [Hx.out] at e1
    have EX : Hid (X[h]? = some x) := by show _ = _; rw [<- Hx.out]; exact List.getElem?_eq_getElem kx
    have SS : Hid (SU wr.drew b1 h g i0 i1 i2 x) := su_of e1 kr.out
    have STP := bsr_step p (k := n) (lo := i) (hi := j) (by omega) hlt
    rw [Hh.out, HPX.out h x EX.out] at STP
    have HST : Hid (bsr p n i j = if decide (byU i0 i1 i2 (Ulx.ul x) < 0) = true then bsr p n (h + 1) j else bsr p n i h) := STP
    clear e1 STP Hx kx
    obtain ⟨v, Hv⟩ := nm (byU i0 i1 i2 (Ulx.ul x))
    by_cases hv : v < 0
    . have HN : Hid (bsr p n (h + 1) j = bsr p n 0 n) := by show _ = _; rw [<- HI.out, HST.out, Hv.out, if_pos (decide_eq_true hv)]
      go_upto_region 5 with (fail)
      refine wp_region_till (S := fun L W => SU W b1 h g i0 i1 i2 x) (by kernel_rfl) SS.out (fun hS => ?_)
      refine tkg (i := 0) (v := .func (.func 88) #[] #[]) rfl hS (fun hSb => ?_)
      simp only [pA,pB,pC,Act.put,pD,pE,pF]
      clear hS
      refine tkg (i := 1) (v := .slice (some ⟨b1, 0, none⟩) n c) rfl hSb (fun hS => ?_)
      simp only [pA,pB,pC,Act.put,pD,pE,pF]
      clear hSb
      refine tkg (i := 2) (v := .int .i64 (h : Int)) rfl hS (fun hSb => ?_)
      simp only [pA,pB,pC,Act.put,pD,pE,pF]
      clear hS
      refine tkg (i := 3) (v := .pointer (some ⟨b1, h * 5, none⟩)) rfl hSb (fun hS => ?_)
      simp only [pA,pB,pC,Act.put,pD,pE,pF]
      clear hSb
      refine trx (i := 4) (c := 6) (v := .agg #[.int .i64 x.ul.i0,.int .i64 x.ul.i1,.int .i64 x.ul.i2,.string x.ul.key,.slice x.a x.n x.c]) rfl rfl (Or.inl ⟨by rfl, fun w h => by have q0 := h.e0; have q1 := h.e1; have q2 := h.e2; have q3 := h.e3; have q4 := h.e4; go_simp⟩) hS (fun hSb => ?_)
      simp only [pA,pB,pC,Act.put,pD,pE,pF]
      clear hS
      refine trx (i := 5) (c := 6) (v := .agg #[.int .i64 i0,.int .i64 i1,.int .i64 i2]) rfl rfl (Or.inl ⟨by rfl, fun w h => by have q0 := h.m0; have q1 := h.m1; have q2 := h.m2; go_simp⟩) hSb (fun hS => ?_)
      simp only [pA,pB,pC,Act.put,pD,pE,pF]
      clear hSb
      refine till_one (i := 6) (by kernel_rfl) rfl (fun K hK => ?_)
      simp only [pA,pB,pC]
      rw [if_pos (by rfl)]
      go_simp
      go_wp2_with (go_at_call 88; refine (byId_n (x := x) (show Hid _ from rfl) i0 i1 i2).mono ?_; rintro e w3 ⟨rfl, H3⟩; rw [Hv.out])
      refine hK.out _ _ (hS.below H3.out) (fun hSb => ?_)
      clear hK K
      try simp only [pA,pB,pC,Act.put,pD,pE,pF]
      clear hS
      refine tkg (i := 7) (v := .bool true) rfl hSb (fun hS => ?_)
      simp only [pA,pB,pC,Act.put,pD,pE,pF]
      clear hSb
      refine till_done (by kernel_rfl) ?_ _
      clear hS
      show (Exit.then _ _) .normal _ _
      have BN : Hid (Below w1.heap.size w1 w3) := (HB.out.trans (Below.refl _ wr).drew).trans (H3.out.mono HB.out.size)
      clear H3
      go_wp2
      go_roundw
      case rel => exact ⟨h + 1, j, by omega, hjn, by go_num, rfl, HN.out, BN.out⟩
      case measure => simp [intOf]; omega
    . have hv2 : ¬ (v < 0) := hv
      have HN : Hid (bsr p n i h = bsr p n 0 n) := by show _ = _; rw [<- HI.out, HST.out, Hv.out, if_neg (by simpa using hv)]
      go_upto_region 5 with (fail)
      refine wp_region_till (S := fun L W => SU W b1 h g i0 i1 i2 x) (by kernel_rfl) SS.out (fun hS => ?_)
      refine tkg (i := 0) (v := .func (.func 88) #[] #[]) rfl hS (fun hSb => ?_)
      simp only [pA,pB,pC,Act.put,pD,pE,pF]
      clear hS
      refine tkg (i := 1) (v := .slice (some ⟨b1, 0, none⟩) n c) rfl hSb (fun hS => ?_)
      simp only [pA,pB,pC,Act.put,pD,pE,pF]
      clear hSb
      refine tkg (i := 2) (v := .int .i64 (h : Int)) rfl hS (fun hSb => ?_)
      simp only [pA,pB,pC,Act.put,pD,pE,pF]
      clear hS
      refine tkg (i := 3) (v := .pointer (some ⟨b1, h * 5, none⟩)) rfl hSb (fun hS => ?_)
      simp only [pA,pB,pC,Act.put,pD,pE,pF]
      clear hSb
      refine trx (i := 4) (c := 6) (v := .agg #[.int .i64 x.ul.i0,.int .i64 x.ul.i1,.int .i64 x.ul.i2,.string x.ul.key,.slice x.a x.n x.c]) rfl rfl (Or.inl ⟨by rfl, fun w h => by have q0 := h.e0; have q1 := h.e1; have q2 := h.e2; have q3 := h.e3; have q4 := h.e4; go_simp⟩) hS (fun hSb => ?_)
      simp only [pA,pB,pC,Act.put,pD,pE,pF]
      clear hS
      refine trx (i := 5) (c := 6) (v := .agg #[.int .i64 i0,.int .i64 i1,.int .i64 i2]) rfl rfl (Or.inl ⟨by rfl, fun w h => by have q0 := h.m0; have q1 := h.m1; have q2 := h.m2; go_simp⟩) hSb (fun hS => ?_)
      simp only [pA,pB,pC,Act.put,pD,pE,pF]
      clear hSb
      refine till_one (i := 6) (by kernel_rfl) rfl (fun K hK => ?_)
      simp only [pA,pB,pC]
      rw [if_pos (by rfl)]
      go_simp
      go_wp2_with (go_at_call 88; refine (byId_n (x := x) (show Hid _ from rfl) i0 i1 i2).mono ?_; rintro e w3 ⟨rfl, H3⟩; rw [Hv.out])
      refine hK.out _ _ (hS.below H3.out) (fun hSb => ?_)
      clear hK K
      try simp only [pA,pB,pC,Act.put,pD,pE,pF]
      clear hS
      refine tkg (i := 7) (v := .bool false) rfl hSb (fun hS => ?_)
      simp only [pA,pB,pC,Act.put,pD,pE,pF]
      clear hSb
      refine till_done (by kernel_rfl) ?_ _
      clear hS
      show (Exit.then _ _) .normal _ _
      have BN : Hid (Below w1.heap.size w1 w3) := (HB.out.trans (Below.refl _ wr).drew).trans (H3.out.mono HB.out.size)
      clear H3
      go_wp2
      go_roundw
      case rel => exact ⟨i, h, by omega, by omega, rfl, rfl, HN.out, BN.out⟩
      case measure => simp [intOf]; omega
  . obtain rfl : i = j := by omega
    have HPI : Hid (plcB (byU i0 i1 i2) (X.map Ulx.ul) = i) := by show _ = _; rw [HPL.out, <- HI.out, bsr_done _ _ _ _ (by omega)]
    by_cases hin : i < n
    . have i3 : (i : Int) < (n : Int) := by omega
      have kx : i < X.length := by rw [<- LX.out]; exact hin
      obtain ⟨b1, rfl, _, _, e1⟩ := (A1.out.below HB.out).at_ kx
      obtain ⟨x, Hx⟩ := nm (X[i])
      rw [Hx.out] at e1
      have EX : Hid (X[i]? = some x) := by show _ = _; rw [<- Hx.out]; exact List.getElem?_eq_getElem kx
      have SS : Hid (SU wr.drew b1 i g i0 i1 i2 x) := su_of e1 kr.out
      clear e1 Hx kx
      obtain ⟨v, Hv⟩ := nm (byU i0 i1 i2 (Ulx.ul x))
      have HIS : Hid (isB (byU i0 i1 i2) (X.map Ulx.ul) = (v == 0)) := by
       show _ = _
       unfold isB
       rw [HPI.out, <- Hv.out]
       simp [EX.out]
       by_cases h0 : byU i0 i1 i2 x.ul = 0 <;> simp [h0]
      go_upto_region 8 with (fail)
      refine wp_region_till (S := fun L W => SU W b1 i g i0 i1 i2 x) (by kernel_rfl) SS.out (fun hS => ?_)
      refine tkg (i := 0) (v := .int .i64 (i : Int)) rfl hS (fun hSb => ?_)
      simp only [pA,pB,pC,Act.put,pD,pE,pF]
      clear hS
      refine tkg (i := 1) (v := .int .i64 (i : Int)) rfl hSb (fun hS => ?_)
      simp only [pA,pB,pC,Act.put,pD,pE,pF]
      clear hSb
      refine tkg (i := 2) (v := .int .i64 (n : Int)) rfl hS (fun hSb => ?_)
      simp only [pA,pB,pC,Act.put,pD,pE,pF]
      clear hS
      refine tkg (i := 3) (v := .bool true) rfl hSb (fun hS => ?_)
      simp only [pA,pB,pC,Act.put,pD,pE,pF]
      clear hSb
      refine tkg (i := 4) (v := .bool true) rfl hS (fun hSb => ?_)
      simp only [pA,pB,pC,Act.put,pD,pE,pF]
      clear hS
      refine tkg (i := 5) (v := .func (.func 88) #[] #[]) rfl hSb (fun hS => ?_)
      simp only [pA,pB,pC,Act.put,pD,pE,pF]
      clear hSb
      refine tkg (i := 6) (v := .slice (some ⟨b1, 0, none⟩) n c) rfl hS (fun hSb => ?_)
      simp only [pA,pB,pC,Act.put,pD,pE,pF]
      clear hS
      refine tkg (i := 7) (v := .int .i64 (i : Int)) rfl hSb (fun hS => ?_)
      simp only [pA,pB,pC,Act.put,pD,pE,pF]
      clear hSb
      refine tkg (i := 8) (v := .pointer (some ⟨b1, i * 5, none⟩)) rfl hS (fun hSb => ?_)
      simp only [pA,pB,pC,Act.put,pD,pE,pF]
      clear hS
      refine trx (i := 9) (c := 11) (v := .agg #[.int .i64 x.ul.i0,.int .i64 x.ul.i1,.int .i64 x.ul.i2,.string x.ul.key,.slice x.a x.n x.c]) rfl rfl (Or.inl ⟨by rfl, fun w h => by have q0 := h.e0; have q1 := h.e1; have q2 := h.e2; have q3 := h.e3; have q4 := h.e4; go_simp⟩) hSb (fun hS => ?_)
      simp only [pA,pB,pC,Act.put,pD,pE,pF]
      clear hSb
      refine trx (i := 10) (c := 11) (v := .agg #[.int .i64 i0,.int .i64 i1,.int .i64 i2]) rfl rfl (Or.inl ⟨by rfl, fun w h => by have q0 := h.m0; have q1 := h.m1; have q2 := h.m2; go_simp⟩) hS (fun hSb => ?_)
      simp only [pA,pB,pC,Act.put,pD,pE,pF]
      clear hS
      refine till_one (i := 11) (by kernel_rfl) rfl (fun K hK => ?_)
      simp only [pA,pB,pC]
      rw [if_pos (by rfl)]
      go_simp
      go_wp2_with (go_at_call 88; refine (byId_n (x := x) (show Hid _ from rfl) i0 i1 i2).mono ?_; rintro e w3 ⟨rfl, H3⟩; rw [Hv.out])
      refine hK.out _ _ (hSb.below H3.out) (fun hS => ?_)
      clear hK K
      try simp only [pA,pB,pC,Act.put,pD,pE,pF]
      clear hSb
      refine tkg (i := 12) (v := .bool (v == 0)) rfl hS (fun hSb => ?_)
      simp only [pA,pB,pC,Act.put,pD,pE,pF]
      clear hS
      refine tkg (i := 13) (v := .bool (v == 0)) rfl hSb (fun hS => ?_)
      simp only [pA,pB,pC,Act.put,pD,pE,pF]
      clear hSb
      refine tkg (i := 14) (v := .int .i64 (i : Int)) rfl hS (fun hSb => ?_)
      simp only [pA,pB,pC,Act.put,pD,pE,pF]
      clear hS
      refine tkg (i := 15) (v := .bool (v == 0)) rfl hSb (fun hS => ?_)
      simp only [pA,pB,pC,Act.put,pD,pE,pF]
      clear hSb
      refine till_done (by kernel_rfl) ?_ _
      clear hS
      show (Exit.then _ _) .normal _ _
      have BN : Hid (Below w1.heap.size w1 w3) := (HB.out.trans (Below.refl _ wr).drew).trans (H3.out.mono HB.out.size)
      clear H3
      go_wp2
      go_ret2
      exact ⟨by rw [HPI.out, HIS.out]; rfl, B1.out.trans (BN.out.mono B1.out.size)⟩
    . have i4 : ¬ ((i : Int) < (n : Int)) := by omega
      have HIS : Hid (isB (byU i0 i1 i2) (X.map Ulx.ul) = false) := by
       show _ = _
       unfold isB
       rw [HPI.out, List.getElem?_eq_none (by rw [LD.out]; omega)]
       rfl
      go_upto_region 8 with (fail)
      refine wp_region_till (S := fun L W => True) (by kernel_rfl) trivial (fun hS => ?_)
      refine tkg (i := 0) (v := .int .i64 (i : Int)) rfl hS (fun hSb => ?_)
      simp only [pA,pB,pC,Act.put,pD,pE,pF]
      clear hS
      refine tkg (i := 1) (v := .int .i64 (i : Int)) rfl hSb (fun hS => ?_)
      simp only [pA,pB,pC,Act.put,pD,pE,pF]
      clear hSb
      refine tkg (i := 2) (v := .int .i64 (n : Int)) rfl hS (fun hSb => ?_)
      simp only [pA,pB,pC,Act.put,pD,pE,pF]
      clear hS
      refine tkg (i := 3) (v := .bool false) rfl hSb (fun hS => ?_)
      simp only [pA,pB,pC,Act.put,pD,pE,pF]
      clear hSb
      refine tkg (i := 4) (v := .bool false) rfl hS (fun hSb => ?_)
      simp only [pA,pB,pC,Act.put,pD,pE,pF]
      clear hS
      refine tkx (i := 5) (v := undef) rfl (fun L w => Iff.rfl) (Or.inr ⟨by rfl, rfl⟩) hSb (fun hS => ?_)
      simp only [pA,pB,pC,Act.put,pD,pE,pF]
      clear hSb
      refine tkx (i := 6) (v := undef) rfl (fun L w => Iff.rfl) (Or.inr ⟨by rfl, rfl⟩) hS (fun hSb => ?_)
      simp only [pA,pB,pC,Act.put,pD,pE,pF]
      clear hS
      refine tkx (i := 7) (v := undef) rfl (fun L w => Iff.rfl) (Or.inr ⟨by rfl, rfl⟩) hSb (fun hS => ?_)
      simp only [pA,pB,pC,Act.put,pD,pE,pF]
      clear hSb
      refine tkx (i := 8) (v := undef) rfl (fun L w => Iff.rfl) (Or.inr ⟨by rfl, rfl⟩) hS (fun hSb => ?_)
      simp only [pA,pB,pC,Act.put,pD,pE,pF]
      clear hS
      refine tkx (i := 9) (v := undef) rfl (fun L w => Iff.rfl) (Or.inr ⟨by rfl, rfl⟩) hSb (fun hS => ?_)
      simp only [pA,pB,pC,Act.put,pD,pE,pF]
      clear hSb
      refine tkx (i := 10) (v := undef) rfl (fun L w => Iff.rfl) (Or.inr ⟨by rfl, rfl⟩) hS (fun hSb => ?_)
      simp only [pA,pB,pC,Act.put,pD,pE,pF]
      clear hS
      refine till_one (i := 11) (by kernel_rfl) rfl (fun K hK => ?_)
      simp only [pA,pB,pC]
      rw [if_neg (by intro h; have h2 : false = true := h; cases h2)]
      refine hK.out _ _ trivial (fun hS => ?_)
      clear hK K
      try simp only [pA,pB,pC,Act.put,pD,pE,pF]
      clear hSb
      refine tkx (i := 12) (v := undef) rfl (fun L w => Iff.rfl) (Or.inr ⟨by rfl, rfl⟩) hS (fun hSb => ?_)
      simp only [pA,pB,pC,Act.put,pD,pE,pF]
      clear hS
      refine tkg (i := 13) (v := .bool false) rfl hSb (fun hS => ?_)
      simp only [pA,pB,pC,Act.put,pD,pE,pF]
      clear hSb
      refine tkg (i := 14) (v := .int .i64 (i : Int)) rfl hS (fun hSb => ?_)
      simp only [pA,pB,pC,Act.put,pD,pE,pF]
      clear hS
      refine tkg (i := 15) (v := .bool false) rfl hSb (fun hS => ?_)
      simp only [pA,pB,pC,Act.put,pD,pE,pF]
      clear hSb
      refine till_done (by kernel_rfl) ?_ _
      clear hS
      show (Exit.then _ _) .normal _ _
      go_wp2
      go_ret2
      exact ⟨by rw [HPI.out, HIS.out]; rfl, (B1.out.trans (HB.out.mono B1.out.size)).drew⟩
theorem findU {w : World} {lo hi : Nat} {a : Option Addr} {n c : Nat} {X : List Ulx} (i0 i1 i2 : Int) (hA : Hid (Rw w lo hi 77 EUl a n c X)) (hn : n <= 1048576) :
  Calls Tryz.prog 87 #[.slice a n c, .agg #[.int .i64 i0,.int .i64 i1,.int .i64 i2], .func (.func 88) #[] #[]] w fun e w' => e = .returned (.tuple #[.int .i64 (plcB (byU i0 i1 i2) (X.map Ulx.ul) : Nat), .bool (isB (byU i0 i1 i2) (X.map Ulx.ul))]) /\ Hid (Below w.heap.size w w') := by
 obtain ⟨w1, Hw1⟩ := nm (w.alloc (.cells #[.int .i64 i0,.int .i64 i1,.int .i64 i2] 24))
 obtain ⟨g, Hg⟩ := nm (w.heap.size)
 have B1 : Hid (Below w.heap.size w w1) := by rw [<- Hw1.out]; exact alloc1 w _
 have k1 : Hid (w1.heap[g]? = some (.cells #[.int .i64 i0,.int .i64 i1,.int .i64 i2] 24 (0, 0))) := by rw [<- Hw1.out, <- Hg.out]; exact heap_alloc_new w _
 have u0 : w1.cell? ⟨g, 0, none⟩ = some (.int .i64 i0) := cell_arr k1.out rfl
 have u1 : w1.cell? ⟨g, 1, none⟩ = some (.int .i64 i1) := cell_arr k1.out rfl
 have u2 : w1.cell? ⟨g, 2, none⟩ = some (.int .i64 i2) := cell_arr k1.out rfl
 have A1 : Hid (Rw w1 lo hi 77 EUl a n c X) := hA.out.below B1.out
 go_enter Tryz.func87, Tryz.ntmps87
 go_upto_region 1 with (fail)
 rw [Hw1.out, Hg.out]
 clear Hw1
 go_wp2_with (go_at_call 115; refine (bsfU i0 i1 i2 A1 hn).mono ?_; rintro e w2 ⟨rfl, H2⟩)
 go_ret2
 exact ⟨rfl, B1.out.trans (H2.out.mono B1.out.size)⟩
set_option maxHeartbeats 4000000 in
theorem insEU {w : World} {lo hi : Nat} {a : Option Addr} {n c vb : Nat} {X : List Ulx} {y : Ulx} (hA : Hid (Rw w lo hi 77 EUl a n c X)) (hlo : lo <= w.heap.size) (hn : n + 1 <= 1048576) (hv : Hid (w.heap[vb]? = some (.cells (EUl.e y).toArray 77 (0, 0)))) :
  Calls Tryz.prog 121 #[.slice a n c,.int .i64 n,.slice (some ⟨vb, 0, none⟩) 1 1] w fun e w' => ∃ a' c', e = .returned (.slice a' (n + 1) c') /\ Hid (Rw w' lo w'.heap.size 77 EUl a' (n + 1) c' (X ++ [y]) /\ Ch w w' (fun q => blkOf a = some q)) := by
 obtain ⟨a', c', w', r1, f1, f2⟩ := app_end hA.out hn hlo Tryz.underlying63 inf77 rfl (by decide) hv.out
 have HA : Hid ((Builtin.append_ #[63, 63] 63 #[.slice a n c,.slice (some ⟨vb, 0, none⟩) 1 1]).run Tryz.prog w = .ok (.slice a' (n + 1) c') w') := r1
 have F : Hid (Rw w' lo w'.heap.size 77 EUl a' (n + 1) c' (X ++ [y]) /\ Ch w w' (fun q => blkOf a = some q)) := ⟨f1, f2⟩
 have i1 : n <= c := hA.out.cap
 clear r1 f1 f2
 go_enter Tryz.func121, Tryz.ntmps121
 go_wp2_with (at_builtin; refine wpList_appt (by rfl) (.tmp 23) (.tmp 24) (by rfl) (by rfl) (by rfl) (by rfl) HA ?_)
 all_goals
  go_ret
  exact ⟨a', c', rfl, F.out⟩
set_option maxHeartbeats 8000000 in
theorem set_U {w : World} {lo hi : Nat} {a : Option Addr} {n : Nat} {X : List Ulx} {y : Ulx} {A : Array Value} (i0 i1 i2 : Int) (hA : Hid (Rw w lo hi 77 EUl a n n X)) (hlo : lo <= w.heap.size) (hn : n + 1 <= 1048576) (hy : Hid (A = (EUl.e y).toArray)) :
  Calls Tryz.prog 100 #[.slice a n n, .agg #[.int .i64 i0,.int .i64 i1,.int .i64 i2], .func (.func 88) #[] #[], .agg A] w fun e w' => ∃ a' n' c', e = .returned (.slice a' n' c') /\ Hid (Rw w' lo w'.heap.size 77 EUl a' n' c' (setX (byU i0 i1 i2) Ulx.ul X y) /\ Ch w w' (fun q => blkOf a = some q)) := by
 have LX : Hid (n = X.length) := hA.out.len
 have az : A.size = 5 := arr_sz hy.out
 have ai : (Tryz.prog.info? 77).map (·.size) = some A.size := by rw [az]; exact inz77
 have AA : Hid (A.all (·.oneCell') = true) := arr_all hy.out
 obtain ⟨w1, Hw1⟩ := nm ((w.alloc (.cells #[.int .i64 i0,.int .i64 i1,.int .i64 i2] 24)).alloc (.cells A 77))
 obtain ⟨g, Hg⟩ := nm (w.heap.size)
 have B1 : Hid (Below w.heap.size w w1) := by rw [<- Hw1.out]; exact alloc2 w _ _
 have k1 : Hid (w1.heap[g + 1]? = some (.cells A 77 (0, 0))) := by
  rw [<- Hw1.out, <- Hg.out]
  have e : (w.alloc (.cells #[.int .i64 i0,.int .i64 i1,.int .i64 i2] 24)).heap.size = w.heap.size + 1 := by simp
  rw [<- e]
  exact heap_alloc_new _ _
 have ku : Hid (w1.heap[g]? = some (.cells #[.int .i64 i0,.int .i64 i1,.int .i64 i2] 24 (0, 0))) := by
  rw [<- Hw1.out, <- Hg.out]
  exact ((alloc1 (w.alloc (.cells #[.int .i64 i0,.int .i64 i1,.int .i64 i2] 24)) _).block w.heap.size (by simp)).trans (heap_alloc_new w _)
 have u0 : w1.cell? ⟨g, 0, none⟩ = some (.int .i64 i0) := cell_arr ku.out rfl
 have u1 : w1.cell? ⟨g, 1, none⟩ = some (.int .i64 i1) := cell_arr ku.out rfl
 have u2 : w1.cell? ⟨g, 2, none⟩ = some (.int .i64 i2) := cell_arr ku.out rfl
 have A1 : Hid (Rw w1 lo hi 77 EUl a n n X) := hA.out.below B1.out
 obtain ⟨p, Hp⟩ := nm (plcB (byU i0 i1 i2) (X.map Ulx.ul))
 have Hpd : Hid (plcB (byU i0 i1 i2) (X.map Ulx.ul) = p) := by exact Hp.out
 have pn : p <= n := by rw [<- Hp.out, LX.out]; rw [<- List.length_map (f := Ulx.ul)]; exact plcB_le _ _
 have FD : Hid (Array.foldl (fun cs (x : Value × Nat) => cs.setIfInBounds x.snd x.fst) #[.int .i64 0,.int .i64 0,.int .i64 0,.string ⟨#[]⟩,.slice none 0 0] A.zipIdx 0 5 = A) := fold77 hy.out
 go_enter Tryz.func100, Tryz.ntmps100
 go_upto_region 1 with (fail)
 rw [Hw1.out, Hg.out]
 clear Hw1
 by_cases hb : isB (byU i0 i1 i2) (X.map Ulx.ul) = true
 . have HS : Hid (isB (byU i0 i1 i2) (X.map Ulx.ul) = true) := hb
   have HSd : Hid (isB (byU i0 i1 i2) (X.map Ulx.ul) = true) := by exact hb
   have pl : p < n := by rw [<- Hp.out, LX.out]; rw [<- List.length_map (f := Ulx.ul)]; exact isB_lt hb
   clear hb
   obtain ⟨b, rfl, _, _, _⟩ := A1.out.at_ (i := p) (by rw [<- LX.out]; exact pl)
   go_upto_region 4 with (go_at_call 87; refine (findU i0 i1 i2 A1 (by omega)).mono ?_; rintro e w2 ⟨rfl, H2⟩; rw [Hp.out, HS.out])
   clear u0 u1 u2 pn
   have k2 := sh H2 k1
   have A2 : Hid (Rw w2 lo hi 77 EUl (some ⟨b, 0, none⟩) n n X) := A1.out.below H2.out
   have T2 : Hid (w2.there b (p * 5) A.size) := by rw [az]; exact A2.out.thereAt pl
   go_wp2_with (first
    | (refine wpList_load_row (by rfl) 77 (.tmp 7) (by rfl) (g + 1) (by rfl) 77 A (0, 0) _ k2.out Tryz.underlying77 rfl ai ?_)
    | (refine wpList_store_mid (by rfl) 77 (.tmp 28) (.tmp 27) (by rfl) b (p * 5) A (by rfl) (by rfl) T2.out ai AA.out ?_))
   go_ret
   refine ⟨_, n, n, rfl, ?_, ?_⟩
   . unfold setX
     rw [if_pos HSd.out, Hpd.out]
     have e : A.toList = EUl.e y := by rw [hy.out]
     rw [e]
     exact (A2.out.setAt pl y).full
   . exact ((Ch.below B1.out).trans (Ch.below H2.out)).trans ((ch_setCells _ _ _).weak (fun q _ h => by rw [h]; rfl))
 . have HS : Hid (isB (byU i0 i1 i2) (X.map Ulx.ul) = false) := Bool.eq_false_iff.2 hb
   have HSd : Hid (¬ isB (byU i0 i1 i2) (X.map Ulx.ul) = true) := by exact hb
   clear hb
   go_upto_region 3 with (go_at_call 87; refine (findU i0 i1 i2 A1 (by omega)).mono ?_; rintro e w2 ⟨rfl, H2⟩; rw [Hp.out, HS.out])
   have k2 := sh H2 k1
   obtain ⟨gv, Hgv⟩ := nm (w2.heap.size)
   obtain ⟨w3, Hw3⟩ := nm (w2.alloc (.cells A 77))
   have b3 : Hid (Below w2.heap.size w2 w3) := by rw [<- Hw3.out]; exact alloc1 w2 _
   have k3 : Hid (w3.heap[gv]? = some (.cells (EUl.e y).toArray 77 (0, 0))) := by rw [<- Hw3.out, <- Hgv.out, <- hy.out]; exact heap_alloc_new w2 _
   have B3 : Hid (Below w.heap.size w w3) := (B1.out.trans (H2.out.mono B1.out.size)).trans (b3.out.mono (Nat.le_trans B1.out.size H2.out.size))
   have A3 : Hid (Rw w3 lo hi 77 EUl a n n X) := hA.out.below B3.out
   have L3 : lo <= w3.heap.size := Nat.le_trans hlo B3.out.size
   have SX : Hid (setX (byU i0 i1 i2) Ulx.ul X y = X.take p ++ y :: X.drop p) := by show _ = _; unfold setX; rw [if_neg HSd.out, Hpd.out]
   clear b3 u0 u1 u2
   by_cases hpn : p < n
   . go_wp2_with (first
      | (refine wpList_load_row (by rfl) 77 (.tmp 7) (by rfl) (g + 1) (by rfl) 77 A (0, 0) _ k2.out Tryz.underlying77 rfl ai ?_)
      | (go_at_call 121; rw [FD.out, Hw3.out, Hgv.out]; refine (insU A3 (by omega) hpn k3).mono ?_; rintro e w4 ⟨a', c', rfl, H4⟩))
     go_ret
     refine ⟨a', n + 1, c', rfl, ?_, (Ch.below B3.out).trans (Ch.below H4.out.2)⟩
     rw [SX.out]
     exact H4.out.1.mono L3 (Nat.le_refl _)
   . obtain rfl : p = n := by omega
     go_wp2_with (first
      | (refine wpList_load_row (by rfl) 77 (.tmp 7) (by rfl) (g + 1) (by rfl) 77 A (0, 0) _ k2.out Tryz.underlying77 rfl ai ?_)
      | (go_at_call 121; rw [FD.out, Hw3.out, Hgv.out]; refine (insEU A3 L3 hn k3).mono ?_; rintro e w4 ⟨a', c', rfl, H4⟩))
     go_ret
     refine ⟨a', p + 1, c', rfl, ?_, (Ch.below B3.out).trans H4.out.2⟩
     rw [SX.out, List.take_of_length_le (by have := LX.out; omega), List.drop_of_length_le (by have := LX.out; omega)]
     exact H4.out.1
set_option maxHeartbeats 8000000 in
theorem out_U {w : World} {lo hi : Nat} {a : Option Addr} {n : Nat} {X : List Ulx} (i0 i1 i2 : Int) (hA : Hid (Rw w lo hi 77 EUl a n n X)) (hn : n <= 1048576) :
  Calls Tryz.prog 106 #[.slice a n n, .agg #[.int .i64 i0,.int .i64 i1,.int .i64 i2], .func (.func 88) #[] #[]] w fun e w' => ∃ n', e = .returned (.slice a n' n) /\ Hid (Rw w' lo hi 77 EUl a n' n (outX (byU i0 i1 i2) Ulx.ul X) /\ Ch w w' (fun q => blkOf a = some q)) := by
 have LX : Hid (n = X.length) := hA.out.len
 obtain ⟨w1, Hw1⟩ := nm (w.alloc (.cells #[.int .i64 i0,.int .i64 i1,.int .i64 i2] 24))
 obtain ⟨g, Hg⟩ := nm (w.heap.size)
 have B1 : Hid (Below w.heap.size w w1) := by rw [<- Hw1.out]; exact alloc1 w _
 have ku : Hid (w1.heap[g]? = some (.cells #[.int .i64 i0,.int .i64 i1,.int .i64 i2] 24 (0, 0))) := by rw [<- Hw1.out, <- Hg.out]; exact heap_alloc_new w _
 have u0 : w1.cell? ⟨g, 0, none⟩ = some (.int .i64 i0) := cell_arr ku.out rfl
 have u1 : w1.cell? ⟨g, 1, none⟩ = some (.int .i64 i1) := cell_arr ku.out rfl
 have u2 : w1.cell? ⟨g, 2, none⟩ = some (.int .i64 i2) := cell_arr ku.out rfl
 have A1 : Hid (Rw w1 lo hi 77 EUl a n n X) := hA.out.below B1.out
 obtain ⟨p, Hp⟩ := nm (plcB (byU i0 i1 i2) (X.map Ulx.ul))
 go_enter Tryz.func106, Tryz.ntmps106
 go_upto_region 1 with (fail)
 rw [Hw1.out, Hg.out]
 clear Hw1
 by_cases hb : isB (byU i0 i1 i2) (X.map Ulx.ul) = true
 . have HS : Hid (isB (byU i0 i1 i2) (X.map Ulx.ul) = true) := hb
   have pl : p < n := by rw [<- Hp.out, LX.out]; rw [<- List.length_map (f := Ulx.ul)]; exact isB_lt hb
   clear hb
   obtain ⟨b, rfl, _, _, _⟩ := A1.out.at_ (i := p) (by rw [<- LX.out]; exact pl)
   go_upto_region 4 with (go_at_call 87; refine (findU i0 i1 i2 A1 (by omega)).mono ?_; rintro e w2 ⟨rfl, H2⟩; rw [Hp.out, HS.out])
   clear u0 u1 u2
   have A2 : Hid (Rw w2 lo hi 77 EUl (some ⟨b, 0, none⟩) n n X) := A1.out.below H2.out
   go_wp2_with (go_at_call 130; refine (del_U A2 hn pl).mono ?_; rintro e w3 ⟨rfl, H3⟩)
   go_ret
   refine ⟨n - 1, rfl, ?_, ((Ch.below B1.out).trans (Ch.below H2.out)).trans (H3.out.2.weak (fun q _ h => by rw [h]; rfl))⟩
   unfold outX
   rw [if_pos HS.out, Hp.out]
   exact H3.out.1
 . have HS : Hid (isB (byU i0 i1 i2) (X.map Ulx.ul) = false) := Bool.eq_false_iff.2 hb
   have HN : Hid (¬ isB (byU i0 i1 i2) (X.map Ulx.ul) = true) := hb
   clear hb
   go_wp2_with (go_at_call 87; refine (findU i0 i1 i2 A1 (by omega)).mono ?_; rintro e w2 ⟨rfl, H2⟩; rw [Hp.out, HS.out])
   go_ret
   refine ⟨n, rfl, ?_, (Ch.below B1.out).trans (Ch.below H2.out)⟩
   unfold outX
   rw [if_neg HN.out]
   exact A1.out.below H2.out
end Go.Proofs.YtfabnnbljkkihaaGreatDoor
