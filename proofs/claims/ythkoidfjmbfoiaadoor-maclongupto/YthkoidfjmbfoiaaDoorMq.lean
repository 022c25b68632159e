/- The law MacLong walked: it returns true, and changes nothing that was there. -/
import Derived.Test.YthkoidfjmbfoiaaDoorMp
namespace Go.Proofs.YthkoidfjmbfoiaaDoor
open Go.ChangeShapes Go.WideShapes Go.ChangeAt Go.RowKit
set_option linter.unusedVariables false
set_option linter.unusedSimpArgs false
/- the derived key of all words beside the one that grows -/
structure Lg (w wr : World) (gd md gw mw : Nat) (D K : List Nat) : Prop where
  sd : Sln wr (some ⟨gd, 0, none⟩) md D
  sw : Sln wr (some ⟨gw, 0, none⟩) mw K
  bel : Below w.heap.size w wr
set_option maxRecDepth 20000 in
set_option maxHeartbeats 2000000 in
theorem long_law (w : World) {ak am a1 a2 : Option Addr} {nk ck nm cm n1 c1 n2 c2 : Nat} {key msg : List Nat} {one two : List ByteArray} (SK : Hid (Sln w ak nk key)) (zk : Hid (ak = none → ck = 0)) (hk : nk ≤ ck) (SM : Hid (Sln w am nm msg)) (zm : Hid (am = none → cm = 0)) (hmc : nm ≤ cm)
    (S1 : Hid (Sws w a1 n1 one)) (z1 : Hid (a1 = none → c1 = 0)) (S2 : Hid (Sws w a2 n2 two)) (z2 : Hid (a2 = none → c2 = 0)) (bk : nk ≤ 140737488351232) (bm : nm ≤ 140737488352192) (b12 : n1 + n2 ≤ 1048576) (hKs : Hid (Kst w)) (h0 : Hid (0 < w.heap.size)) :
    Calls Tryd.prog 8 #[.agg #[.slice ak nk ck, .slice am nm cm, .slice a1 n1 c1, .slice a2 n2 c2]] w fun e w' => e = .returned (.bool true) ∧ Hid (Below w.heap.size w w') := by
  obtain ⟨sm, MM⟩ : ∃ sm, Hid (Gs.mac key msg = sm) := ⟨_, rfl⟩
  have EQ : ∀ w', (Op.equalIn 10000 25 (.agg (cs .u8 sm)) (.agg (cs .u8 sm))).run Tryd.prog w' = .ok true w' := eq_same sm (by rw [← MM.out]; exact mac_length _ _)
  obtain ⟨D, HD⟩ : ∃ D, Hid (derive (spell key) (one ++ two) = D) := ⟨_, rfl⟩
  obtain ⟨k0, K0⟩ : ∃ k, Hid (bol ++ bytesOf (spell key) = k) := ⟨_, rfl⟩
  have ksz : (spell key).size ≤ 140737488351232 := by rw [← bytesOf_length, bytesOf_spell SK.out.lt, ← SK.out.len]; exact bk
  have E1 : Hid (n1 = one.length) := S1.out.len
  have E2 : Hid (n2 = two.length) := S2.out.len
  obtain ⟨wb, WB⟩ : ∃ wb, Hid (w.alloc (.cells #[.slice ak nk ck, .slice am nm cm, .slice a1 n1 c1, .slice a2 n2 c2] 36) = wb) := ⟨_, rfl⟩
  have BB : Hid (Below w.heap.size w wb) := by rw [← WB.out]; exact (Below.refl _ _).alloc (Nat.le_refl _) _
  have hb0 : wb.heap[w.heap.size]? = some (.cells #[.slice ak nk ck, .slice am nm cm, .slice a1 n1 c1, .slice a2 n2 c2] 36) := by rw [← WB.out]; exact heap_alloc_new w _
  have f0 : ∀ j, (wb.drewN j).cell? ⟨w.heap.size, 0, none⟩ = some (.slice ak nk ck) := fun j => by rw [cell_drewN]; simp [World.cell?, hb0]
  have f1 : ∀ j, (wb.drewN j).cell? ⟨w.heap.size, 1, none⟩ = some (.slice am nm cm) := fun j => by rw [cell_drewN]; simp [World.cell?, hb0]
  have f2 : ∀ j, (wb.drewN j).cell? ⟨w.heap.size, 2, none⟩ = some (.slice a1 n1 c1) := fun j => by rw [cell_drewN]; simp [World.cell?, hb0]
  have f3 : ∀ j, (wb.drewN j).cell? ⟨w.heap.size, 3, none⟩ = some (.slice a2 n2 c2) := fun j => by rw [cell_drewN]; simp [World.cell?, hb0]
  clear hb0
  go_enter Tryd.func8, Tryd.ntmps8
  go_upto_region 1 with (fail)
  refine (show _ = wb from WB.out) ▸ ?_
  have g0 := f0 0
  have g1 := f1 0
  have g2 := f2 0
  have g3 := f3 0
  rw [show wb.drewN 0 = wb from rfl] at g0 g1 g2 g3
  clear f0 f1 f2 f3
  go_quiet (fail)
  clear g0 g1 g2 g3
  obtain ⟨wq, hwq⟩ : ∃ wq, wq = wb.drewN nq := ⟨_, rfl⟩
  have BQ : Hid (Below w.heap.size w wq) := by rw [hwq]; exact below_drewN BB.out nq
  rw [← hwq]
  clear hwq WB BB
  have TQ : Hid (Kst wq) := hKs.out.below BQ.out h0.out
  have ZQ : Hid (0 < wq.heap.size) := Nat.lt_of_lt_of_le h0.out BQ.out.size
  go_upto_region 4 with (first
    | (go_at_call 14; refine (malive_n _ TQ ZQ).mono ?_; rintro e w1 ⟨rfl, H1⟩))
  have B1 : Hid (Below w.heap.size w w1) := BQ.out.trans (H1.out.mono BQ.out.size)
  clear H1 TQ ZQ BQ
  have Ba1 : Hid (Below w.heap.size w (w1.alloc (.cells #[] 9))) := B1.out.alloc B1.out.size _
  obtain ⟨g2, d2, w2, ap2, o2, gr2⟩ := app_str (c := c1) (own_new9 w1) (S1.out.below Ba1.out) z1.out (by omega) (by simp)
  rw [Nat.zero_add, List.nil_append] at o2
  rw [Nat.zero_add] at ap2
  have B2 : Hid (Below w.heap.size w w2) := Ba1.out.grown gr2 Ba1.out.size (fun j e => by simp at e; have := B1.out.size; omega)
  have hB2 : w1.heap.size ≤ w2.heap.size := by have h := gr2.size; simp at h; omega
  obtain ⟨g3, d3, w3, ap3, o3, gr3⟩ := app_str (c := c2) o2 (S2.out.below B2.out) z2.out (by omega) hB2
  have B3 : Hid (Below w.heap.size w w3) := B2.out.grown gr3 B2.out.size (fun j e => by simp at e; have := own_lt9 o2; have := B1.out.size; omega)
  have S3 : Hid (Sws w3 (some ⟨g3, 0, none⟩) (n1 + n2) (one ++ two)) := own_sws o3 (by omega) (fun x hx => by
    rcases List.mem_append.1 hx with h | h
    · exact S1.out.sz x h
    · exact S2.out.sz x h)
  have AP2 : Hid ((Builtin.append_ #[30, 30] 30 #[.slice (some ⟨w1.heap.size, 0, none⟩) 0 0, .slice a1 n1 c1]).run Tryd.prog (w1.alloc (.cells #[] 9)) = .ok (.slice (some ⟨g2, 0, none⟩) n1 d2) w2) := ap2
  have AP3 : Hid ((Builtin.append_ #[30, 30] 30 #[.slice (some ⟨g2, 0, none⟩) n1 d2, .slice a2 n2 c2]).run Tryd.prog w2 = .ok (.slice (some ⟨g3, 0, none⟩) (n1 + n2) d3) w3) := ap3
  clear ap2 ap3 o2 o3 gr2 gr3 hB2
  go_upto_region 5 with (first
    | (at_builtin; refine Lib.wpList_append_run _ (by rfl) (.tmp 23) (.tmp 24) 30 30 (by rfl) _ _ (by rfl) (by rfl) _ _ AP2.out ?_)
    | (at_builtin; refine Lib.wpList_append_run _ (by rfl) (.tmp 25) (.tmp 26) 30 30 (by rfl) _ _ (by rfl) (by rfl) _ _ AP3.out ?_))
  have P3 : Hid (Sln w3 ak nk key) := SK.out.below B3.out
  have CV3 : (convert 22 9 (.slice ak nk ck)).run Tryd.prog w3 = .ok (.string (spell key)) w3 := conv_n P3
  have T3 : Hid (Kst w3) := hKs.out.below B3.out h0.out
  have Z3 : Hid (0 < w3.heap.size) := Nat.lt_of_lt_of_le h0.out B3.out.size
  go_upto_region 6 with (first
    | (go_at_call 17; refine (derive_n ksz S3 T3 Z3).mono ?_; rintro e w4 ⟨gd, md, cd, rfl, H4⟩))
  clear CV3 T3 Z3 P3 S3 AP2 AP3 Ba1 B2 B1
  have B4 : Hid (Below w.heap.size w w4) := B3.out.trans (H4.out.2.bel.mono B3.out.size)
  have SD4 : Hid (Sln w4 (some ⟨gd, 0, none⟩) md D) := by rw [← HD.out]; exact H4.out.2.s
  have P4 : Hid (Sln w4 ak nk key) := SK.out.below B4.out
  have CV4 : (convert 22 9 (.slice ak nk ck)).run Tryd.prog w4 = .ok (.string (spell key)) w4 := conv_n P4
  have O4 : Hid (Sws w4 a1 n1 one) := S1.out.below B4.out
  go_upto_region 7 with (first
    | (go_at_call 18; refine (refderive_n ksz O4).mono ?_; rintro e w5 ⟨gw, mw, cw, rfl, H5⟩))
  clear CV4 P4 O4 H4 B3
  have B5 : Hid (Below w.heap.size w w5) := B4.out.trans (H5.out.2.bel.mono B4.out.size)
  have L5 : Hid (mw ≤ cw ∧ Lg w w5 gd md gw mw D (deriveN k0 (one ++ two) (n1 + 0))) := by
    refine ⟨H5.out.1, SD4.out.below H5.out.2.bel, ?_, B5.out⟩
    have h := H5.out.2.s
    rw [Nat.add_zero, E1.out, deriveN_first, ← K0.out]
    exact h
  clear H5 B4 SD4 B5
  go_wp2
  go_loopw [38, 9] (fun ti tw wr => ∃ i g m cap : Nat, i ≤ n2 ∧ ti = .int .i64 i ∧ tw = .slice (some ⟨g, 0, none⟩) m cap ∧ Hid (m ≤ cap ∧ Lg w wr gd md g m D (deriveN k0 (one ++ two) (n1 + i)))) (fun ti _ _ => n2 - (intOf ti).toNat)
  case atStart => exact ⟨0, _, _, _, by omega, rfl, rfl, L5.out⟩
  case round =>
    obtain ⟨i, g, m, cap, hi, rfl, rfl, HK⟩ := hrel
    by_cases hlt : i < n2
    · have i1 : (0 : Int) ≤ (i : Int) := by omega
      have i2 : (i : Int) < (n2 : Int) := by omega
      have WR : Hid (Sws wr a2 n2 two) := S2.out.below HK.out.2.bel
      obtain ⟨b, off, hab, cw'⟩ := WR.out.at_ hlt
      have sz := WR.out.size hlt
      obtain ⟨wd, WD⟩ : ∃ wd, Hid (two.getD i ByteArray.empty = wd) := ⟨_, rfl⟩
      rw [WD.out] at cw' sz
      have CV := run_cv wr wd
      obtain ⟨x2, W2⟩ : ∃ w2, Hid (cvW wr wd = w2) := ⟨_, rfl⟩
      rw [W2.out] at CV
      have B2 : Hid (Below wr.heap.size wr x2) := by rw [← W2.out]; exact cvW_below wr wd
      have S2' : Hid (Sln x2 (some ⟨wr.heap.size, 0, none⟩) wd.size (bytesOf wd)) := by rw [← W2.out]; exact cvW_sln wr wd (by omega)
      have F2 : Hid (wd.size ≤ cvC wr wd) := cvC_ge wr wd
      have K2 : Hid (Sln x2 (some ⟨g, 0, none⟩) m (deriveN k0 (one ++ two) (n1 + i))) := HK.out.2.sw.below B2.out
      have bel2 : Hid (Below w.heap.size w x2) := HK.out.2.bel.trans (B2.out.mono HK.out.2.bel.size)
      have T2 : Hid (Kst x2) := hKs.out.below bel2.out h0.out
      have Z2 : Hid (0 < x2.heap.size) := Nat.lt_of_lt_of_le h0.out bel2.out.size
      subst hab
      clear sz
      go_upto_region 11 with (first
        | (go_at_call 15; refine (macsum_n K2 HK.out.1 S2' F2.out T2 Z2).mono ?_; rintro e w3 ⟨d, rfl, H3⟩
           clear CV cw'
           have L3 : Hid (d.length = 32) := by rw [H3.out.1]; exact mac_length _ _
           have N3 : Hid (Arr .u8 25 (w3.alloc (.cells (cs .u8 Zb32) 25)) w3.heap.size Zb32) := Arr.new w3 .u8 25 Zb32
           obtain ⟨w4, W4⟩ : ∃ w4, Hid ((w3.alloc (.cells (cs .u8 Zb32) 25)).setRow w3.heap.size (cs .u8 d) = w4) := ⟨_, rfl⟩
           have A4 : Hid (Arr .u8 25 w4 w3.heap.size d) := by rw [← W4.out]; exact N3.out.setRow d
           have B34 : Hid (Below w3.heap.size w3 w4) := by rw [← W4.out]; exact (Oth.setRow _).below ((Below.refl _ _).alloc (Nat.le_refl _) _) (Nat.le_refl _)
           have BR4 : Hid (Below wr.heap.size wr w4) := (B2.out.trans (H3.out.2.mono B2.out.size)).trans (B34.out.mono (Nat.le_trans B2.out.size H3.out.2.size)))
        | (refine wpList_st0 (t := 25) (l := Zb32) (l2 := d) (by rfl) (by rfl) 25 (.tmp 12) (.tmp 45) (by rfl) (by rfl) (by rfl) N3 (by rw [L3.out]; exact sz25) (by rw [L3.out]; rfl) ?_; refine (show _ = w4 from W4.out) ▸ ?_))
      have dl : ∀ x ∈ d, x < 256 := by rw [H3.out.1]; exact mac_lt _ _
      have B5 : Below w4.heap.size w4 (w4.alloc (.cells #[] 5)) := (Below.refl _ _).alloc (Nat.le_refl _) _
      have S5 := Blk0.sln (A4.out.below B5 A4.out.lt) dl L3.out (by omega)
      obtain ⟨g6, c6, w6, ap6, o6, gr6⟩ := app_own (c := 32) (own_new w4) S5 (by simp) (by omega) (by simp)
      rw [Nat.zero_add, List.nil_append] at o6
      rw [Nat.zero_add] at ap6
      have AP6 : Hid ((Builtin.append_ #[22, 22] 22 #[.slice (some ⟨w4.heap.size, 0, none⟩) 0 0, .slice (some ⟨w3.heap.size, 0, none⟩) 32 32]).run Tryd.prog (w4.alloc (.cells #[] 5)) = .ok (.slice (some ⟨g6, 0, none⟩) 32 c6) w6) := ap6
      have B46 : Below w4.heap.size w4 w6 := B5.grown gr6 B5.size (fun j e => by simp at e; omega)
      have BR6 : Hid (Below wr.heap.size wr w6) := BR4.out.trans (B46.mono BR4.out.size)
      have L6 : Hid (32 ≤ c6 ∧ Lg w w6 gd md g6 32 D (deriveN k0 (one ++ two) (n1 + (i + 1)))) := by
        refine ⟨own_cap o6, HK.out.2.sd.below BR6.out, ?_, HK.out.2.bel.trans (BR6.out.mono HK.out.2.bel.size)⟩
        have e : deriveN k0 (one ++ two) (n1 + (i + 1)) = d := by
          show Gs.mac (deriveN k0 (one ++ two) (n1 + i)) (bytesOf ((one ++ two).getD (n1 + i) ByteArray.empty)) = d
          rw [show (one ++ two).getD (n1 + i) ByteArray.empty = wd from by rw [E1.out, getD_second, WD.out], H3.out.1]
        rw [e]
        exact Row.sln (own_row o6) (own_lt2 o6) L3.out.symm dl (by rw [L3.out]; omega)
      clear dl B5 S5 ap6 o6 gr6 B46
      go_wp2_with (at_builtin; refine wpList_app (by rfl) (.tmp 46) (.tmp 47) (by rfl) (by rfl) (by rfl) (by rfl) AP6 ?_)
      go_roundw
      case rel => exact ⟨i + 1, g6, 32, c6, by omega, by go_num, rfl, L6.out⟩
      case measure => simp [intOf]; omega
    · have i2 : ¬ ((i : Int) < (n2 : Int)) := by omega
      have SA : Hid (sameB D (deriveN k0 (one ++ two) (n1 + i)) = true) := by
        have e : D = deriveN k0 (one ++ two) (n1 + i) := by
          rw [← HD.out, ← K0.out, show n1 + i = (one ++ two).length from by rw [List.length_append, ← E1.out, ← E2.out]; omega]
          rfl
        rw [← e]
        exact sameB_refl D
      have QD : Hid (Sln wr (some ⟨gd, 0, none⟩) md D) := HK.out.2.sd
      have QW : Hid (Sln wr (some ⟨g, 0, none⟩) m (deriveN k0 (one ++ two) (n1 + i))) := HK.out.2.sw
      have BW : Hid (Below w.heap.size w wr) := HK.out.2.bel
      have PK : Hid (Sln wr ak nk key) := SK.out.below BW.out
      have PM : Hid (Sln wr am nm msg) := SM.out.below BW.out
      have TW : Hid (Kst wr) := hKs.out.below BW.out h0.out
      have ZW : Hid (0 < wr.heap.size) := Nat.lt_of_lt_of_le h0.out BW.out.size
      clear HK
      go_wp2_with (fail)
      refine (same_n QD QW).mono ?_
      rintro e w7 ⟨rfl, h7⟩
      rw [h7.out, SA.out]
      clear h7
      go_wp2_with (fail)
      refine (macsum_n PK hk PM hmc TW ZW).mono ?_
      rintro e w8 ⟨d8, rfl, H8⟩
      have s8 : sm = d8 := MM.out.symm.trans H8.out.1.symm
      subst s8
      have B8 : Hid (Below w.heap.size w w8) := BW.out.trans (H8.out.2.mono BW.out.size)
      have PK8 : Hid (Sln w8 ak nk key) := SK.out.below B8.out
      have PM8 : Hid (Sln w8 am nm msg) := SM.out.below B8.out
      go_wp2_with (fail)
      refine (refmac_n PK8 zk PM8 zm bm).mono ?_
      rintro e w9 ⟨d9, rfl, H9⟩
      have s9 : sm = d9 := MM.out.symm.trans H9.out.1.symm
      subst s9
      have B9 : Hid (Below w.heap.size w w9) := B8.out.trans (H9.out.2.mono B8.out.size)
      go_wp2
      go_ret
      exact ⟨rfl, B9.out⟩
end Go.Proofs.YthkoidfjmbfoiaaDoor
