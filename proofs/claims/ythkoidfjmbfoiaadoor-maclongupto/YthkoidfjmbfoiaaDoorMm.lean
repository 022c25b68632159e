/- What package mac's Derive and the document's do to a machine, for all secrets and words. -/
import Derived.Test.YthkoidfjmbfoiaaDoorMl
namespace Go.Proofs.YthkoidfjmbfoiaaDoor
open Go.ChangeShapes Go.WideShapes Go.ChangeAt Go.RowKit
set_option linter.unusedVariables false
set_option linter.unusedSimpArgs false
structure Dv (w wr : World) (a : Option Addr) (m : Nat) (k : List Nat) : Prop where
  s : Sln wr a m k
  bel : Below w.heap.size w wr
set_option maxRecDepth 20000 in
set_option maxHeartbeats 1000000 in
theorem derive_n {w : World} {s : ByteArray} {a : Option Addr} {n c : Nat} {ws : List ByteArray} (hs : s.size ≤ 140737488351232) (hW : Hid (Sws w a n ws)) (hKs : Hid (Kst w)) (h0 : Hid (0 < w.heap.size)) :
    Calls Tryd.prog 17 #[.string s, .slice a n c] w fun e w' => ∃ (g m cap : Nat), e = .returned (.slice (some ⟨g, 0, none⟩) m cap) ∧ Hid (m ≤ cap ∧ Dv w w' (some ⟨g, 0, none⟩) m (derive s ws)) := by
  have AD := fun X => add_bol X s hs
  obtain ⟨t, T⟩ : ∃ t, Hid (bolB ++ s = t) := ⟨_, rfl⟩
  rw [T.out] at AD
  have ts : t.size ≤ 140737488352256 := by rw [← T.out, size_bol]; omega
  obtain ⟨k0, K0⟩ : ∃ k, Hid (bol ++ bytesOf s = k) := ⟨_, rfl⟩
  have tb : Hid (bytesOf t = k0) := by rw [← T.out, bytesOf_bol, K0.out]; exact rfl
  have CV := run_cv w t
  have D0 : Hid (Dv w (cvW w t) (some ⟨w.heap.size, 0, none⟩) t.size k0) := ⟨by rw [← tb.out]; exact cvW_sln w t ts, cvW_below w t⟩
  have C0 : Hid (t.size ≤ cvC w t) := cvC_ge w t
  have nl : n ≤ 140737488351232 := hW.out.le
  go_enter Tryd.func17, Tryd.ntmps17
  go_wp2
  obtain ⟨w1, hw1⟩ : ∃ w1, w1 = cvW w t := ⟨_, rfl⟩
  rw [← hw1] at D0
  refine (show _ = w1 from hw1.symm) ▸ ?_
  clear AD CV hw1
  go_loopw [14, 5] (fun ti tk wr => ∃ i g m cap : Nat, i ≤ n ∧ ti = .int .i64 i ∧ tk = .slice (some ⟨g, 0, none⟩) m cap ∧ Hid (m ≤ cap ∧ Dv w wr (some ⟨g, 0, none⟩) m (deriveN k0 ws i))) (fun ti _ _ => n - (intOf ti).toNat)
  case atStart => exact ⟨0, _, _, _, by omega, rfl, rfl, C0.out, D0.out⟩
  case round =>
    obtain ⟨i, g, m, cap, hi, rfl, rfl, HK⟩ := hrel
    by_cases hlt : i < n
    · have i1 : (0 : Int) ≤ (i : Int) := by omega
      have i2 : (i : Int) < (n : Int) := by omega
      have WR : Hid (Sws wr a n ws) := hW.out.below HK.out.2.bel
      obtain ⟨b, off, hab, cw⟩ := WR.out.at_ hlt
      have sz := WR.out.size hlt
      obtain ⟨wd, WD⟩ : ∃ wd, Hid (ws.getD i ByteArray.empty = wd) := ⟨_, rfl⟩
      rw [WD.out] at cw sz
      have CV := run_cv wr wd
      obtain ⟨w2, W2⟩ : ∃ w2, Hid (cvW wr wd = w2) := ⟨_, rfl⟩
      rw [W2.out] at CV
      have B2 : Hid (Below wr.heap.size wr w2) := by rw [← W2.out]; exact cvW_below wr wd
      have S2 : Hid (Sln w2 (some ⟨wr.heap.size, 0, none⟩) wd.size (bytesOf wd)) := by rw [← W2.out]; exact cvW_sln wr wd (by omega)
      have E2 : Hid (wd.size ≤ cvC wr wd) := cvC_ge wr wd
      have K2 : Hid (Sln w2 (some ⟨g, 0, none⟩) m (deriveN k0 ws i)) := HK.out.2.s.below B2.out
      have bel2 : Hid (Below w.heap.size w w2) := HK.out.2.bel.trans (B2.out.mono HK.out.2.bel.size)
      have T2 : Hid (Kst w2) := hKs.out.below bel2.out h0.out
      have Z2 : Hid (0 < w2.heap.size) := Nat.lt_of_lt_of_le h0.out bel2.out.size
      subst hab
      clear sz
      go_wp2_with (first
        | (go_at_call 15; refine (macsum_n K2 HK.out.1 S2 E2.out T2 Z2).mono ?_; rintro e w3 ⟨d, rfl, H3⟩
           clear CV cw
           have L3 : Hid (d.length = 32) := by rw [H3.out.1]; exact mac_length _ _
           have N3 : Hid (Arr .u8 25 (w3.alloc (.cells (cs .u8 Zb32) 25)) w3.heap.size Zb32) := Arr.new w3 .u8 25 Zb32
           obtain ⟨w4, W4⟩ : ∃ w4, Hid ((w3.alloc (.cells (cs .u8 Zb32) 25)).setRow w3.heap.size (cs .u8 d) = w4) := ⟨_, rfl⟩
           have A4 : Hid (Arr .u8 25 w4 w3.heap.size d) := by rw [← W4.out]; exact N3.out.setRow d
           have B3 : Hid (Below w.heap.size w w3) := bel2.out.trans (H3.out.2.mono bel2.out.size)
           have B4 : Hid (Below w.heap.size w w4) := by rw [← W4.out]; exact (Oth.setRow _).below (B3.out.alloc B3.out.size _) B3.out.size)
        | (refine wpList_st0 (t := 25) (l := Zb32) (l2 := d) (by rfl) (by rfl) 25 (.tmp 8) (.tmp 21) (by rfl) (by rfl) (by rfl) N3 (by rw [L3.out]; exact sz25) (by rw [L3.out]; rfl) ?_; refine (show _ = w4 from W4.out) ▸ ?_))
      have D4 : Hid (Dv w w4 (some ⟨w3.heap.size, 0, none⟩) 32 (deriveN k0 ws (i + 1))) := by
        refine ⟨?_, B4.out⟩
        have e : deriveN k0 ws (i + 1) = d := by
          show Gs.mac (deriveN k0 ws i) (bytesOf (ws.getD i ByteArray.empty)) = d
          rw [WD.out, H3.out.1]
        rw [e]
        exact Blk0.sln A4.out (by rw [H3.out.1]; exact mac_lt _ _) L3.out (by omega)
      go_roundw
      case rel => exact ⟨i + 1, w3.heap.size, 32, 32, by omega, by go_num, rfl, by omega, D4.out⟩
      case measure => simp [intOf]; omega
    · have i2 : ¬ ((i : Int) < (n : Int)) := by omega
      have ei : Hid (i = ws.length) := by rw [← hW.out.len]; exact (show i = n by omega)
      have FE : Hid (m ≤ cap ∧ Dv w wr (some ⟨g, 0, none⟩) m (derive s ws)) := by
        have h := HK.out
        rw [ei.out, ← K0.out] at h
        exact h
      clear HK
      go_wp2
      go_ret
      exact ⟨g, m, cap, rfl, FE.out⟩
set_option maxRecDepth 20000 in
set_option maxHeartbeats 1000000 in
theorem refderive_n {w : World} {s : ByteArray} {a : Option Addr} {n c : Nat} {ws : List ByteArray} (hs : s.size ≤ 140737488351232) (hW : Hid (Sws w a n ws)) :
    Calls Tryd.prog 18 #[.string s, .slice a n c] w fun e w' => ∃ (g m cap : Nat), e = .returned (.slice (some ⟨g, 0, none⟩) m cap) ∧ Hid (m ≤ cap ∧ Dv w w' (some ⟨g, 0, none⟩) m (derive s ws)) := by
  have AD := fun X => add_bol X s hs
  obtain ⟨t, T⟩ : ∃ t, Hid (bolB ++ s = t) := ⟨_, rfl⟩
  rw [T.out] at AD
  have ts : t.size ≤ 140737488352256 := by rw [← T.out, size_bol]; omega
  obtain ⟨k0, K0⟩ : ∃ k, Hid (bol ++ bytesOf s = k) := ⟨_, rfl⟩
  have tb : Hid (bytesOf t = k0) := by rw [← T.out, bytesOf_bol, K0.out]; exact rfl
  have CV := run_cv w t
  have D0 : Hid (Dv w (cvW w t) (some ⟨w.heap.size, 0, none⟩) t.size k0) := ⟨by rw [← tb.out]; exact cvW_sln w t ts, cvW_below w t⟩
  have C0 : Hid (t.size ≤ cvC w t) := cvC_ge w t
  have nl : n ≤ 140737488351232 := hW.out.le
  go_enter Tryd.func18, Tryd.ntmps18
  go_wp2
  obtain ⟨w1, hw1⟩ : ∃ w1, w1 = cvW w t := ⟨_, rfl⟩
  rw [← hw1] at D0
  refine (show _ = w1 from hw1.symm) ▸ ?_
  clear AD CV hw1
  go_loopw [14, 5] (fun ti tk wr => ∃ i g m cap : Nat, i ≤ n ∧ ti = .int .i64 i ∧ tk = .slice (some ⟨g, 0, none⟩) m cap ∧ Hid (m ≤ cap ∧ Dv w wr (some ⟨g, 0, none⟩) m (deriveN k0 ws i))) (fun ti _ _ => n - (intOf ti).toNat)
  case atStart => exact ⟨0, _, _, _, by omega, rfl, rfl, C0.out, D0.out⟩
  case round =>
    obtain ⟨i, g, m, cap, hi, rfl, rfl, HK⟩ := hrel
    by_cases hlt : i < n
    · have i1 : (0 : Int) ≤ (i : Int) := by omega
      have i2 : (i : Int) < (n : Int) := by omega
      have WR : Hid (Sws wr a n ws) := hW.out.below HK.out.2.bel
      obtain ⟨b, off, hab, cw⟩ := WR.out.at_ hlt
      have sz := WR.out.size hlt
      obtain ⟨wd, WD⟩ : ∃ wd, Hid (ws.getD i ByteArray.empty = wd) := ⟨_, rfl⟩
      rw [WD.out] at cw sz
      have CV := run_cv wr wd
      obtain ⟨w2, W2⟩ : ∃ w2, Hid (cvW wr wd = w2) := ⟨_, rfl⟩
      rw [W2.out] at CV
      have B2 : Hid (Below wr.heap.size wr w2) := by rw [← W2.out]; exact cvW_below wr wd
      have S2 : Hid (Sln w2 (some ⟨wr.heap.size, 0, none⟩) wd.size (bytesOf wd)) := by rw [← W2.out]; exact cvW_sln wr wd (by omega)
      have Y1 : Hid ((some (⟨g, 0, none⟩ : Addr)) = none → cap = 0) := fun h => by cases h
      have Y2 : Hid ((some (⟨wr.heap.size, 0, none⟩ : Addr)) = none → cvC wr wd = 0) := fun h => by cases h
      have M2 : Hid (wd.size ≤ 140737488352192) := Nat.le_trans sz (by decide)
      have K2 : Hid (Sln w2 (some ⟨g, 0, none⟩) m (deriveN k0 ws i)) := HK.out.2.s.below B2.out
      have bel2 : Hid (Below w.heap.size w w2) := HK.out.2.bel.trans (B2.out.mono HK.out.2.bel.size)
      subst hab
      clear sz
      go_upto_region 6 with (first
        | (go_at_call 16; refine (refmac_n K2 Y1 S2 Y2 M2.out).mono ?_; rintro e w3 ⟨d, rfl, H3⟩
           clear CV cw
           have L3 : Hid (d.length = 32) := by rw [H3.out.1]; exact mac_length _ _
           have N3 : Hid (Arr .u8 25 (w3.alloc (.cells (cs .u8 Zb32) 25)) w3.heap.size Zb32) := Arr.new w3 .u8 25 Zb32
           obtain ⟨w4, W4⟩ : ∃ w4, Hid ((w3.alloc (.cells (cs .u8 Zb32) 25)).setRow w3.heap.size (cs .u8 d) = w4) := ⟨_, rfl⟩
           have A4 : Hid (Arr .u8 25 w4 w3.heap.size d) := by rw [← W4.out]; exact N3.out.setRow d
           have B3 : Hid (Below w.heap.size w w3) := bel2.out.trans (H3.out.2.mono bel2.out.size)
           have B4 : Hid (Below w.heap.size w w4) := by rw [← W4.out]; exact (Oth.setRow _).below (B3.out.alloc B3.out.size _) B3.out.size)
        | (refine wpList_st0 (t := 25) (l := Zb32) (l2 := d) (by rfl) (by rfl) 25 (.tmp 8) (.tmp 21) (by rfl) (by rfl) (by rfl) N3 (by rw [L3.out]; exact sz25) (by rw [L3.out]; rfl) ?_; refine (show _ = w4 from W4.out) ▸ ?_))
      have dl : ∀ x ∈ d, x < 256 := by rw [H3.out.1]; exact mac_lt _ _
      have B5 : Below w4.heap.size w4 (w4.alloc (.cells #[] 5)) := (Below.refl _ _).alloc (Nat.le_refl _) _
      have S5 := Blk0.sln (A4.out.below B5 A4.out.lt) dl L3.out (by omega)
      obtain ⟨g6, c6, w6, ap6, o6, gr6⟩ := app_own (c := 32) (own_new w4) S5 (by simp) (by omega) (by simp)
      rw [Nat.zero_add, List.nil_append] at o6
      rw [Nat.zero_add] at ap6
      have AP6 : Hid ((Builtin.append_ #[22, 22] 22 #[.slice (some ⟨w4.heap.size, 0, none⟩) 0 0, .slice (some ⟨w3.heap.size, 0, none⟩) 32 32]).run Tryd.prog (w4.alloc (.cells #[] 5)) = .ok (.slice (some ⟨g6, 0, none⟩) 32 c6) w6) := ap6
      have B6 : Hid (Below w.heap.size w w6) := (B4.out.alloc B4.out.size _).grown gr6 (by have := B4.out.size; simp; omega) (fun j e => by simp at e; have := B4.out.size; omega)
      have C6 : Hid (32 ≤ c6) := own_cap o6
      have D6 : Hid (Dv w w6 (some ⟨g6, 0, none⟩) 32 (deriveN k0 ws (i + 1))) := by
        refine ⟨?_, B6.out⟩
        have e : deriveN k0 ws (i + 1) = d := by
          show Gs.mac (deriveN k0 ws i) (bytesOf (ws.getD i ByteArray.empty)) = d
          rw [WD.out, H3.out.1]
        rw [e]
        exact Row.sln (own_row o6) (own_lt2 o6) L3.out.symm dl (by rw [L3.out]; omega)
      clear dl B5 S5 ap6 o6 gr6
      go_wp2_with (at_builtin; refine wpList_app (by rfl) (.tmp 22) (.tmp 23) (by rfl) (by rfl) (by rfl) (by rfl) AP6 ?_)
      go_roundw
      case rel => exact ⟨i + 1, g6, 32, c6, by omega, by go_num, rfl, C6.out, D6.out⟩
      case measure => simp [intOf]; omega
    · have i2 : ¬ ((i : Int) < (n : Int)) := by omega
      have ei : Hid (i = ws.length) := by rw [← hW.out.len]; exact (show i = n by omega)
      have FE : Hid (m ≤ cap ∧ Dv w wr (some ⟨g, 0, none⟩) m (derive s ws)) := by
        have h := HK.out
        rw [ei.out, ← K0.out] at h
        exact h
      clear HK
      go_wp2
      go_ret
      exact ⟨g, m, cap, rfl, FE.out⟩
end Go.Proofs.YthkoidfjmbfoiaaDoor
