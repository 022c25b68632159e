/- play: Deliver. -/
import Derived.Test.YtkjebbpmafhpgaaDoorPg
namespace Go.Proofs.YtkjebbpmafhpgaaDoor
open Go.ChangeShapes Go.WideShapes Go.ChangeAt Go.RowKit
set_option maxRecDepth 20000
set_option linter.unusedVariables false
set_option linter.unusedSimpArgs false
theorem Pr.set {w : World} {lo d e q i : Nat} {a b : Option Addr} {X : List Lt} {g : Int} {cur : Array Value} {t : TypeId} {fr : Nat × Nat} (h : Pr w lo d e a b X g) (hq : w.heap[q]? = some (.cells cur t fr)) : True := trivial
theorem BX_of {w w' : World} {q : Nat} {cur : Array Value} {t : TypeId} {fr : Nat × Nat} (h : w.heap[q]? = some (.cells cur t fr)) (hb : Below w.heap.size w w') : w'.heap[q]? = some (.cells cur t fr) := (hb.block q (Array.getElem?_eq_some_iff.1 h).1).trans h
theorem sp_nil : spell [] = ⟨#[]⟩ := rfl
theorem nil_sln (w : World) : Sln w none 0 [] := ⟨rfl, by simp, by simp, .inl rfl⟩
set_option maxHeartbeats 4000000 in
theorem play2_gone {w : World} {lo d e : Nat} {a b ab : Option Addr} {X : List Lt} {g wh fr tt nu : Int} {nb cb : Nat} {bs : List Nat} {E : Nat → Addr} (hP : Hid (Pr w lo d e a b X g)) (hlo : lo ≤ w.heap.size) (hE : Hid (Sent w 18 E)) (hg : Hid (g < 4611686018427387904)) (hS : Hid (Sln w ab nb bs)) (hz : Hid (ab = none → cb = 0)) (hL : Hid (bs.length ≤ 140737488351232)) (hA : Hid (∀ q, bs ≠ [] → blkOf ab = some q → ¬ Pk d e a b q)) (Hk : Hid (isL nu X = false)) : Calls Tryd.prog 8 #[.pointer (some ⟨d, 0, none⟩), .pointer (some ⟨e, 0, none⟩), .agg #[.int .i64 2, .int .i64 wh, .int .i64 fr, .int .i64 tt, .int .i64 nu, .slice ab nb cb]] w fun r w' => PlR w w' lo d e a b g r := by
  obtain ⟨p1, Hp1⟩ : ∃ q, Hid (w.heap.size = q) := ⟨_, rfl⟩
  obtain ⟨v1, Hv1⟩ : ∃ v, Hid (w.alloc (.cells #[.int .i64 2, .int .i64 wh, .int .i64 fr, .int .i64 tt, .int .i64 nu, .slice ab nb cb] 34) = v) := ⟨_, rfl⟩
  have B1 : Hid (Below w.heap.size w v1) := by rw [← Hv1.out]; exact alloc1 w _
  have BX : Hid (v1.heap[p1]? = some (.cells #[.int .i64 2, .int .i64 wh, .int .i64 fr, .int .i64 tt, .int .i64 nu, .slice ab nb cb] 34 (0, 0))) := by rw [← Hv1.out, ← Hp1.out]; exact heap_alloc_new w _
  have P1 : Hid (Pr v1 lo d e a b X g) := hP.out.below B1.out
  have F1 : Hid (PF w v1 d e a b a b) := PF.below B1.out
  have E1 : Hid (Sent v1 18 E) := hE.out.below B1.out
  have S1 : Hid (Sln v1 ab nb bs) := hS.out.below B1.out
  go_enter Tryd.func8, Tryd.ntmps8
  go_upto_region 14 with (fail)
  rw [Hv1.out, Hp1.out]
  obtain ⟨y2, y3, y4, y5⟩ := cel6 BX.out
  go_upto_region 15 with (go_at_call 14; refine (deliver_gone (show Hid (Nt v1 lo d a X g) from P1.out.nt) E1 (by omega) Hk).mono ?_; rintro r w2 ⟨rfl, H2⟩)
  obtain ⟨q2, Hq2⟩ : ∃ q, Hid (w2.heap.size = q) := ⟨_, rfl⟩
  obtain ⟨v2, Hv2⟩ : ∃ v, Hid (w2.alloc (.cells #[.int .i64 0, .int .i64 0, .int .i64 0, .slice none 0 0] 50) = v) := ⟨_, rfl⟩
  have B2 : Hid (Below v1.heap.size v1 v2) := by rw [← Hv2.out]; exact H2.out.trans ((alloc1 w2 _).mono H2.out.size)
  have K2 : Hid (v2.heap[q2]? = some (.cells #[.int .i64 0, .int .i64 0, .int .i64 0, .slice none 0 0] 50 (0, 0))) := by rw [← Hv2.out, ← Hq2.out]; exact heap_alloc_new w2 _
  have P2 : Hid (Pr v2 lo d e a b X g) := P1.out.below B2.out
  have BX2 : Hid (v2.heap[p1]? = some (.cells #[.int .i64 2, .int .i64 wh, .int .i64 fr, .int .i64 tt, .int .i64 nu, .slice ab nb cb] 34 (0, 0))) := BX_of BX.out B2.out
  rw [Hv2.out, Hq2.out]
  clear y2 y3 y4 y5
  obtain ⟨y2, y3, y4, y5⟩ := cel6 BX2.out
  go_upto_region 16 with (go_at_call 21; refine (rdel_gone (show Hid (Rt v2 lo e b X g) from P2.out.rt) Hk).mono ?_; rintro r w3 ⟨rfl, H3⟩)
  obtain ⟨q3, Hq3⟩ : ∃ q, Hid (w3.heap.size = q) := ⟨_, rfl⟩
  obtain ⟨v3, Hv3⟩ : ∃ v, Hid (w3.alloc (.cells #[.int .i64 0, .int .i64 0, .int .i64 0, .string ⟨#[]⟩] 38) = v) := ⟨_, rfl⟩
  have B3 : Hid (Below v2.heap.size v2 v3) := by rw [← Hv3.out]; exact H3.out.trans ((alloc1 w3 _).mono H3.out.size)
  have K3 : Hid (v3.heap[q3]? = some (.cells #[.int .i64 0, .int .i64 0, .int .i64 0, .string ⟨#[]⟩] 38 (0, 0))) := by rw [← Hv3.out, ← Hq3.out]; exact heap_alloc_new w3 _
  have L3 : Hid (v3.heap[q2]? = some (.cells #[.int .i64 0, .int .i64 0, .int .i64 0, .slice none 0 0] 50 (0, 0))) := BX_of K2.out B3.out
  have E3 : Hid (Sent v3 18 E) := (E1.out.below B2.out).below B3.out
  have P3 : Hid (Pr v3 lo d e a b X g) := P2.out.below B3.out
  have B13 : Hid (Below w.heap.size w v3) := (B1.out.trans (B2.out.mono B1.out.size)).trans (B3.out.mono (Nat.le_trans B1.out.size B2.out.size))
  rw [Hv3.out, Hq3.out]
  clear y2 y3 y4 y5
  obtain ⟨y0, y1, y2, y3⟩ := cel4 K3.out
  obtain ⟨z0, z1, z2, z3⟩ := cel4 L3.out
  have CV := conv_n (k := 0) (show Hid (Sln v3 none 0 []) from nil_sln v3)
  rw [sp_nil] at CV
  go_upto_region 17 with (go_at_call 19; refine (num_0 E3).mono ?_; rintro r w4 ⟨rfl, H4⟩)
  have L4 : Hid (w4.heap[q2]? = some (.cells #[.int .i64 0, .int .i64 0, .int .i64 0, .slice none 0 0] 50 (0, 0))) := BX_of L3.out H4.out
  have R4 : Hid (Pr w4 lo d e a b X g ∧ PF w w4 d e a b a b) := ⟨P3.out.below H4.out, PF.below (B13.out.trans (H4.out.mono B13.out.size))⟩
  clear y0 y1 y2 y3 z0 z1 z2 z3
  obtain ⟨z0, z1, z2, z3⟩ := cel4 L4.out
  go_wp2
  go_loop [137] (fun ti => ti = .int .i64 0) (fun ti => 0)
  case atStart => rfl
  case round =>
    subst hrel
    go_wp2
    go_ret
    exact ⟨rfl, _, _, _, _, R4.out.1, R4.out.2, by omega⟩
set_option maxHeartbeats 4000000 in
theorem play2_ok {w : World} {lo d e : Nat} {a b ab : Option Addr} {X : List Lt} {g wh fr tt nu : Int} {nb cb : Nat} {bs : List Nat} {E : Nat → Addr} (hP : Hid (Pr w lo d e a b X g)) (hlo : lo ≤ w.heap.size) (hE : Hid (Sent w 18 E)) (hg : Hid (g < 4611686018427387904)) (hS : Hid (Sln w ab nb bs)) (hz : Hid (ab = none → cb = 0)) (hL : Hid (bs.length ≤ 140737488351232)) (hA : Hid (∀ q, bs ≠ [] → blkOf ab = some q → ¬ Pk d e a b q)) {x : Lt} (Hk : Hid (isL nu X = true)) (Hx : Hid (X[pl nu X]? = some x)) : Calls Tryd.prog 8 #[.pointer (some ⟨d, 0, none⟩), .pointer (some ⟨e, 0, none⟩), .agg #[.int .i64 2, .int .i64 wh, .int .i64 fr, .int .i64 tt, .int .i64 nu, .slice ab nb cb]] w fun r w' => PlR w w' lo d e a b g r := by
  obtain ⟨p1, Hp1⟩ : ∃ q, Hid (w.heap.size = q) := ⟨_, rfl⟩
  obtain ⟨v1, Hv1⟩ : ∃ v, Hid (w.alloc (.cells #[.int .i64 2, .int .i64 wh, .int .i64 fr, .int .i64 tt, .int .i64 nu, .slice ab nb cb] 34) = v) := ⟨_, rfl⟩
  have B1 : Hid (Below w.heap.size w v1) := by rw [← Hv1.out]; exact alloc1 w _
  have BX : Hid (v1.heap[p1]? = some (.cells #[.int .i64 2, .int .i64 wh, .int .i64 fr, .int .i64 tt, .int .i64 nu, .slice ab nb cb] 34 (0, 0))) := by rw [← Hv1.out, ← Hp1.out]; exact heap_alloc_new w _
  have P1 : Hid (Pr v1 lo d e a b X g) := hP.out.below B1.out
  have F1 : Hid (PF w v1 d e a b a b) := PF.below B1.out
  have E1 : Hid (Sent v1 18 E) := hE.out.below B1.out
  have S1 : Hid (Sln v1 ab nb bs) := hS.out.below B1.out
  have SZ : Hid (x.bs.size ≤ 140737488351232) := hP.out.nt.rs.sz x (List.mem_of_getElem? Hx.out)
  go_enter Tryd.func8, Tryd.ntmps8
  go_upto_region 14 with (fail)
  rw [Hv1.out, Hp1.out]
  obtain ⟨y2, y3, y4, y5⟩ := cel6 BX.out
  go_upto_region 15 with (go_at_call 14; refine (deliver_ok (show Hid (Nt v1 lo d a X g) from P1.out.nt) Hx Hk).mono ?_; rintro r w2 ⟨g2, c2, rfl, H2⟩)
  obtain ⟨HN2, HF2, HS2, HG2, HC2, HK2⟩ := H2.out
  obtain ⟨q2, Hq2⟩ : ∃ q, Hid (w2.heap.size = q) := ⟨_, rfl⟩
  obtain ⟨v2, Hv2⟩ : ∃ v, Hid (w2.alloc (.cells #[.int .i64 x.no, .int .i64 x.fm, .int .i64 x.tt, .slice (some ⟨g2, 0, none⟩) x.bs.size c2] 50) = v) := ⟨_, rfl⟩
  have B2 : Below w2.heap.size w2 v2 := by rw [← Hv2.out]; exact alloc1 w2 _
  have K2 : Hid (v2.heap[q2]? = some (.cells #[.int .i64 x.no, .int .i64 x.fm, .int .i64 x.tt, .slice (some ⟨g2, 0, none⟩) x.bs.size c2] 50 (0, 0))) := by rw [← Hv2.out, ← Hq2.out]; exact heap_alloc_new w2 _
  have N2 : Hid (Nt v2 lo d a (X.eraseIdx (pl nu X)) g) := HN2.below B2
  have R2 : Hid (Rt v2 lo e b X g) := (P1.out.rt.nf P1.out.nt HF2).below B2
  have F2 : Hid (PF w v2 d e a b a b) := (F1.out.trans hP.out (PF.nf HF2)).trans hP.out (PF.below B2)
  have BX2 : Hid (v2.heap[p1]? = some (.cells #[.int .i64 2, .int .i64 wh, .int .i64 fr, .int .i64 tt, .int .i64 nu, .slice ab nb cb] 34 (0, 0))) := BX_of (blk_nf P1.out.nt HF2 BX.out (by decide)) B2
  have M2 : Hid (v2.heap[g2]? = some (.cells (bytesRow x.bs c2) 5 ((bytesRow x.bs c2).size, (bytesRow x.bs c2).size + 1))) := BX_of HK2 B2
  have S2 : Hid (Sln v2 (some ⟨g2, 0, none⟩) x.bs.size (bytesOf x.bs)) := HS2.below B2
  have G2 : Hid (w.heap.size ≤ g2) := Nat.le_trans B1.out.size HG2
  have CC : Hid (x.bs.size ≤ c2) := HC2
  rw [Hv2.out, Hq2.out]
  clear y2 y3 y4 y5 HN2 HF2 HS2 HG2 HC2 HK2 H2
  obtain ⟨y2, y3, y4, y5⟩ := cel6 BX2.out
  go_upto_region 16 with (go_at_call 21; refine (rdel_ok R2 Hx Hk).mono ?_; rintro r w3 ⟨b3, rfl, H3⟩)
  obtain ⟨q3, Hq3⟩ : ∃ q, Hid (w3.heap.size = q) := ⟨_, rfl⟩
  obtain ⟨v3, Hv3⟩ : ∃ v, Hid (w3.alloc (.cells #[.int .i64 x.no, .int .i64 x.fm, .int .i64 x.tt, .string x.bs] 38) = v) := ⟨_, rfl⟩
  have B3 : Below w3.heap.size w3 v3 := by rw [← Hv3.out]; exact alloc1 w3 _
  have K3 : Hid (v3.heap[q3]? = some (.cells #[.int .i64 x.no, .int .i64 x.fm, .int .i64 x.tt, .string x.bs] 38 (0, 0))) := by rw [← Hv3.out, ← Hq3.out]; exact heap_alloc_new w3 _
  have L3 : Hid (v3.heap[q2]? = some (.cells #[.int .i64 x.no, .int .i64 x.fm, .int .i64 x.tt, .slice (some ⟨g2, 0, none⟩) x.bs.size c2] 50 (0, 0))) := BX_of (blk_rf R2.out H3.out.2 K2.out (by decide)) B3
  have M3 : Hid (v3.heap[g2]? = some (.cells (bytesRow x.bs c2) 5 ((bytesRow x.bs c2).size, (bytesRow x.bs c2).size + 1))) := BX_of (blk_rf R2.out H3.out.2 M2.out (by decide)) B3
  have S3 : Hid (Sln v3 (some ⟨g2, 0, none⟩) x.bs.size (bytesOf x.bs)) := S2.out.keepb (Nat.le_trans H3.out.2.ch.size B3.size) (fun r _ hr hl => by
    have h : g2 = r := by simpa [blkOf] using hr
    rw [← h, M3.out, M2.out])
  have P3 : Hid (Pr v3 lo d e a b3 (X.eraseIdx (pl nu X)) g) := ⟨(N2.out.rf R2.out H3.out.2).below B3, H3.out.1.below B3⟩
  have F3 : Hid (PF w v3 d e a b a b3) := (F2.out.trans hP.out (PF.rf H3.out.2)).trans hP.out (PF.below B3)
  rw [Hv3.out, Hq3.out]
  clear y2 y3 y4 y5
  obtain ⟨y0, y1, y2, y3⟩ := cel4 K3.out
  obtain ⟨z0, z1, z2, z3⟩ := cel4 L3.out
  have CV := conv_n (k := c2) S3
  rw [spell_bytesOf] at CV
  obtain ⟨m, Hm⟩ : ∃ m, Hid (x.bs.size = m) := ⟨_, rfl⟩
  obtain ⟨sx, Hsx⟩ : ∃ s, Hid (x.bs = s) := ⟨_, rfl⟩
  have se : (sx.data.toList == sx.data.toList) = true := by simp
  have BQ : Hid (Bq v3 g2 m) := by rw [← Hm.out]; exact Bq.row M3.out CC.out
  rw [Hm.out] at z3 CV
  rw [Hsx.out] at y3 CV
  go_upto_region 17 with (go_at_call 19; refine (num_nil _).mono ?_; rintro r w4 ⟨rfl, H4⟩)
  obtain ⟨X4, HX4⟩ : ∃ z : List Lt, Hid (X.eraseIdx (pl nu X) = z) := ⟨_, rfl⟩
  rw [HX4.out] at P3
  have R4 : Hid (Bq w4 g2 m ∧ Pr w4 lo d e a b3 X4 g ∧ PF w w4 d e a b a b3 ∧ w4.heap[q2]? = some (.cells #[.int .i64 x.no, .int .i64 x.fm, .int .i64 x.tt, .slice (some ⟨g2, 0, none⟩) m c2] 50 (0, 0))) := ⟨BQ.out.below H4.out, P3.out.below H4.out, F3.out.trans hP.out (PF.below H4.out), by have h := BX_of L3.out H4.out; rw [Hm.out] at h; exact h⟩
  have mb : m ≤ 140737488351232 := by rw [← Hm.out]; exact SZ.out
  clear y0 y1 y2 y3 z0 z1 z2 z3 CV se
  obtain ⟨z0, z1, z2, z3⟩ := cel4 R4.out.2.2.2
  go_wp2
  clear z0 z1 z2 z3
  go_loopw [137] (fun ti wr => ∃ j : Nat, j ≤ m ∧ ti = .int .i64 (j : Int) ∧ Hid (Bq wr g2 m ∧ Pr wr lo d e a b3 X4 g ∧ PF w wr d e a b a b3 ∧ wr.heap[q2]? = some (.cells #[.int .i64 x.no, .int .i64 x.fm, .int .i64 x.tt, .slice (some ⟨g2, 0, none⟩) m c2] 50 (0, 0)))) (fun ti _ => m - (intOf ti).toNat)
  case atStart => exact ⟨0, by omega, rfl, R4.out⟩
  case round =>
    obtain ⟨j, hj, rfl, HJ⟩ := hrel
    clear R4
    by_cases hjl : j < m
    · have i3 : (j : Int) < (m : Int) := by omega
      obtain ⟨z, hz', cx, fx⟩ := HJ.out.1.at_ hjl
      have x3 : bits .xor .u8 (z : Int) 3 = ((z ^^^ 3 : Nat) : Int) := u8_xor_nat z 3 hz' (by omega)
      have qg : q2 ≠ g2 := by
        intro e2
        obtain ⟨cur, fr', h1⟩ := HJ.out.1.ty
        have h2 := HJ.out.2.2.2
        rw [e2, h1] at h2
        simp only [Option.some.injEq, Obj.cells.injEq] at h2
        exact absurd h2.2.1 (by decide)
      obtain ⟨z0, z1, z2, z3⟩ := cel4 HJ.out.2.2.2
      have NX : Hid (Bq (wr.setCell ⟨g2, j, none⟩ (.int .u8 ((z ^^^ 3 : Nat) : Int))) g2 m ∧ Pr (wr.setCell ⟨g2, j, none⟩ (.int .u8 ((z ^^^ 3 : Nat) : Int))) lo d e a b3 X4 g ∧ PF w (wr.setCell ⟨g2, j, none⟩ (.int .u8 ((z ^^^ 3 : Nat) : Int))) d e a b a b3 ∧ (wr.setCell ⟨g2, j, none⟩ (.int .u8 ((z ^^^ 3 : Nat) : Int))).heap[q2]? = some (.cells #[.int .i64 x.no, .int .i64 x.fm, .int .i64 x.tt, .slice (some ⟨g2, 0, none⟩) m c2] 50 (0, 0))) :=
        ⟨HJ.out.1.put j _ (Nat.xor_lt_two_pow (n := 8) hz' (by omega)), HJ.out.2.1.put HJ.out.1 _, HJ.out.2.2.1.set G2.out j _, (Below.heap_setCell _ _ _ _ qg).trans HJ.out.2.2.2⟩
      clear HJ
      go_wp2
      go_roundw
      case rel => exact ⟨j + 1, by omega, by go_num, NX.out⟩
      case measure => simp [intOf]; omega
    · obtain rfl : j = m := by omega
      go_wp2
      go_ret
      exact ⟨rfl, _, _, _, _, HJ.out.2.1, HJ.out.2.2.1, by omega⟩
theorem play2 {w : World} {lo d e : Nat} {a b ab : Option Addr} {X : List Lt} {g wh fr tt nu : Int} {nb cb : Nat} {bs : List Nat} {E : Nat → Addr} (hP : Hid (Pr w lo d e a b X g)) (hlo : lo ≤ w.heap.size) (hE : Hid (Sent w 18 E)) (hg : Hid (g < 4611686018427387904)) (hS : Hid (Sln w ab nb bs)) (hz : Hid (ab = none → cb = 0)) (hL : Hid (bs.length ≤ 140737488351232)) (hA : Hid (∀ q, bs ≠ [] → blkOf ab = some q → ¬ Pk d e a b q)) : Calls Tryd.prog 8 #[.pointer (some ⟨d, 0, none⟩), .pointer (some ⟨e, 0, none⟩), .agg #[.int .i64 2, .int .i64 wh, .int .i64 fr, .int .i64 tt, .int .i64 nu, .slice ab nb cb]] w fun r w' => PlR w w' lo d e a b g r := by
  rcases hk : isL nu X with _ | _
  · exact play2_gone hP hlo hE hg hS hz hL hA hk
  · obtain ⟨x, hx, _⟩ := isL_yes hk
    exact play2_ok hP hlo hE hg hS hz hL hA hk hx
end Go.Proofs.YtkjebbpmafhpgaaDoor
