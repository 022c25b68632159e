/- play: every kind. -/
import Derived.Test.YtkjebbpmafhpgaaDoorPh
namespace Go.Proofs.YtkjebbpmafhpgaaDoor
open Go.ChangeShapes Go.WideShapes Go.ChangeAt Go.RowKit
set_option maxRecDepth 20000
set_option linter.unusedVariables false
set_option linter.unusedSimpArgs false
set_option maxHeartbeats 4000000 in
theorem play3_gone {w : World} {lo d e : Nat} {a b ab : Option Addr} {X : List Lt} {g wh fr tt nu : Int} {nb cb : Nat} {bs : List Nat} {E : Nat → Addr} (hP : Hid (Pr w lo d e a b X g)) (hlo : lo ≤ w.heap.size) (hE : Hid (Sent w 18 E)) (hg : Hid (g < 4611686018427387904)) (hS : Hid (Sln w ab nb bs)) (hz : Hid (ab = none → cb = 0)) (hL : Hid (bs.length ≤ 140737488351232)) (hA : Hid (∀ q, bs ≠ [] → blkOf ab = some q → ¬ Pk d e a b q)) (Hk : Hid (isL nu X = false)) : Calls Tryd.prog 8 #[.pointer (some ⟨d, 0, none⟩), .pointer (some ⟨e, 0, none⟩), .agg #[.int .i64 3, .int .i64 wh, .int .i64 fr, .int .i64 tt, .int .i64 nu, .slice ab nb cb]] w fun r w' => PlR w w' lo d e a b g r := by
  obtain ⟨p1, Hp1⟩ : ∃ q, Hid (w.heap.size = q) := ⟨_, rfl⟩
  obtain ⟨v1, Hv1⟩ : ∃ v, Hid (w.alloc (.cells #[.int .i64 3, .int .i64 wh, .int .i64 fr, .int .i64 tt, .int .i64 nu, .slice ab nb cb] 34) = v) := ⟨_, rfl⟩
  have B1 : Hid (Below w.heap.size w v1) := by rw [← Hv1.out]; exact alloc1 w _
  have BX : Hid (v1.heap[p1]? = some (.cells #[.int .i64 3, .int .i64 wh, .int .i64 fr, .int .i64 tt, .int .i64 nu, .slice ab nb cb] 34 (0, 0))) := by rw [← Hv1.out, ← Hp1.out]; exact heap_alloc_new w _
  have P1 : Hid (Pr v1 lo d e a b X g) := hP.out.below B1.out
  have F1 : Hid (PF w v1 d e a b a b) := PF.below B1.out
  have E1 : Hid (Sent v1 18 E) := hE.out.below B1.out
  have S1 : Hid (Sln v1 ab nb bs) := hS.out.below B1.out
  go_enter Tryd.func8, Tryd.ntmps8
  go_upto_region 24 with (fail)
  rw [Hv1.out, Hp1.out]
  obtain ⟨y2, y3, y4, y5⟩ := cel6 BX.out
  go_upto_region 25 with (go_at_call 21; refine (rdel_gone (show Hid (Rt v1 lo e b X g) from P1.out.rt) Hk).mono ?_; rintro r w2 ⟨rfl, H2⟩)
  obtain ⟨q2, Hq2⟩ : ∃ q, Hid (w2.heap.size = q) := ⟨_, rfl⟩
  obtain ⟨v2, Hv2⟩ : ∃ v, Hid (w2.alloc (.cells #[.int .i64 0, .int .i64 0, .int .i64 0, .string ⟨#[]⟩] 38) = v) := ⟨_, rfl⟩
  have B2 : Hid (Below v1.heap.size v1 v2) := by rw [← Hv2.out]; exact H2.out.trans ((alloc1 w2 _).mono H2.out.size)
  have BX2 : Hid (v2.heap[p1]? = some (.cells #[.int .i64 3, .int .i64 wh, .int .i64 fr, .int .i64 tt, .int .i64 nu, .slice ab nb cb] 34 (0, 0))) := BX_of BX.out B2.out
  have P2 : Hid (Pr v2 lo d e a b X g) := P1.out.below B2.out
  have E2 : Hid (Sent v2 18 E) := E1.out.below B2.out
  rw [Hv2.out, Hq2.out]
  clear y2 y3 y4 y5
  obtain ⟨y2, y3, y4, y5⟩ := cel6 BX2.out
  go_wp2_with (first
    | (go_at_call 13; refine (drop_gone (show Hid (Nt v2 lo d a X g) from P2.out.nt) E2 (by omega) Hk).mono ?_; rintro r w3 ⟨rfl, H3⟩
       have E3 : Hid (Sent w3 18 E) := E2.out.below H3.out)
    | (go_at_call 19; refine (num_0 E3).mono ?_; rintro r w4 ⟨rfl, H4⟩))
  go_ret
  have B9 : Below w.heap.size w w4 := ((B1.out.trans (B2.out.mono B1.out.size)).trans (H3.out.mono (Nat.le_trans B1.out.size B2.out.size))).trans (H4.out.mono (Nat.le_trans (Nat.le_trans B1.out.size B2.out.size) H3.out.size))
  exact ⟨rfl, _, _, _, _, hP.out.below B9, PF.below B9, by omega⟩
set_option maxHeartbeats 4000000 in
theorem play3_ok {w : World} {lo d e : Nat} {a b ab : Option Addr} {X : List Lt} {g wh fr tt nu : Int} {nb cb : Nat} {bs : List Nat} {E : Nat → Addr} (hP : Hid (Pr w lo d e a b X g)) (hlo : lo ≤ w.heap.size) (hE : Hid (Sent w 18 E)) (hg : Hid (g < 4611686018427387904)) (hS : Hid (Sln w ab nb bs)) (hz : Hid (ab = none → cb = 0)) (hL : Hid (bs.length ≤ 140737488351232)) (hA : Hid (∀ q, bs ≠ [] → blkOf ab = some q → ¬ Pk d e a b q)) {x : Lt} (Hk : Hid (isL nu X = true)) (Hx : Hid (X[pl nu X]? = some x)) : Calls Tryd.prog 8 #[.pointer (some ⟨d, 0, none⟩), .pointer (some ⟨e, 0, none⟩), .agg #[.int .i64 3, .int .i64 wh, .int .i64 fr, .int .i64 tt, .int .i64 nu, .slice ab nb cb]] w fun r w' => PlR w w' lo d e a b g r := by
  obtain ⟨p1, Hp1⟩ : ∃ q, Hid (w.heap.size = q) := ⟨_, rfl⟩
  obtain ⟨v1, Hv1⟩ : ∃ v, Hid (w.alloc (.cells #[.int .i64 3, .int .i64 wh, .int .i64 fr, .int .i64 tt, .int .i64 nu, .slice ab nb cb] 34) = v) := ⟨_, rfl⟩
  have B1 : Hid (Below w.heap.size w v1) := by rw [← Hv1.out]; exact alloc1 w _
  have BX : Hid (v1.heap[p1]? = some (.cells #[.int .i64 3, .int .i64 wh, .int .i64 fr, .int .i64 tt, .int .i64 nu, .slice ab nb cb] 34 (0, 0))) := by rw [← Hv1.out, ← Hp1.out]; exact heap_alloc_new w _
  have P1 : Hid (Pr v1 lo d e a b X g) := hP.out.below B1.out
  have F1 : Hid (PF w v1 d e a b a b) := PF.below B1.out
  have E1 : Hid (Sent v1 18 E) := hE.out.below B1.out
  have S1 : Hid (Sln v1 ab nb bs) := hS.out.below B1.out
  go_enter Tryd.func8, Tryd.ntmps8
  go_upto_region 24 with (fail)
  rw [Hv1.out, Hp1.out]
  obtain ⟨y2, y3, y4, y5⟩ := cel6 BX.out
  go_upto_region 25 with (go_at_call 21; refine (rdel_ok (show Hid (Rt v1 lo e b X g) from P1.out.rt) Hx Hk).mono ?_; rintro r w2 ⟨b2, rfl, H2⟩)
  obtain ⟨q2, Hq2⟩ : ∃ q, Hid (w2.heap.size = q) := ⟨_, rfl⟩
  obtain ⟨v2, Hv2⟩ : ∃ v, Hid (w2.alloc (.cells #[.int .i64 x.no, .int .i64 x.fm, .int .i64 x.tt, .string x.bs] 38) = v) := ⟨_, rfl⟩
  have B2 : Below w2.heap.size w2 v2 := by rw [← Hv2.out]; exact alloc1 w2 _
  have BX2 : Hid (v2.heap[p1]? = some (.cells #[.int .i64 3, .int .i64 wh, .int .i64 fr, .int .i64 tt, .int .i64 nu, .slice ab nb cb] 34 (0, 0))) := BX_of (blk_rf P1.out.rt H2.out.2 BX.out (by decide)) B2
  have N2 : Hid (Nt v2 lo d a X g ∧ Rt v2 lo e b2 (X.eraseIdx (pl nu X)) g) := ⟨(P1.out.nt.rf P1.out.rt H2.out.2).below B2, H2.out.1.below B2⟩
  have F2 : Hid (PF w v2 d e a b a b2) := (F1.out.trans hP.out (PF.rf H2.out.2)).trans hP.out (PF.below B2)
  rw [Hv2.out, Hq2.out]
  clear y2 y3 y4 y5
  obtain ⟨y2, y3, y4, y5⟩ := cel6 BX2.out
  go_wp2_with (first
    | (go_at_call 13; refine (drop_ok (show Hid (Nt v2 lo d a X g) from N2.out.1) Hk).mono ?_; rintro r w3 ⟨rfl, H3⟩)
    | (go_at_call 19; refine (num_nil _).mono ?_; rintro r w4 ⟨rfl, H4⟩))
  go_ret
  have P3 : Pr w3 lo d e a b2 (X.eraseIdx (pl nu X)) g := ⟨H3.out.1, N2.out.2.nf N2.out.1 H3.out.2⟩
  exact ⟨rfl, _, _, _, _, P3.below H4.out, (F2.out.trans hP.out (PF.nf H3.out.2)).trans hP.out (PF.below H4.out), by omega⟩
theorem play3 {w : World} {lo d e : Nat} {a b ab : Option Addr} {X : List Lt} {g wh fr tt nu : Int} {nb cb : Nat} {bs : List Nat} {E : Nat → Addr} (hP : Hid (Pr w lo d e a b X g)) (hlo : lo ≤ w.heap.size) (hE : Hid (Sent w 18 E)) (hg : Hid (g < 4611686018427387904)) (hS : Hid (Sln w ab nb bs)) (hz : Hid (ab = none → cb = 0)) (hL : Hid (bs.length ≤ 140737488351232)) (hA : Hid (∀ q, bs ≠ [] → blkOf ab = some q → ¬ Pk d e a b q)) : Calls Tryd.prog 8 #[.pointer (some ⟨d, 0, none⟩), .pointer (some ⟨e, 0, none⟩), .agg #[.int .i64 3, .int .i64 wh, .int .i64 fr, .int .i64 tt, .int .i64 nu, .slice ab nb cb]] w fun r w' => PlR w w' lo d e a b g r := by
  rcases hk : isL nu X with _ | _
  · exact play3_gone hP hlo hE hg hS hz hL hA hk
  · obtain ⟨x, hx, _⟩ := isL_yes hk
    exact play3_ok hP hlo hE hg hS hz hL hA hk hx
set_option maxHeartbeats 4000000 in
theorem play4_gone {w : World} {lo d e : Nat} {a b ab : Option Addr} {X : List Lt} {g wh fr tt nu : Int} {nb cb : Nat} {bs : List Nat} {E : Nat → Addr} (hP : Hid (Pr w lo d e a b X g)) (hlo : lo ≤ w.heap.size) (hE : Hid (Sent w 18 E)) (hg : Hid (g < 4611686018427387904)) (hS : Hid (Sln w ab nb bs)) (hz : Hid (ab = none → cb = 0)) (hL : Hid (bs.length ≤ 140737488351232)) (hA : Hid (∀ q, bs ≠ [] → blkOf ab = some q → ¬ Pk d e a b q)) (Hk : Hid (isL nu X = false)) : Calls Tryd.prog 8 #[.pointer (some ⟨d, 0, none⟩), .pointer (some ⟨e, 0, none⟩), .agg #[.int .i64 4, .int .i64 wh, .int .i64 fr, .int .i64 tt, .int .i64 nu, .slice ab nb cb]] w fun r w' => PlR w w' lo d e a b g r := by
  obtain ⟨p1, Hp1⟩ : ∃ q, Hid (w.heap.size = q) := ⟨_, rfl⟩
  obtain ⟨v1, Hv1⟩ : ∃ v, Hid (w.alloc (.cells #[.int .i64 4, .int .i64 wh, .int .i64 fr, .int .i64 tt, .int .i64 nu, .slice ab nb cb] 34) = v) := ⟨_, rfl⟩
  have B1 : Hid (Below w.heap.size w v1) := by rw [← Hv1.out]; exact alloc1 w _
  have BX : Hid (v1.heap[p1]? = some (.cells #[.int .i64 4, .int .i64 wh, .int .i64 fr, .int .i64 tt, .int .i64 nu, .slice ab nb cb] 34 (0, 0))) := by rw [← Hv1.out, ← Hp1.out]; exact heap_alloc_new w _
  have P1 : Hid (Pr v1 lo d e a b X g) := hP.out.below B1.out
  have F1 : Hid (PF w v1 d e a b a b) := PF.below B1.out
  have E1 : Hid (Sent v1 18 E) := hE.out.below B1.out
  have S1 : Hid (Sln v1 ab nb bs) := hS.out.below B1.out
  go_enter Tryd.func8, Tryd.ntmps8
  go_upto_region 27 with (fail)
  rw [Hv1.out, Hp1.out]
  obtain ⟨y2, y3, y4, y5⟩ := cel6 BX.out
  go_upto_region 28 with (go_at_call 12; refine (copy_gone (show Hid (Nt v1 lo d a X g) from P1.out.nt) E1 (by omega) Hk).mono ?_; rintro r w2 ⟨rfl, H2⟩)
  have BX2 : Hid (w2.heap[p1]? = some (.cells #[.int .i64 4, .int .i64 wh, .int .i64 fr, .int .i64 tt, .int .i64 nu, .slice ab nb cb] 34 (0, 0))) := BX_of BX.out H2.out
  have P2 : Hid (Pr w2 lo d e a b X g) := P1.out.below H2.out
  have E2 : Hid (Sent w2 18 E) := E1.out.below H2.out
  clear y2 y3 y4 y5
  obtain ⟨y2, y3, y4, y5⟩ := cel6 BX2.out
  go_upto_region 29 with (go_at_call 22; refine (rcopy_gone (show Hid (Rt w2 lo e b X g) from P2.out.rt) Hk).mono ?_; rintro r w3 ⟨rfl, H3⟩)
  have E3 : Hid (Sent w3 18 E) := E2.out.below H3.out
  go_wp2_with (go_at_call 19; refine (num_0 E3).mono ?_; rintro r w4 ⟨rfl, H4⟩)
  go_ret
  have B9 : Below w.heap.size w w4 := ((B1.out.trans (H2.out.mono B1.out.size)).trans (H3.out.mono (Nat.le_trans B1.out.size H2.out.size))).trans (H4.out.mono (Nat.le_trans (Nat.le_trans B1.out.size H2.out.size) H3.out.size))
  exact ⟨rfl, _, _, _, _, hP.out.below B9, PF.below B9, by omega⟩
set_option maxHeartbeats 4000000 in
theorem play4_full {w : World} {lo d e : Nat} {a b ab : Option Addr} {X : List Lt} {g wh fr tt nu : Int} {nb cb : Nat} {bs : List Nat} {E : Nat → Addr} (hP : Hid (Pr w lo d e a b X g)) (hlo : lo ≤ w.heap.size) (hE : Hid (Sent w 18 E)) (hg : Hid (g < 4611686018427387904)) (hS : Hid (Sln w ab nb bs)) (hz : Hid (ab = none → cb = 0)) (hL : Hid (bs.length ≤ 140737488351232)) (hA : Hid (∀ q, bs ≠ [] → blkOf ab = some q → ¬ Pk d e a b q)) {x : Lt} (Hk : Hid (isL nu X = true)) (Hx : Hid (X[pl nu X]? = some x)) (Hl : Hid (4096 ≤ X.length)) : Calls Tryd.prog 8 #[.pointer (some ⟨d, 0, none⟩), .pointer (some ⟨e, 0, none⟩), .agg #[.int .i64 4, .int .i64 wh, .int .i64 fr, .int .i64 tt, .int .i64 nu, .slice ab nb cb]] w fun r w' => PlR w w' lo d e a b g r := by
  obtain ⟨p1, Hp1⟩ : ∃ q, Hid (w.heap.size = q) := ⟨_, rfl⟩
  obtain ⟨v1, Hv1⟩ : ∃ v, Hid (w.alloc (.cells #[.int .i64 4, .int .i64 wh, .int .i64 fr, .int .i64 tt, .int .i64 nu, .slice ab nb cb] 34) = v) := ⟨_, rfl⟩
  have B1 : Hid (Below w.heap.size w v1) := by rw [← Hv1.out]; exact alloc1 w _
  have BX : Hid (v1.heap[p1]? = some (.cells #[.int .i64 4, .int .i64 wh, .int .i64 fr, .int .i64 tt, .int .i64 nu, .slice ab nb cb] 34 (0, 0))) := by rw [← Hv1.out, ← Hp1.out]; exact heap_alloc_new w _
  have P1 : Hid (Pr v1 lo d e a b X g) := hP.out.below B1.out
  have F1 : Hid (PF w v1 d e a b a b) := PF.below B1.out
  have E1 : Hid (Sent v1 18 E) := hE.out.below B1.out
  have S1 : Hid (Sln v1 ab nb bs) := hS.out.below B1.out
  go_enter Tryd.func8, Tryd.ntmps8
  go_upto_region 27 with (fail)
  rw [Hv1.out, Hp1.out]
  obtain ⟨y2, y3, y4, y5⟩ := cel6 BX.out
  go_upto_region 28 with (go_at_call 12; refine (copy_full (show Hid (Nt v1 lo d a X g) from P1.out.nt) E1 (by omega) Hk Hl).mono ?_; rintro r w2 ⟨rfl, H2⟩)
  have BX2 : Hid (w2.heap[p1]? = some (.cells #[.int .i64 4, .int .i64 wh, .int .i64 fr, .int .i64 tt, .int .i64 nu, .slice ab nb cb] 34 (0, 0))) := BX_of BX.out H2.out
  have P2 : Hid (Pr w2 lo d e a b X g) := P1.out.below H2.out
  have E2 : Hid (Sent w2 18 E) := E1.out.below H2.out
  clear y2 y3 y4 y5
  obtain ⟨y2, y3, y4, y5⟩ := cel6 BX2.out
  go_upto_region 29 with (go_at_call 22; refine (rcopy_full (show Hid (Rt w2 lo e b X g) from P2.out.rt) Hx Hk Hl).mono ?_; rintro r w3 ⟨rfl, H3⟩)
  have E3 : Hid (Sent w3 18 E) := E2.out.below H3.out
  go_wp2_with (go_at_call 19; refine (num_2 E3).mono ?_; rintro r w4 ⟨rfl, H4⟩)
  go_ret
  have B9 : Below w.heap.size w w4 := ((B1.out.trans (H2.out.mono B1.out.size)).trans (H3.out.mono (Nat.le_trans B1.out.size H2.out.size))).trans (H4.out.mono (Nat.le_trans (Nat.le_trans B1.out.size H2.out.size) H3.out.size))
  exact ⟨rfl, _, _, _, _, hP.out.below B9, PF.below B9, by omega⟩
set_option maxHeartbeats 4000000 in
theorem play4_ok {w : World} {lo d e : Nat} {a b ab : Option Addr} {X : List Lt} {g wh fr tt nu : Int} {nb cb : Nat} {bs : List Nat} {E : Nat → Addr} (hP : Hid (Pr w lo d e a b X g)) (hlo : lo ≤ w.heap.size) (hE : Hid (Sent w 18 E)) (hg : Hid (g < 4611686018427387904)) (hS : Hid (Sln w ab nb bs)) (hz : Hid (ab = none → cb = 0)) (hL : Hid (bs.length ≤ 140737488351232)) (hA : Hid (∀ q, bs ≠ [] → blkOf ab = some q → ¬ Pk d e a b q)) {x : Lt} (Hk : Hid (isL nu X = true)) (Hx : Hid (X[pl nu X]? = some x)) (Hl : Hid (X.length < 4096)) : Calls Tryd.prog 8 #[.pointer (some ⟨d, 0, none⟩), .pointer (some ⟨e, 0, none⟩), .agg #[.int .i64 4, .int .i64 wh, .int .i64 fr, .int .i64 tt, .int .i64 nu, .slice ab nb cb]] w fun r w' => PlR w w' lo d e a b g r := by
  obtain ⟨p1, Hp1⟩ : ∃ q, Hid (w.heap.size = q) := ⟨_, rfl⟩
  obtain ⟨v1, Hv1⟩ : ∃ v, Hid (w.alloc (.cells #[.int .i64 4, .int .i64 wh, .int .i64 fr, .int .i64 tt, .int .i64 nu, .slice ab nb cb] 34) = v) := ⟨_, rfl⟩
  have B1 : Hid (Below w.heap.size w v1) := by rw [← Hv1.out]; exact alloc1 w _
  have BX : Hid (v1.heap[p1]? = some (.cells #[.int .i64 4, .int .i64 wh, .int .i64 fr, .int .i64 tt, .int .i64 nu, .slice ab nb cb] 34 (0, 0))) := by rw [← Hv1.out, ← Hp1.out]; exact heap_alloc_new w _
  have P1 : Hid (Pr v1 lo d e a b X g) := hP.out.below B1.out
  have F1 : Hid (PF w v1 d e a b a b) := PF.below B1.out
  have E1 : Hid (Sent v1 18 E) := hE.out.below B1.out
  have S1 : Hid (Sln v1 ab nb bs) := hS.out.below B1.out
  go_enter Tryd.func8, Tryd.ntmps8
  go_upto_region 27 with (fail)
  rw [Hv1.out, Hp1.out]
  obtain ⟨y2, y3, y4, y5⟩ := cel6 BX.out
  go_upto_region 28 with (go_at_call 12; refine (copy_ok (show Hid (Nt v1 lo d a X g) from P1.out.nt) hg Hx Hk Hl).mono ?_; rintro r w2 ⟨a2, rfl, H2⟩)
  have BX2 : Hid (w2.heap[p1]? = some (.cells #[.int .i64 4, .int .i64 wh, .int .i64 fr, .int .i64 tt, .int .i64 nu, .slice ab nb cb] 34 (0, 0))) := blk_nf P1.out.nt H2.out.2 BX.out (by decide)
  have R2 : Hid (Rt w2 lo e b X g) := P1.out.rt.nf P1.out.nt H2.out.2
  have F2 : Hid (PF w w2 d e a b a2 b) := F1.out.trans hP.out (PF.nf H2.out.2)
  clear y2 y3 y4 y5
  obtain ⟨y2, y3, y4, y5⟩ := cel6 BX2.out
  go_upto_region 29 with (go_at_call 22; refine (rcopy_ok R2 hg Hx Hk Hl).mono ?_; rintro r w3 ⟨b3, rfl, H3⟩)
  go_wp2_with (go_at_call 19; refine (num_nil _).mono ?_; rintro r w4 ⟨rfl, H4⟩)
  go_ret
  have P3 : Pr w3 lo d e a2 b3 (X ++ [⟨g + 1, x.fm, x.tt, x.bs⟩]) (g + 1) := ⟨H2.out.1.rf R2.out H3.out.2, H3.out.1⟩
  exact ⟨rfl, _, _, _, _, P3.below H4.out, (F2.out.trans hP.out (PF.rf H3.out.2)).trans hP.out (PF.below H4.out), by omega⟩
theorem play4 {w : World} {lo d e : Nat} {a b ab : Option Addr} {X : List Lt} {g wh fr tt nu : Int} {nb cb : Nat} {bs : List Nat} {E : Nat → Addr} (hP : Hid (Pr w lo d e a b X g)) (hlo : lo ≤ w.heap.size) (hE : Hid (Sent w 18 E)) (hg : Hid (g < 4611686018427387904)) (hS : Hid (Sln w ab nb bs)) (hz : Hid (ab = none → cb = 0)) (hL : Hid (bs.length ≤ 140737488351232)) (hA : Hid (∀ q, bs ≠ [] → blkOf ab = some q → ¬ Pk d e a b q)) : Calls Tryd.prog 8 #[.pointer (some ⟨d, 0, none⟩), .pointer (some ⟨e, 0, none⟩), .agg #[.int .i64 4, .int .i64 wh, .int .i64 fr, .int .i64 tt, .int .i64 nu, .slice ab nb cb]] w fun r w' => PlR w w' lo d e a b g r := by
  rcases hk : isL nu X with _ | _
  · exact play4_gone hP hlo hE hg hS hz hL hA hk
  · obtain ⟨x, hx, _⟩ := isL_yes hk
    rcases Nat.lt_or_ge X.length 4096 with h | h
    · exact play4_ok hP hlo hE hg hS hz hL hA hk hx h
    · exact play4_full hP hlo hE hg hS hz hL hA hk hx h
set_option maxHeartbeats 4000000 in
theorem play5_none {w : World} {lo d e : Nat} {a b ab : Option Addr} {X : List Lt} {g wh fr tt nu : Int} {nb cb : Nat} {bs : List Nat} {E : Nat → Addr} (hP : Hid (Pr w lo d e a b X g)) (hlo : lo ≤ w.heap.size) (hE : Hid (Sent w 18 E)) (hg : Hid (g < 4611686018427387904)) (hS : Hid (Sln w ab nb bs)) (hz : Hid (ab = none → cb = 0)) (hL : Hid (bs.length ≤ 140737488351232)) (hA : Hid (∀ q, bs ≠ [] → blkOf ab = some q → ¬ Pk d e a b q)) (HX : Hid (X = [])) : Calls Tryd.prog 8 #[.pointer (some ⟨d, 0, none⟩), .pointer (some ⟨e, 0, none⟩), .agg #[.int .i64 5, .int .i64 wh, .int .i64 fr, .int .i64 tt, .int .i64 nu, .slice ab nb cb]] w fun r w' => PlR w w' lo d e a b g r := by
  obtain ⟨p1, Hp1⟩ : ∃ q, Hid (w.heap.size = q) := ⟨_, rfl⟩
  obtain ⟨v1, Hv1⟩ : ∃ v, Hid (w.alloc (.cells #[.int .i64 5, .int .i64 wh, .int .i64 fr, .int .i64 tt, .int .i64 nu, .slice ab nb cb] 34) = v) := ⟨_, rfl⟩
  have B1 : Hid (Below w.heap.size w v1) := by rw [← Hv1.out]; exact alloc1 w _
  have BX : Hid (v1.heap[p1]? = some (.cells #[.int .i64 5, .int .i64 wh, .int .i64 fr, .int .i64 tt, .int .i64 nu, .slice ab nb cb] 34 (0, 0))) := by rw [← Hv1.out, ← Hp1.out]; exact heap_alloc_new w _
  have P1 : Hid (Pr v1 lo d e a b X g) := hP.out.below B1.out
  have F1 : Hid (PF w v1 d e a b a b) := PF.below B1.out
  have E1 : Hid (Sent v1 18 E) := hE.out.below B1.out
  have S1 : Hid (Sln v1 ab nb bs) := hS.out.below B1.out
  go_enter Tryd.func8, Tryd.ntmps8
  go_upto_region 31 with (fail)
  rw [Hv1.out, Hp1.out]
  obtain ⟨y2, y3, y4, y5⟩ := cel6 BX.out
  have N1 : Hid (Nt v1 lo d a [] g) := by have h := P1.out.nt; rw [HX.out] at h; exact h
  obtain ⟨n, c, h1, h2⟩ := P1.out.rt.st
  have n0 : n = 0 := by have := h2.len; rw [HX.out] at this; simpa using this
  subst n0
  have c0 : v1.cell? ⟨e, 0, none⟩ = some (.slice b 0 c) := (cel2 h1).1
  clear h1 h2
  go_wp2_with (go_at_call 11; refine (nth_none N1).mono ?_; rintro r w0 ⟨rfl, h00⟩; rw [h00]; clear h00)
  go_ret
  exact ⟨rfl, _, _, _, _, P1.out, F1.out, by omega⟩
set_option maxHeartbeats 4000000 in
theorem play5_some {w : World} {lo d e : Nat} {a b ab : Option Addr} {X : List Lt} {g wh fr tt nu : Int} {nb cb : Nat} {bs : List Nat} {E : Nat → Addr} (hP : Hid (Pr w lo d e a b X g)) (hlo : lo ≤ w.heap.size) (hE : Hid (Sent w 18 E)) (hg : Hid (g < 4611686018427387904)) (hS : Hid (Sln w ab nb bs)) (hz : Hid (ab = none → cb = 0)) (hL : Hid (bs.length ≤ 140737488351232)) (hA : Hid (∀ q, bs ≠ [] → blkOf ab = some q → ¬ Pk d e a b q)) {m : Nat} {x : Lt} (Hm : Hid (nu % (X.length : Int) = (m : Int))) (HX : Hid (X[m]? = some x)) : Calls Tryd.prog 8 #[.pointer (some ⟨d, 0, none⟩), .pointer (some ⟨e, 0, none⟩), .agg #[.int .i64 5, .int .i64 wh, .int .i64 fr, .int .i64 tt, .int .i64 nu, .slice ab nb cb]] w fun r w' => PlR w w' lo d e a b g r := by
  obtain ⟨p1, Hp1⟩ : ∃ q, Hid (w.heap.size = q) := ⟨_, rfl⟩
  obtain ⟨v1, Hv1⟩ : ∃ v, Hid (w.alloc (.cells #[.int .i64 5, .int .i64 wh, .int .i64 fr, .int .i64 tt, .int .i64 nu, .slice ab nb cb] 34) = v) := ⟨_, rfl⟩
  have B1 : Hid (Below w.heap.size w v1) := by rw [← Hv1.out]; exact alloc1 w _
  have BX : Hid (v1.heap[p1]? = some (.cells #[.int .i64 5, .int .i64 wh, .int .i64 fr, .int .i64 tt, .int .i64 nu, .slice ab nb cb] 34 (0, 0))) := by rw [← Hv1.out, ← Hp1.out]; exact heap_alloc_new w _
  have P1 : Hid (Pr v1 lo d e a b X g) := hP.out.below B1.out
  have F1 : Hid (PF w v1 d e a b a b) := PF.below B1.out
  have E1 : Hid (Sent v1 18 E) := hE.out.below B1.out
  have S1 : Hid (Sln v1 ab nb bs) := hS.out.below B1.out
  go_enter Tryd.func8, Tryd.ntmps8
  go_upto_region 31 with (fail)
  rw [Hv1.out, Hp1.out]
  obtain ⟨y2, y3, y4, y5⟩ := cel6 BX.out
  obtain ⟨n, c, h1, h2⟩ := P1.out.rt.st
  have hl := h2.len
  have ml := (List.getElem?_eq_some_iff.1 HX.out).1
  obtain ⟨rb, rfl, q1, q2, e1⟩ := h2.at_ ml
  rw [(List.getElem?_eq_some_iff.1 HX.out).2] at e1
  have c0 : ∀ j, (v1.drewN j).cell? ⟨e, 0, none⟩ = some (.slice (some ⟨rb, 0, none⟩) n c) := fun j => by rw [cell_drewN]; exact (cel2 h1).1
  have c00 : v1.cell? ⟨e, 0, none⟩ = some (.slice (some ⟨rb, 0, none⟩) n c) := (cel2 h1).1
  have d0 : ∀ j, (v1.drewN j).cell? ⟨rb, m * 4, none⟩ = some (.int .i64 x.no) := fun j => by rw [cell_drewN]; exact e1 0 _ rfl
  have y4' : ∀ j, (v1.drewN j).cell? ⟨p1, 4, none⟩ = some (.int .i64 nu) := fun j => by rw [cell_drewN]; exact y4
  have mn : m < n := by omega
  have nb : n ≤ 4096 := by rw [hl]; exact hP.out.nt.ln
  have HM : Hid (nu % (n : Int) = (m : Int)) := by rw [hl]; exact Hm
  have i0 : (m : Int) < (n : Int) := by omega
  have i1 : ((n : Int) == 0) = false := by simp; omega
  have i2 : ¬ ((n : Int) = 0) := by omega
  clear h1 h2 hl e1 q1 q2 ml
  obtain ⟨rr, HR⟩ : ∃ r, Hid (nu.tmod (n : Int) = r) := ⟨_, rfl⟩
  have tm : nu.tmod (n : Int) = rr := HR.out
  have rb2 : -(n : Int) < rr ∧ rr < (n : Int) := by
    rw [← HR.out]
    have h1 := Int.tmod_lt_of_pos nu (show (0 : Int) < (n : Int) by omega)
    have h2 := Int.lt_tmod_of_pos nu (show (0 : Int) < (n : Int) by omega)
    exact ⟨by omega, h1⟩
  obtain ⟨s, Hs⟩ : ∃ s : Nat, Hid (rr + (n : Int) = (s : Int)) := ⟨(rr + (n : Int)).toNat, by show _ = _; omega⟩
  have ws : rr + (n : Int) = (s : Int) := Hs.out
  have tm2 : (s : Int).tmod (n : Int) = (m : Int) := by
    have h1 := Int.tmod_eq_emod_of_nonneg (a := (s : Int)) (b := (n : Int)) (by omega)
    rw [h1, ← Hs.out, ← HR.out]
    have h2 := Int.emod_emod_of_dvd nu (Int.dvd_refl (n : Int))
    have h3 : nu.tmod (n : Int) % (n : Int) = nu % (n : Int) := by
      rw [Int.tmod_eq_emod]
      split
      · simp
      · have : ((n : Int).natAbs : Int) = (n : Int) := by omega
        rw [this, Int.sub_emod, Int.emod_self]
        simp
    rw [Int.add_emod, h3, Int.emod_self, Int.add_zero, Int.emod_emod_of_dvd _ (Int.dvd_refl _)]
    exact HM.out
  go_upto_region 35 with (go_at_call 11; refine (nth_some (show Hid (Nt v1 lo d a X g) from P1.out.nt) Hm HX).mono ?_; rintro r w0 ⟨rfl, h00⟩; rw [h00]; clear h00)
  go_quiet (fail)
  go_wp2
  go_ret
  exact ⟨rfl, _, _, _, _, P1.out.below (below_drewN (Below.refl _ _) _), F1.out.trans hP.out (PF.below (below_drewN (Below.refl _ _) _)), by omega⟩
theorem play5 {w : World} {lo d e : Nat} {a b ab : Option Addr} {X : List Lt} {g wh fr tt nu : Int} {nb cb : Nat} {bs : List Nat} {E : Nat → Addr} (hP : Hid (Pr w lo d e a b X g)) (hlo : lo ≤ w.heap.size) (hE : Hid (Sent w 18 E)) (hg : Hid (g < 4611686018427387904)) (hS : Hid (Sln w ab nb bs)) (hz : Hid (ab = none → cb = 0)) (hL : Hid (bs.length ≤ 140737488351232)) (hA : Hid (∀ q, bs ≠ [] → blkOf ab = some q → ¬ Pk d e a b q)) : Calls Tryd.prog 8 #[.pointer (some ⟨d, 0, none⟩), .pointer (some ⟨e, 0, none⟩), .agg #[.int .i64 5, .int .i64 wh, .int .i64 fr, .int .i64 tt, .int .i64 nu, .slice ab nb cb]] w fun r w' => PlR w w' lo d e a b g r := by
  rcases hX : X with _ | ⟨x0, X0⟩
  · subst hX; exact play5_none hP hlo hE hg hS hz hL hA rfl
  · have hl : 0 < X.length := by rw [hX]; simp
    clear hX
    obtain ⟨mi, hmi, hml⟩ : ∃ mi : Nat, nu % (X.length : Int) = (mi : Int) ∧ mi < X.length := ⟨(nu % (X.length : Int)).toNat, by have := Int.emod_nonneg nu (show (X.length : Int) ≠ 0 by omega); omega, by have := Int.emod_lt_of_pos nu (show (0 : Int) < (X.length : Int) by omega); have := Int.emod_nonneg nu (show (X.length : Int) ≠ 0 by omega); omega⟩
    exact play5_some hP hlo hE hg hS hz hL hA hmi (List.getElem?_eq_getElem hml)
set_option maxHeartbeats 4000000 in
theorem play6 {w : World} {lo d e : Nat} {a b ab : Option Addr} {X : List Lt} {g wh fr tt nu : Int} {nb cb : Nat} {bs : List Nat} {E : Nat → Addr} (hP : Hid (Pr w lo d e a b X g)) (hlo : lo ≤ w.heap.size) (hE : Hid (Sent w 18 E)) (hg : Hid (g < 4611686018427387904)) (hS : Hid (Sln w ab nb bs)) (hz : Hid (ab = none → cb = 0)) (hL : Hid (bs.length ≤ 140737488351232)) (hA : Hid (∀ q, bs ≠ [] → blkOf ab = some q → ¬ Pk d e a b q)) : Calls Tryd.prog 8 #[.pointer (some ⟨d, 0, none⟩), .pointer (some ⟨e, 0, none⟩), .agg #[.int .i64 6, .int .i64 wh, .int .i64 fr, .int .i64 tt, .int .i64 nu, .slice ab nb cb]] w fun r w' => PlR w w' lo d e a b g r := by
  obtain ⟨p1, Hp1⟩ : ∃ q, Hid (w.heap.size = q) := ⟨_, rfl⟩
  obtain ⟨v1, Hv1⟩ : ∃ v, Hid (w.alloc (.cells #[.int .i64 6, .int .i64 wh, .int .i64 fr, .int .i64 tt, .int .i64 nu, .slice ab nb cb] 34) = v) := ⟨_, rfl⟩
  have B1 : Hid (Below w.heap.size w v1) := by rw [← Hv1.out]; exact alloc1 w _
  have BX : Hid (v1.heap[p1]? = some (.cells #[.int .i64 6, .int .i64 wh, .int .i64 fr, .int .i64 tt, .int .i64 nu, .slice ab nb cb] 34 (0, 0))) := by rw [← Hv1.out, ← Hp1.out]; exact heap_alloc_new w _
  have P1 : Hid (Pr v1 lo d e a b X g) := hP.out.below B1.out
  have F1 : Hid (PF w v1 d e a b a b) := PF.below B1.out
  have E1 : Hid (Sent v1 18 E) := hE.out.below B1.out
  have S1 : Hid (Sln v1 ab nb bs) := hS.out.below B1.out
  go_enter Tryd.func8, Tryd.ntmps8
  go_upto_region 37 with (fail)
  rw [Hv1.out, Hp1.out]
  obtain ⟨y2, y3, y4, y5⟩ := cel6 BX.out
  obtain ⟨vd, Hvd⟩ : ∃ v, Hid (v1.drew = v) := ⟨_, rfl⟩
  have Bd : Below v1.heap.size v1 vd := by rw [← Hvd.out]; exact (Below.refl _ _).drew
  have BXd : Hid (vd.heap[p1]? = some (.cells #[.int .i64 6, .int .i64 wh, .int .i64 fr, .int .i64 tt, .int .i64 nu, .slice ab nb cb] 34 (0, 0))) := BX_of BX.out Bd
  have Pd : Hid (Pr vd lo d e a b X g) := P1.out.below Bd
  have Fd : Hid (PF w vd d e a b a b) := F1.out.trans hP.out (PF.below Bd)
  refine wp_region_seq (C := fun W => W.heap[p1]? = some (.cells #[.int .i64 6, .int .i64 wh, .int .i64 fr, .int .i64 tt, .int .i64 nu, .slice ab nb cb] 34 (0, 0))) [(0, false), (1, false), (2, false), (4, false), (5, false), (6, false), (3, true), (7, true), (8, false), (9, false)] (by kernel_rfl) (by kernel_rfl) (by rw [Hvd.out]; exact BXd.out) ?_
  rw [Hvd.out]
  refine seq_take (o := { dst := some 238, op := Go.Op.move (Go.Operand.tmp 0), type := 24, pos := "law.go:75", after := #[], guard := none }) (v := .pointer (some ⟨d, 0, none⟩)) (by kernel_rfl) (fun _ _ _ h => h) (Or.inl ⟨by kernel_rfl, fun W hW => by go_simp⟩) ?_
  simp only [List.getElem_toArray, List.getElem_cons_zero, List.getElem_cons_succ, Act.put, List.setIfInBounds_toArray, List.set_cons_zero, List.set_cons_succ]
  refine seq_take (o := { dst := some 239, op := Go.Op.fieldAddr 34 (Go.Operand.tmp 5) 3, type := 0, pos := "law.go:75", after := #[], guard := none }) (v := .pointer (some ⟨p1, 3, none⟩)) (by kernel_rfl) (fun _ _ _ h => h) (Or.inl ⟨by kernel_rfl, fun W hW => by go_simp⟩) ?_
  simp only [List.getElem_toArray, List.getElem_cons_zero, List.getElem_cons_succ, Act.put, List.setIfInBounds_toArray, List.set_cons_zero, List.set_cons_succ]
  refine seq_take (o := { dst := some 240, op := Go.Op.load 3 (Go.Operand.tmp 239), type := 3, pos := "law.go:75", after := #[{ on := 1, ground := Go.Ground.data }], guard := none }) (v := .int .i64 tt) (by kernel_rfl) (fun _ _ _ h => h) (Or.inl ⟨by kernel_rfl, fun W hW => by obtain ⟨q2, q3, q4, q5⟩ := cel6 hW; go_simp⟩) ?_
  simp only [List.getElem_toArray, List.getElem_cons_zero, List.getElem_cons_succ, Act.put, List.setIfInBounds_toArray, List.set_cons_zero, List.set_cons_succ]
  refine seq_take (o := { dst := some 242, op := Go.Op.move (Go.Operand.tmp 1), type := 27, pos := "law.go:75", after := #[], guard := none }) (v := .pointer (some ⟨e, 0, none⟩)) (by kernel_rfl) (fun _ _ _ h => h) (Or.inl ⟨by kernel_rfl, fun W hW => by go_simp⟩) ?_
  simp only [List.getElem_toArray, List.getElem_cons_zero, List.getElem_cons_succ, Act.put, List.setIfInBounds_toArray, List.set_cons_zero, List.set_cons_succ]
  refine seq_take (o := { dst := some 243, op := Go.Op.fieldAddr 34 (Go.Operand.tmp 5) 3, type := 0, pos := "law.go:75", after := #[], guard := none }) (v := .pointer (some ⟨p1, 3, none⟩)) (by kernel_rfl) (fun _ _ _ h => h) (Or.inl ⟨by kernel_rfl, fun W hW => by go_simp⟩) ?_
  simp only [List.getElem_toArray, List.getElem_cons_zero, List.getElem_cons_succ, Act.put, List.setIfInBounds_toArray, List.set_cons_zero, List.set_cons_succ]
  refine seq_take (o := { dst := some 244, op := Go.Op.load 3 (Go.Operand.tmp 243), type := 3, pos := "law.go:75", after := #[{ on := 5, ground := Go.Ground.data }], guard := none }) (v := .int .i64 tt) (by kernel_rfl) (fun _ _ _ h => h) (Or.inl ⟨by kernel_rfl, fun W hW => by obtain ⟨q2, q3, q4, q5⟩ := cel6 hW; go_simp⟩) ?_
  simp only [List.getElem_toArray, List.getElem_cons_zero, List.getElem_cons_succ, Act.put, List.setIfInBounds_toArray, List.set_cons_zero, List.set_cons_succ]
  refine seq_call (o := { dst := some 241, op := Go.Op.call { callee := Go.Callee.value (Go.Operand.func 23), args := #[Go.Operand.tmp 238, Go.Operand.tmp 240], argTypes := #[24, 3] }, type := 3, pos := "law.go:75", after := #[{ on := 0, ground := Go.Ground.data }, { on := 2, ground := Go.Ground.data }], guard := none }) (by kernel_rfl) (fun KK hK => ?_)
  rw [if_pos (by kernel_rfl)]
  go_simp
  go_wp2_with (go_at_call 23; refine (lose_n (show Hid (Nt vd lo d a X g) from Pd.out.nt)).mono ?_; rintro r w2 ⟨rfl, H2⟩)
  have BX2 : Hid (w2.heap[p1]? = some (.cells #[.int .i64 6, .int .i64 wh, .int .i64 fr, .int .i64 tt, .int .i64 nu, .slice ab nb cb] 34 (0, 0))) := blk_nf Pd.out.nt H2.out.2 BXd.out (by decide)
  have R2 : Hid (Rt w2 lo e b X g) := Pd.out.rt.nf Pd.out.nt H2.out.2
  refine hK.out _ _ (BX2.out) ?_
  clear hK KK
  try simp only [List.getElem_toArray, List.getElem_cons_zero, List.getElem_cons_succ, Act.put, List.setIfInBounds_toArray, List.set_cons_zero, List.set_cons_succ]
  refine seq_call (o := { dst := some 245, op := Go.Op.call { callee := Go.Callee.value (Go.Operand.func 24), args := #[Go.Operand.tmp 242, Go.Operand.tmp 244], argTypes := #[27, 3] }, type := 3, pos := "law.go:75", after := #[{ on := 4, ground := Go.Ground.data }, { on := 6, ground := Go.Ground.data }, { on := 3, ground := Go.Ground.chain }], guard := none }) (by kernel_rfl) (fun KK hK => ?_)
  rw [if_pos (by kernel_rfl)]
  go_simp
  go_wp2_with (go_at_call 24; refine (rlose_n R2 (Nat.le_trans (Nat.le_of_lt (Nat.lt_of_le_of_lt R2.out.dl R2.out.dlt)) (Nat.le_refl _))).mono ?_; rintro r w3 ⟨b3, rfl, H3⟩)
  have BX3 : Hid (w3.heap[p1]? = some (.cells #[.int .i64 6, .int .i64 wh, .int .i64 fr, .int .i64 tt, .int .i64 nu, .slice ab nb cb] 34 (0, 0))) := blk_rf R2.out H3.out.2 BX2.out (by decide)
  refine hK.out _ _ (BX3.out) ?_
  clear hK KK
  try simp only [List.getElem_toArray, List.getElem_cons_zero, List.getElem_cons_succ, Act.put, List.setIfInBounds_toArray, List.set_cons_zero, List.set_cons_succ]
  refine seq_take (o := { dst := some 246, op := Go.Op.binOp Go.BinOp.eql 3 (Go.Operand.tmp 241) (Go.Operand.tmp 245) 3, type := 4, pos := "law.go:75", after := #[{ on := 3, ground := Go.Ground.data }, { on := 7, ground := Go.Ground.data }], guard := none }) (v := .bool true) (by kernel_rfl) (fun _ _ _ h => h) (Or.inl ⟨by kernel_rfl, fun W hW => by go_simp⟩) ?_
  simp only [List.getElem_toArray, List.getElem_cons_zero, List.getElem_cons_succ, Act.put, List.setIfInBounds_toArray, List.set_cons_zero, List.set_cons_succ]
  refine seq_take (o := { dst := some 6, op := Go.Op.assign (Go.Operand.tmp 246), type := 4, pos := "law.go:75", after := #[{ on := 8, ground := Go.Ground.data }, { on := 7, ground := Go.Ground.chain }, { on := 0, ground := Go.Ground.phase }, { on := 1, ground := Go.Ground.phase }, { on := 2, ground := Go.Ground.phase }, { on := 3, ground := Go.Ground.phase }, { on := 4, ground := Go.Ground.phase }, { on := 5, ground := Go.Ground.phase }, { on := 6, ground := Go.Ground.phase }, { on := 7, ground := Go.Ground.phase }, { on := 8, ground := Go.Ground.phase }], guard := none }) (v := .bool true) (by kernel_rfl) (fun _ _ _ h => h) (Or.inl ⟨by kernel_rfl, fun W hW => by go_simp⟩) ?_
  simp only [List.getElem_toArray, List.getElem_cons_zero, List.getElem_cons_succ, Act.put, List.setIfInBounds_toArray, List.set_cons_zero, List.set_cons_succ]
  show (Exit.then _ _) .normal _ _
  go_wp2
  go_ret
  have P3 : Pr w3 lo d e a b3 (lsF tt X) g := ⟨H2.out.1.rf R2.out H3.out.2, H3.out.1⟩
  exact ⟨rfl, _, _, _, _, P3, (Fd.out.trans hP.out (PF.nf H2.out.2)).trans hP.out (PF.rf H3.out.2), by omega⟩
set_option maxHeartbeats 4000000 in
theorem play0 {w : World} {lo d e : Nat} {a b ab : Option Addr} {X : List Lt} {g wh fr tt nu : Int} {nb cb : Nat} {bs : List Nat} {E : Nat → Addr} (hP : Hid (Pr w lo d e a b X g)) (hlo : lo ≤ w.heap.size) (hE : Hid (Sent w 18 E)) (hg : Hid (g < 4611686018427387904)) (hS : Hid (Sln w ab nb bs)) (hz : Hid (ab = none → cb = 0)) (hL : Hid (bs.length ≤ 140737488351232)) (hA : Hid (∀ q, bs ≠ [] → blkOf ab = some q → ¬ Pk d e a b q)) {kd : Int} (h1 : ¬ kd = 1) (h2 : ¬ kd = 2) (h3 : ¬ kd = 3) (h4 : ¬ kd = 4) (h5 : ¬ kd = 5) (h6 : ¬ kd = 6) : Calls Tryd.prog 8 #[.pointer (some ⟨d, 0, none⟩), .pointer (some ⟨e, 0, none⟩), .agg #[.int .i64 kd, .int .i64 wh, .int .i64 fr, .int .i64 tt, .int .i64 nu, .slice ab nb cb]] w fun r w' => PlR w w' lo d e a b g r := by
  have F9 : ∀ o, Hid (Pr (w.alloc o) lo d e a b X g ∧ PF w (w.alloc o) d e a b a b) := fun o => ⟨hP.out.below (alloc1 w o), PF.below (alloc1 w o)⟩
  go_enter Tryd.func8, Tryd.ntmps8
  go_wp2
  go_ret
  exact ⟨rfl, _, _, _, _, (F9 _).out.1, (F9 _).out.2, by omega⟩
theorem play_n {w : World} {lo d e : Nat} {a b ab : Option Addr} {X : List Lt} {g wh fr tt nu : Int} {nb cb : Nat} {bs : List Nat} {E : Nat → Addr} (hP : Hid (Pr w lo d e a b X g)) (hlo : lo ≤ w.heap.size) (hE : Hid (Sent w 18 E)) (hg : Hid (g < 4611686018427387904)) (hS : Hid (Sln w ab nb bs)) (hz : Hid (ab = none → cb = 0)) (hL : Hid (bs.length ≤ 140737488351232)) (hA : Hid (∀ q, bs ≠ [] → blkOf ab = some q → ¬ Pk d e a b q)) {kd : Int} : Calls Tryd.prog 8 #[.pointer (some ⟨d, 0, none⟩), .pointer (some ⟨e, 0, none⟩), .agg #[.int .i64 kd, .int .i64 wh, .int .i64 fr, .int .i64 tt, .int .i64 nu, .slice ab nb cb]] w fun r w' => PlR w w' lo d e a b g r := by
  by_cases h1 : kd = 1
  · subst h1; exact play1 hP hlo hE hg hS hz hL hA
  · by_cases h2 : kd = 2
    · subst h2; exact play2 hP hlo hE hg hS hz hL hA
    · by_cases h3 : kd = 3
      · subst h3; exact play3 hP hlo hE hg hS hz hL hA
      · by_cases h4 : kd = 4
        · subst h4; exact play4 hP hlo hE hg hS hz hL hA
        · by_cases h5 : kd = 5
          · subst h5; exact play5 hP hlo hE hg hS hz hL hA
          · by_cases h6 : kd = 6
            · subst h6; exact play6 hP hlo hE hg hS hz hL hA
            · exact play0 hP hlo hE hg hS hz hL hA h1 h2 h3 h4 h5 h6
end Go.Proofs.YtkjebbpmafhpgaaDoor
