/- play: Send. -/
import Derived.Test.YtkjebbpmafhpgaaDoorPf
namespace Go.Proofs.YtkjebbpmafhpgaaDoor
open Go.ChangeShapes Go.WideShapes Go.ChangeAt Go.RowKit
set_option maxRecDepth 20000
set_option linter.unusedVariables false
set_option linter.unusedSimpArgs false
/- what play leaves -/
def PlR (w w' : World) (lo d e : Nat) (a b : Option Addr) (g : Int) (r : Ending) : Prop := r = .returned (.bool true) ∧ ∃ a' b' X' g', Pr w' lo d e a' b' X' g' ∧ PF w w' d e a b a' b' ∧ g' ≤ g + 1
theorem PF.set {w w' : World} {d e : Nat} {a b a' b' : Option Addr} (h : PF w w' d e a b a' b') {q : Nat} (hq : w.heap.size ≤ q) (i : Nat) (v : Value) : PF w (w'.setCell ⟨q, i, none⟩ v) d e a b a' b' :=
  ⟨h.ch.then (Ch.set w' q i v) (fun r _ h => h) (fun r hr h => by
    have h2 : r = q := h
    omega), h.nwa, h.nwb⟩
theorem cel6 {W : World} {p : Nat} {x0 x1 x2 x3 x4 x5 : Value} {t : TypeId} (h : W.heap[p]? = some (.cells #[x0, x1, x2, x3, x4, x5] t (0, 0))) : W.cell? ⟨p, 2, none⟩ = some x2 ∧ W.cell? ⟨p, 3, none⟩ = some x3 ∧ W.cell? ⟨p, 4, none⟩ = some x4 ∧ W.cell? ⟨p, 5, none⟩ = some x5 := by
  simp [World.cell?, h]
theorem num_nil (w : World) : Calls Tryd.prog 19 #[.nilIface] w fun r w' => r = .returned (.int .i64 0) ∧ Hid (Below w.heap.size w w') := (bnum_nil w).mono fun r w' h => ⟨h.1, by rw [h.2]; exact Below.refl _ _⟩
theorem num_0 {w : World} {E : Nat → Addr} (hE : Hid (Sent w 18 E)) : Calls Tryd.prog 19 #[.iface 83 (.pointer (some (E 0)))] w fun r w' => r = .returned (.int .i64 8) ∧ Hid (Below w.heap.size w w') := (bnum_err 0 7 E w (by omega) rfl (by decide) hE).mono fun r w' h => ⟨h.1, h.2⟩
theorem num_1 {w : World} {E : Nat → Addr} (hE : Hid (Sent w 18 E)) : Calls Tryd.prog 19 #[.iface 83 (.pointer (some (E 1)))] w fun r w' => r = .returned (.int .i64 2) ∧ Hid (Below w.heap.size w w') := (bnum_err 1 1 E w (by omega) rfl (by decide) hE).mono fun r w' h => ⟨h.1, h.2⟩
theorem num_2 {w : World} {E : Nat → Addr} (hE : Hid (Sent w 18 E)) : Calls Tryd.prog 19 #[.iface 83 (.pointer (some (E 2)))] w fun r w' => r = .returned (.int .i64 10) ∧ Hid (Below w.heap.size w w') := (bnum_err 2 9 E w (by omega) rfl (by decide) hE).mono fun r w' h => ⟨h.1, h.2⟩
theorem rsend_badB {w : World} {d : Nat} {f t : Int} {v : Value} (hf : Hid (notB f t)) :
    Calls Tryd.prog 18 #[.pointer (some ⟨d, 0, none⟩), .int .i64 f, .int .i64 t, v] w fun r w' => r = .returned (.tuple #[.int .i64 0, .int .i64 2]) ∧ Hid (Below w.heap.size w w') := (rsend_bad hf).mono fun r w' h => ⟨h.1, by rw [h.2]; exact Below.refl _ _⟩
set_option maxHeartbeats 4000000 in
theorem play1_ok {w : World} {lo d e : Nat} {a b ab : Option Addr} {X : List Lt} {g wh fr tt nu : Int} {nb cb : Nat} {bs : List Nat} {E : Nat → Addr} (hP : Hid (Pr w lo d e a b X g)) (hlo : lo ≤ w.heap.size) (hE : Hid (Sent w 18 E)) (hg : Hid (g < 4611686018427387904)) (hS : Hid (Sln w ab nb bs)) (hz : Hid (ab = none → cb = 0)) (hL : Hid (bs.length ≤ 140737488351232)) (hA : Hid (∀ q, bs ≠ [] → blkOf ab = some q → ¬ Pk d e a b q)) (Hf : Hid (ndB fr = true)) (Ht : Hid (ndB tt = true)) (Hl : Hid (X.length < 4096)) : Calls Tryd.prog 8 #[.pointer (some ⟨d, 0, none⟩), .pointer (some ⟨e, 0, none⟩), .agg #[.int .i64 1, .int .i64 wh, .int .i64 fr, .int .i64 tt, .int .i64 nu, .slice ab nb cb]] w fun r w' => PlR w w' lo d e a b g r := by
  obtain ⟨p1, Hp1⟩ : ∃ q, Hid (w.heap.size = q) := ⟨_, rfl⟩
  obtain ⟨v1, Hv1⟩ : ∃ v, Hid (w.alloc (.cells #[.int .i64 1, .int .i64 wh, .int .i64 fr, .int .i64 tt, .int .i64 nu, .slice ab nb cb] 34) = v) := ⟨_, rfl⟩
  have B1 : Hid (Below w.heap.size w v1) := by rw [← Hv1.out]; exact alloc1 w _
  have BX : Hid (v1.heap[p1]? = some (.cells #[.int .i64 1, .int .i64 wh, .int .i64 fr, .int .i64 tt, .int .i64 nu, .slice ab nb cb] 34 (0, 0))) := by rw [← Hv1.out, ← Hp1.out]; exact heap_alloc_new w _
  have P1 : Hid (Pr v1 lo d e a b X g) := hP.out.below B1.out
  have F1 : Hid (PF w v1 d e a b a b) := PF.below B1.out
  have E1 : Hid (Sent v1 18 E) := hE.out.below B1.out
  have S1 : Hid (Sln v1 ab nb bs) := hS.out.below B1.out
  have hA1 : Hid (∀ q, bs ≠ [] → blkOf ab = some q → ¬ (q = d ∨ blkOf a = some q)) := fun q h0 h1 h2 => hA.out q h0 h1 (.inl h2)
  have hA2 : Hid (∀ q, bs ≠ [] → blkOf ab = some q → ¬ (q = e ∨ blkOf b = some q)) := fun q h0 h1 h2 => hA.out q h0 h1 (.inr h2)
  go_enter Tryd.func8, Tryd.ntmps8
  go_upto_region 3 with (fail)
  rw [Hv1.out, Hp1.out]
  obtain ⟨y2, y3, y4, y5⟩ := cel6 BX.out
  go_upto_region 4 with (go_at_call 17; refine (bytes_n S1 hz.out).mono ?_; rintro r w2 ⟨g8, N8, rfl, H2⟩)
  obtain ⟨HN, HG8, HB8, B2⟩ := H2.out
  have HN8 : Hid (N8 = nb + 6) := HN
  have K2 : Hid (Blk w2 g8 (bs ++ marks)) := HB8
  have BX2 : Hid (w2.heap[p1]? = some (.cells #[.int .i64 1, .int .i64 wh, .int .i64 fr, .int .i64 tt, .int .i64 nu, .slice ab nb cb] 34 (0, 0))) := (B2.block p1 (Array.getElem?_eq_some_iff.1 BX.out).1).trans BX.out
  have P2 : Hid (Pr w2 lo d e a b X g) := P1.out.below B2
  have F2 : Hid (PF w w2 d e a b a b) := F1.out.trans hP.out (PF.below B2)
  have E2 : Hid (Sent w2 18 E) := E1.out.below B2
  have S2 : Hid (Sln w2 ab nb bs) := S1.out.below B2
  have T2 : Hid (Sln w2 (some ⟨g8, 0, none⟩) nb bs) := blk_begin HB8 S1.out.len S1.out.lt S1.out.sli.2.1
  have G8 : Hid (w.heap.size ≤ g8) := by show _ ≤ _; rw [HG8]; exact B1.out.size
  clear HN HG8 HB8 B2 H2 y2 y3 y4 y5
  obtain ⟨y2, y3, y4, y5⟩ := cel6 BX2.out
  go_upto_region 5 with (go_at_call 10; refine (send_ok (cb := N8) (show Hid (Nt w2 lo d a X g) from P2.out.nt) hg T2 hL Hf Ht Hl).mono ?_; rintro r w3 ⟨a3, rfl, H3⟩)
  have P3 : Hid (Nt w3 lo d a3 (X ++ [⟨g + 1, fr, tt, spell bs⟩]) (g + 1) ∧ Rt w3 lo e b X g) := ⟨H3.out.1, P2.out.rt.nf P2.out.nt H3.out.2⟩
  have F3 : Hid (PF w w3 d e a b a3 b) := F2.out.trans hP.out (PF.nf H3.out.2)
  have BX3 : Hid (w3.heap[p1]? = some (.cells #[.int .i64 1, .int .i64 wh, .int .i64 fr, .int .i64 tt, .int .i64 nu, .slice ab nb cb] 34 (0, 0))) := blk_nf P2.out.nt H3.out.2 BX2.out (by decide)
  have K3 : Hid (Blk w3 g8 (bs ++ marks)) := blk_nf P2.out.nt H3.out.2 K2.out (by decide)
  have S3 : Hid (Sln w3 ab nb bs) := S2.out.nf H3.out.2 hA1.out
  clear y2 y3 y4 y5
  obtain ⟨y2, y3, y4, y5⟩ := cel6 BX3.out
  go_upto_region 6 with (go_at_call 18; refine (rsend_ok (cb := cb) (show Hid (Rt w3 lo e b X g) from P3.out.2) hg S3 hL Hf Ht Hl).mono ?_; rintro r w4 ⟨b4, rfl, H4⟩)
  have P4 : Hid (Pr w4 lo d e a3 b4 (X ++ [⟨g + 1, fr, tt, spell bs⟩]) (g + 1)) := ⟨P3.out.1.rf P3.out.2 H4.out.2, H4.out.1⟩
  have F4 : Hid (PF w w4 d e a b a3 b4) := F3.out.trans hP.out (PF.rf H4.out.2)
  have BX4 : Hid (w4.heap[p1]? = some (.cells #[.int .i64 1, .int .i64 wh, .int .i64 fr, .int .i64 tt, .int .i64 nu, .slice ab nb cb] 34 (0, 0))) := blk_rf P3.out.2 H4.out.2 BX3.out (by decide)
  have K4 : Hid (Blk w4 g8 (bs ++ marks)) := blk_rf P3.out.2 H4.out.2 K3.out (by decide)
  have S4 : Hid (Sln w4 ab nb bs) := S3.out.nf H4.out.2 hA2.out
  obtain ⟨X4, HX4⟩ : ∃ z : List Lt, Hid (X ++ [(⟨g + 1, fr, tt, spell bs⟩ : Lt)] = z) := ⟨_, rfl⟩
  rw [HX4.out] at P4
  clear y2 y3 y4 y5
  obtain ⟨y2, y3, y4, y5⟩ := cel6 BX4.out
  go_upto_region 7 with (first
    | (go_at_call 19; refine (num_nil _).mono ?_; rintro r w5 ⟨rfl, H5⟩
       have K5 : Hid (Blk w5 g8 (bs ++ marks)) := K4.out.below H5.out K4.out.lt
       have S5 : Hid (Sln w5 ab nb bs) := S4.out.below H5.out
       have z5 : w5.cell? ⟨p1, 5, none⟩ = some (.slice ab nb cb) := (H5.out.cell (p := ⟨p1, 5, none⟩) (cell_lt y5)).trans y5)
    | (go_at_call 20; refine (kept_n K5 HN8 S5).mono ?_; rintro r w6 ⟨rfl, H6⟩))
  have B6 : Hid (Below w4.heap.size w4 w6) := by
    obtain ⟨k6, h6⟩ := H6.out
    show Below _ _ _
    rw [h6]
    exact below_drewN H5.out _
  have R6 : Hid (Bq w6 g8 nb ∧ Pr w6 lo d e a3 b4 X4 (g + 1) ∧ PF w w6 d e a b a3 b4) := ⟨(Bq.marks K4.out S4.out.lt S4.out.len).below B6.out, P4.out.below B6.out, F4.out.trans hP.out (PF.below B6.out)⟩
  have NB : nb ≤ 140737488351232 := by rw [S4.out.len]; exact hL.out
  clear H6 H5 B6 y2 y3 y4 y5
  go_wp2
  go_loopw [74] (fun ti wr => ∃ j : Nat, j ≤ nb ∧ ti = .int .i64 (j : Int) ∧ Hid (Bq wr g8 nb ∧ Pr wr lo d e a3 b4 X4 (g + 1) ∧ PF w wr d e a b a3 b4)) (fun ti _ => nb - (intOf ti).toNat)
  case atStart => exact ⟨0, by omega, rfl, R6.out⟩
  case round =>
    obtain ⟨j, hj, rfl, HJ⟩ := hrel
    clear R6
    by_cases hjl : j < nb
    · have i3 : (j : Int) < (nb : Int) := by omega
      obtain ⟨x, hx, cx, fx⟩ := HJ.out.1.at_ hjl
      have x3 : bits .xor .u8 (x : Int) 3 = ((x ^^^ 3 : Nat) : Int) := u8_xor_nat x 3 hx (by omega)
      have NX : Hid (Bq (wr.setCell ⟨g8, j, none⟩ (.int .u8 ((x ^^^ 3 : Nat) : Int))) g8 nb ∧ Pr (wr.setCell ⟨g8, j, none⟩ (.int .u8 ((x ^^^ 3 : Nat) : Int))) lo d e a3 b4 X4 (g + 1) ∧ PF w (wr.setCell ⟨g8, j, none⟩ (.int .u8 ((x ^^^ 3 : Nat) : Int))) d e a b a3 b4) :=
        ⟨HJ.out.1.put j _ (Nat.xor_lt_two_pow (n := 8) hx (by omega)), HJ.out.2.1.put HJ.out.1 _, HJ.out.2.2.set G8.out j _⟩
      clear HJ
      go_wp2
      go_roundw
      case rel => exact ⟨j + 1, by omega, by go_num, NX.out⟩
      case measure => simp [intOf]; omega
    · obtain rfl : j = nb := by omega
      go_wp2
      go_ret
      exact ⟨rfl, _, _, _, _, HJ.out.2.1, HJ.out.2.2, by omega⟩
set_option maxHeartbeats 4000000 in
theorem play1_full {w : World} {lo d e : Nat} {a b ab : Option Addr} {X : List Lt} {g wh fr tt nu : Int} {nb cb : Nat} {bs : List Nat} {E : Nat → Addr} (hP : Hid (Pr w lo d e a b X g)) (hlo : lo ≤ w.heap.size) (hE : Hid (Sent w 18 E)) (hg : Hid (g < 4611686018427387904)) (hS : Hid (Sln w ab nb bs)) (hz : Hid (ab = none → cb = 0)) (hL : Hid (bs.length ≤ 140737488351232)) (hA : Hid (∀ q, bs ≠ [] → blkOf ab = some q → ¬ Pk d e a b q)) (Hf : Hid (ndB fr = true)) (Ht : Hid (ndB tt = true)) (Hl : Hid (4096 ≤ X.length)) : Calls Tryd.prog 8 #[.pointer (some ⟨d, 0, none⟩), .pointer (some ⟨e, 0, none⟩), .agg #[.int .i64 1, .int .i64 wh, .int .i64 fr, .int .i64 tt, .int .i64 nu, .slice ab nb cb]] w fun r w' => PlR w w' lo d e a b g r := by
  obtain ⟨p1, Hp1⟩ : ∃ q, Hid (w.heap.size = q) := ⟨_, rfl⟩
  obtain ⟨v1, Hv1⟩ : ∃ v, Hid (w.alloc (.cells #[.int .i64 1, .int .i64 wh, .int .i64 fr, .int .i64 tt, .int .i64 nu, .slice ab nb cb] 34) = v) := ⟨_, rfl⟩
  have B1 : Hid (Below w.heap.size w v1) := by rw [← Hv1.out]; exact alloc1 w _
  have BX : Hid (v1.heap[p1]? = some (.cells #[.int .i64 1, .int .i64 wh, .int .i64 fr, .int .i64 tt, .int .i64 nu, .slice ab nb cb] 34 (0, 0))) := by rw [← Hv1.out, ← Hp1.out]; exact heap_alloc_new w _
  have P1 : Hid (Pr v1 lo d e a b X g) := hP.out.below B1.out
  have F1 : Hid (PF w v1 d e a b a b) := PF.below B1.out
  have E1 : Hid (Sent v1 18 E) := hE.out.below B1.out
  have S1 : Hid (Sln v1 ab nb bs) := hS.out.below B1.out
  have hA1 : Hid (∀ q, bs ≠ [] → blkOf ab = some q → ¬ (q = d ∨ blkOf a = some q)) := fun q h0 h1 h2 => hA.out q h0 h1 (.inl h2)
  have hA2 : Hid (∀ q, bs ≠ [] → blkOf ab = some q → ¬ (q = e ∨ blkOf b = some q)) := fun q h0 h1 h2 => hA.out q h0 h1 (.inr h2)
  go_enter Tryd.func8, Tryd.ntmps8
  go_upto_region 3 with (fail)
  rw [Hv1.out, Hp1.out]
  obtain ⟨y2, y3, y4, y5⟩ := cel6 BX.out
  go_upto_region 4 with (go_at_call 17; refine (bytes_n S1 hz.out).mono ?_; rintro r w2 ⟨g8, N8, rfl, H2⟩)
  obtain ⟨HN, HG8, HB8, B2⟩ := H2.out
  have HN8 : Hid (N8 = nb + 6) := HN
  have K2 : Hid (Blk w2 g8 (bs ++ marks)) := HB8
  have BX2 : Hid (w2.heap[p1]? = some (.cells #[.int .i64 1, .int .i64 wh, .int .i64 fr, .int .i64 tt, .int .i64 nu, .slice ab nb cb] 34 (0, 0))) := (B2.block p1 (Array.getElem?_eq_some_iff.1 BX.out).1).trans BX.out
  have P2 : Hid (Pr w2 lo d e a b X g) := P1.out.below B2
  have F2 : Hid (PF w w2 d e a b a b) := F1.out.trans hP.out (PF.below B2)
  have E2 : Hid (Sent w2 18 E) := E1.out.below B2
  have S2 : Hid (Sln w2 ab nb bs) := S1.out.below B2
  have T2 : Hid (Sln w2 (some ⟨g8, 0, none⟩) nb bs) := blk_begin HB8 S1.out.len S1.out.lt S1.out.sli.2.1
  have G8 : Hid (w.heap.size ≤ g8) := by show _ ≤ _; rw [HG8]; exact B1.out.size
  clear HN HG8 HB8 B2 H2 y2 y3 y4 y5
  obtain ⟨y2, y3, y4, y5⟩ := cel6 BX2.out
  go_upto_region 5 with (go_at_call 10; refine (send_full (show Hid (Nt w2 lo d a X g) from P2.out.nt) E2 (by omega) Hf Ht Hl).mono ?_; rintro r w3 ⟨rfl, H3⟩)
  have P3 : Hid (Pr w3 lo d e a b X g) := P2.out.below H3.out
  have F3 : Hid (PF w w3 d e a b a b) := F2.out.trans hP.out (PF.below H3.out)
  have BX3 : Hid (w3.heap[p1]? = some (.cells #[.int .i64 1, .int .i64 wh, .int .i64 fr, .int .i64 tt, .int .i64 nu, .slice ab nb cb] 34 (0, 0))) := (H3.out.block p1 (Array.getElem?_eq_some_iff.1 BX2.out).1).trans BX2.out
  have K3 : Hid (Blk w3 g8 (bs ++ marks)) := K2.out.below H3.out K2.out.lt
  have S3 : Hid (Sln w3 ab nb bs) := S2.out.below H3.out
  have E3 : Hid (Sent w3 18 E) := E2.out.below H3.out
  clear y2 y3 y4 y5
  obtain ⟨y2, y3, y4, y5⟩ := cel6 BX3.out
  go_upto_region 6 with (go_at_call 18; refine (rsend_full (cb := cb) (show Hid (Rt w3 lo e b X g) from P3.out.rt) S3 Hf Ht Hl).mono ?_; rintro r w4 ⟨rfl, H4⟩)
  have P4 : Hid (Pr w4 lo d e a b X g) := P3.out.below H4.out
  have F4 : Hid (PF w w4 d e a b a b) := F3.out.trans hP.out (PF.below H4.out)
  have BX4 : Hid (w4.heap[p1]? = some (.cells #[.int .i64 1, .int .i64 wh, .int .i64 fr, .int .i64 tt, .int .i64 nu, .slice ab nb cb] 34 (0, 0))) := (H4.out.block p1 (Array.getElem?_eq_some_iff.1 BX3.out).1).trans BX3.out
  have K4 : Hid (Blk w4 g8 (bs ++ marks)) := K3.out.below H4.out K3.out.lt
  have S4 : Hid (Sln w4 ab nb bs) := S3.out.below H4.out
  have E4 : Hid (Sent w4 18 E) := E3.out.below H4.out
  clear y2 y3 y4 y5
  obtain ⟨y2, y3, y4, y5⟩ := cel6 BX4.out
  go_upto_region 7 with (first
    | (go_at_call 19; refine (num_2 E4).mono ?_; rintro r w5 ⟨rfl, H5⟩
       have K5 : Hid (Blk w5 g8 (bs ++ marks)) := K4.out.below H5.out K4.out.lt
       have S5 : Hid (Sln w5 ab nb bs) := S4.out.below H5.out
       have z5 : w5.cell? ⟨p1, 5, none⟩ = some (.slice ab nb cb) := (H5.out.cell (p := ⟨p1, 5, none⟩) (cell_lt y5)).trans y5)
    | (go_at_call 20; refine (kept_n K5 HN8 S5).mono ?_; rintro r w6 ⟨rfl, H6⟩))
  have B6 : Hid (Below w4.heap.size w4 w6) := by
    obtain ⟨k6, h6⟩ := H6.out
    show Below _ _ _
    rw [h6]
    exact below_drewN H5.out _
  have R6 : Hid (Bq w6 g8 nb ∧ Pr w6 lo d e a b X g ∧ PF w w6 d e a b a b) := ⟨(Bq.marks K4.out S4.out.lt S4.out.len).below B6.out, P4.out.below B6.out, F4.out.trans hP.out (PF.below B6.out)⟩
  have NB : nb ≤ 140737488351232 := by rw [S4.out.len]; exact hL.out
  clear H6 H5 B6 y2 y3 y4 y5
  go_wp2
  go_loopw [74] (fun ti wr => ∃ j : Nat, j ≤ nb ∧ ti = .int .i64 (j : Int) ∧ Hid (Bq wr g8 nb ∧ Pr wr lo d e a b X g ∧ PF w wr d e a b a b)) (fun ti _ => nb - (intOf ti).toNat)
  case atStart => exact ⟨0, by omega, rfl, R6.out⟩
  case round =>
    obtain ⟨j, hj, rfl, HJ⟩ := hrel
    clear R6
    by_cases hjl : j < nb
    · have i3 : (j : Int) < (nb : Int) := by omega
      obtain ⟨x, hx, cx, fx⟩ := HJ.out.1.at_ hjl
      have x3 : bits .xor .u8 (x : Int) 3 = ((x ^^^ 3 : Nat) : Int) := u8_xor_nat x 3 hx (by omega)
      have NX : Hid (Bq (wr.setCell ⟨g8, j, none⟩ (.int .u8 ((x ^^^ 3 : Nat) : Int))) g8 nb ∧ Pr (wr.setCell ⟨g8, j, none⟩ (.int .u8 ((x ^^^ 3 : Nat) : Int))) lo d e a b X g ∧ PF w (wr.setCell ⟨g8, j, none⟩ (.int .u8 ((x ^^^ 3 : Nat) : Int))) d e a b a b) :=
        ⟨HJ.out.1.put j _ (Nat.xor_lt_two_pow (n := 8) hx (by omega)), HJ.out.2.1.put HJ.out.1 _, HJ.out.2.2.set G8.out j _⟩
      clear HJ
      go_wp2
      go_roundw
      case rel => exact ⟨j + 1, by omega, by go_num, NX.out⟩
      case measure => simp [intOf]; omega
    · obtain rfl : j = nb := by omega
      go_wp2
      go_ret
      exact ⟨rfl, _, _, _, _, HJ.out.2.1, HJ.out.2.2, by omega⟩
set_option maxHeartbeats 4000000 in
theorem play1_bad {w : World} {lo d e : Nat} {a b ab : Option Addr} {X : List Lt} {g wh fr tt nu : Int} {nb cb : Nat} {bs : List Nat} {E : Nat → Addr} (hP : Hid (Pr w lo d e a b X g)) (hlo : lo ≤ w.heap.size) (hE : Hid (Sent w 18 E)) (hg : Hid (g < 4611686018427387904)) (hS : Hid (Sln w ab nb bs)) (hz : Hid (ab = none → cb = 0)) (hL : Hid (bs.length ≤ 140737488351232)) (hA : Hid (∀ q, bs ≠ [] → blkOf ab = some q → ¬ Pk d e a b q)) (Hn : Hid (notB fr tt)) : Calls Tryd.prog 8 #[.pointer (some ⟨d, 0, none⟩), .pointer (some ⟨e, 0, none⟩), .agg #[.int .i64 1, .int .i64 wh, .int .i64 fr, .int .i64 tt, .int .i64 nu, .slice ab nb cb]] w fun r w' => PlR w w' lo d e a b g r := by
  obtain ⟨p1, Hp1⟩ : ∃ q, Hid (w.heap.size = q) := ⟨_, rfl⟩
  obtain ⟨v1, Hv1⟩ : ∃ v, Hid (w.alloc (.cells #[.int .i64 1, .int .i64 wh, .int .i64 fr, .int .i64 tt, .int .i64 nu, .slice ab nb cb] 34) = v) := ⟨_, rfl⟩
  have B1 : Hid (Below w.heap.size w v1) := by rw [← Hv1.out]; exact alloc1 w _
  have BX : Hid (v1.heap[p1]? = some (.cells #[.int .i64 1, .int .i64 wh, .int .i64 fr, .int .i64 tt, .int .i64 nu, .slice ab nb cb] 34 (0, 0))) := by rw [← Hv1.out, ← Hp1.out]; exact heap_alloc_new w _
  have P1 : Hid (Pr v1 lo d e a b X g) := hP.out.below B1.out
  have F1 : Hid (PF w v1 d e a b a b) := PF.below B1.out
  have E1 : Hid (Sent v1 18 E) := hE.out.below B1.out
  have S1 : Hid (Sln v1 ab nb bs) := hS.out.below B1.out
  have hA1 : Hid (∀ q, bs ≠ [] → blkOf ab = some q → ¬ (q = d ∨ blkOf a = some q)) := fun q h0 h1 h2 => hA.out q h0 h1 (.inl h2)
  have hA2 : Hid (∀ q, bs ≠ [] → blkOf ab = some q → ¬ (q = e ∨ blkOf b = some q)) := fun q h0 h1 h2 => hA.out q h0 h1 (.inr h2)
  go_enter Tryd.func8, Tryd.ntmps8
  go_upto_region 3 with (fail)
  rw [Hv1.out, Hp1.out]
  obtain ⟨y2, y3, y4, y5⟩ := cel6 BX.out
  go_upto_region 4 with (go_at_call 17; refine (bytes_n S1 hz.out).mono ?_; rintro r w2 ⟨g8, N8, rfl, H2⟩)
  obtain ⟨HN, HG8, HB8, B2⟩ := H2.out
  have HN8 : Hid (N8 = nb + 6) := HN
  have K2 : Hid (Blk w2 g8 (bs ++ marks)) := HB8
  have BX2 : Hid (w2.heap[p1]? = some (.cells #[.int .i64 1, .int .i64 wh, .int .i64 fr, .int .i64 tt, .int .i64 nu, .slice ab nb cb] 34 (0, 0))) := (B2.block p1 (Array.getElem?_eq_some_iff.1 BX.out).1).trans BX.out
  have P2 : Hid (Pr w2 lo d e a b X g) := P1.out.below B2
  have F2 : Hid (PF w w2 d e a b a b) := F1.out.trans hP.out (PF.below B2)
  have E2 : Hid (Sent w2 18 E) := E1.out.below B2
  have S2 : Hid (Sln w2 ab nb bs) := S1.out.below B2
  have T2 : Hid (Sln w2 (some ⟨g8, 0, none⟩) nb bs) := blk_begin HB8 S1.out.len S1.out.lt S1.out.sli.2.1
  have G8 : Hid (w.heap.size ≤ g8) := by show _ ≤ _; rw [HG8]; exact B1.out.size
  clear HN HG8 HB8 B2 H2 y2 y3 y4 y5
  obtain ⟨y2, y3, y4, y5⟩ := cel6 BX2.out
  go_upto_region 5 with (go_at_call 10; refine (send_bad (X := X) (a := a) (g := g) (lo := lo) E2 (by omega) Hn).mono ?_; rintro r w3 ⟨rfl, H3⟩)
  have P3 : Hid (Pr w3 lo d e a b X g) := P2.out.below H3.out
  have F3 : Hid (PF w w3 d e a b a b) := F2.out.trans hP.out (PF.below H3.out)
  have BX3 : Hid (w3.heap[p1]? = some (.cells #[.int .i64 1, .int .i64 wh, .int .i64 fr, .int .i64 tt, .int .i64 nu, .slice ab nb cb] 34 (0, 0))) := (H3.out.block p1 (Array.getElem?_eq_some_iff.1 BX2.out).1).trans BX2.out
  have K3 : Hid (Blk w3 g8 (bs ++ marks)) := K2.out.below H3.out K2.out.lt
  have S3 : Hid (Sln w3 ab nb bs) := S2.out.below H3.out
  have E3 : Hid (Sent w3 18 E) := E2.out.below H3.out
  clear y2 y3 y4 y5
  obtain ⟨y2, y3, y4, y5⟩ := cel6 BX3.out
  go_upto_region 6 with (go_at_call 18; refine (rsend_badB (w := w3) Hn).mono ?_; rintro r w4 ⟨rfl, H4⟩)
  have P4 : Hid (Pr w4 lo d e a b X g) := P3.out.below H4.out
  have F4 : Hid (PF w w4 d e a b a b) := F3.out.trans hP.out (PF.below H4.out)
  have BX4 : Hid (w4.heap[p1]? = some (.cells #[.int .i64 1, .int .i64 wh, .int .i64 fr, .int .i64 tt, .int .i64 nu, .slice ab nb cb] 34 (0, 0))) := (H4.out.block p1 (Array.getElem?_eq_some_iff.1 BX3.out).1).trans BX3.out
  have K4 : Hid (Blk w4 g8 (bs ++ marks)) := K3.out.below H4.out K3.out.lt
  have S4 : Hid (Sln w4 ab nb bs) := S3.out.below H4.out
  have E4 : Hid (Sent w4 18 E) := E3.out.below H4.out
  clear y2 y3 y4 y5
  obtain ⟨y2, y3, y4, y5⟩ := cel6 BX4.out
  go_upto_region 7 with (first
    | (go_at_call 19; refine (num_1 E4).mono ?_; rintro r w5 ⟨rfl, H5⟩
       have K5 : Hid (Blk w5 g8 (bs ++ marks)) := K4.out.below H5.out K4.out.lt
       have S5 : Hid (Sln w5 ab nb bs) := S4.out.below H5.out
       have z5 : w5.cell? ⟨p1, 5, none⟩ = some (.slice ab nb cb) := (H5.out.cell (p := ⟨p1, 5, none⟩) (cell_lt y5)).trans y5)
    | (go_at_call 20; refine (kept_n K5 HN8 S5).mono ?_; rintro r w6 ⟨rfl, H6⟩))
  have B6 : Hid (Below w4.heap.size w4 w6) := by
    obtain ⟨k6, h6⟩ := H6.out
    show Below _ _ _
    rw [h6]
    exact below_drewN H5.out _
  have R6 : Hid (Bq w6 g8 nb ∧ Pr w6 lo d e a b X g ∧ PF w w6 d e a b a b) := ⟨(Bq.marks K4.out S4.out.lt S4.out.len).below B6.out, P4.out.below B6.out, F4.out.trans hP.out (PF.below B6.out)⟩
  have NB : nb ≤ 140737488351232 := by rw [S4.out.len]; exact hL.out
  clear H6 H5 B6 y2 y3 y4 y5
  go_wp2
  go_loopw [74] (fun ti wr => ∃ j : Nat, j ≤ nb ∧ ti = .int .i64 (j : Int) ∧ Hid (Bq wr g8 nb ∧ Pr wr lo d e a b X g ∧ PF w wr d e a b a b)) (fun ti _ => nb - (intOf ti).toNat)
  case atStart => exact ⟨0, by omega, rfl, R6.out⟩
  case round =>
    obtain ⟨j, hj, rfl, HJ⟩ := hrel
    clear R6
    by_cases hjl : j < nb
    · have i3 : (j : Int) < (nb : Int) := by omega
      obtain ⟨x, hx, cx, fx⟩ := HJ.out.1.at_ hjl
      have x3 : bits .xor .u8 (x : Int) 3 = ((x ^^^ 3 : Nat) : Int) := u8_xor_nat x 3 hx (by omega)
      have NX : Hid (Bq (wr.setCell ⟨g8, j, none⟩ (.int .u8 ((x ^^^ 3 : Nat) : Int))) g8 nb ∧ Pr (wr.setCell ⟨g8, j, none⟩ (.int .u8 ((x ^^^ 3 : Nat) : Int))) lo d e a b X g ∧ PF w (wr.setCell ⟨g8, j, none⟩ (.int .u8 ((x ^^^ 3 : Nat) : Int))) d e a b a b) :=
        ⟨HJ.out.1.put j _ (Nat.xor_lt_two_pow (n := 8) hx (by omega)), HJ.out.2.1.put HJ.out.1 _, HJ.out.2.2.set G8.out j _⟩
      clear HJ
      go_wp2
      go_roundw
      case rel => exact ⟨j + 1, by omega, by go_num, NX.out⟩
      case measure => simp [intOf]; omega
    · obtain rfl : j = nb := by omega
      go_wp2
      go_ret
      exact ⟨rfl, _, _, _, _, HJ.out.2.1, HJ.out.2.2, by omega⟩
theorem play1 {w : World} {lo d e : Nat} {a b ab : Option Addr} {X : List Lt} {g wh fr tt nu : Int} {nb cb : Nat} {bs : List Nat} {E : Nat → Addr} (hP : Hid (Pr w lo d e a b X g)) (hlo : lo ≤ w.heap.size) (hE : Hid (Sent w 18 E)) (hg : Hid (g < 4611686018427387904)) (hS : Hid (Sln w ab nb bs)) (hz : Hid (ab = none → cb = 0)) (hL : Hid (bs.length ≤ 140737488351232)) (hA : Hid (∀ q, bs ≠ [] → blkOf ab = some q → ¬ Pk d e a b q)) : Calls Tryd.prog 8 #[.pointer (some ⟨d, 0, none⟩), .pointer (some ⟨e, 0, none⟩), .agg #[.int .i64 1, .int .i64 wh, .int .i64 fr, .int .i64 tt, .int .i64 nu, .slice ab nb cb]] w fun r w' => PlR w w' lo d e a b g r := by
  by_cases hnd : ndB fr = true ∧ ndB tt = true
  · rcases Nat.lt_or_ge X.length 4096 with h | h
    · exact play1_ok hP hlo hE hg hS hz hL hA hnd.1 hnd.2 h
    · exact play1_full hP hlo hE hg hS hz hL hA hnd.1 hnd.2 h
  · exact play1_bad hP hlo hE hg hS hz hL hA hnd
end Go.Proofs.YtkjebbpmafhpgaaDoor
