/- What waits, held side by side. -/
import Derived.Test.YtkjebbpmafhpgaaDoorPi
namespace Go.Proofs.YtkjebbpmafhpgaaDoor
open Go.ChangeShapes Go.WideShapes Go.ChangeAt Go.RowKit
set_option maxRecDepth 20000
set_option linter.unusedVariables false
set_option linter.unusedSimpArgs false
set_option maxHeartbeats 4000000 in
theorem waits_n {w : World} {lo d e : Nat} {a b : Option Addr} {X : List Lt} {g : Int} (hP : Hid (Pr w lo d e a b X g)) :
    Calls Tryd.prog 9 #[.pointer (some ⟨d, 0, none⟩), .pointer (some ⟨e, 0, none⟩)] w fun r w' => r = .returned (.bool true) ∧ Hid (Below w.heap.size w w') := by
  obtain ⟨n, c, h1, h2⟩ := hP.out.rt.st
  have A : Hid (Rw w lo 38 EL b n c X) := h2
  have D1 : Hid (w.heap[e]? = some (.cells #[.slice b n c, .int .i64 g] 30 (0, 0))) := h1
  have LX : Hid (n = X.length) := h2.len
  have nb : n ≤ 4096 := by rw [LX.out]; exact hP.out.rt.ln
  obtain ⟨q0, Hq0⟩ : ∃ q, Hid (w.heap.size = q) := ⟨_, rfl⟩
  obtain ⟨w1, Hw1⟩ : ∃ w1, Hid (w.alloc (.cells #[] 3) = w1) := ⟨_, rfl⟩
  have B1 : Hid (Below w.heap.size w w1) := by rw [← Hw1.out]; exact alloc1 w _
  have J1 : Hid (w1.ownsRow w.heap.size 3 1 (.slice (some ⟨q0, 0, none⟩) 0 0) 0 (((X.take 0).map Lt.no).map iv) ∧ Below w.heap.size w w1) := ⟨⟨rfl, .inr ⟨q0, 0, #[], rfl, by rw [Hq0.out]; exact Nat.le_refl _, by rw [← Hw1.out, ← Hq0.out]; exact heap_alloc_new w _, Nat.le_refl _, by unfold maxLen; omega, rfl, rfl⟩⟩, B1.out⟩
  have c2 : w1.cell? ⟨e, 0, none⟩ = some (.slice b n c) := (cel2 (BX_of D1.out B1.out)).1
  clear h1 h2
  go_enter Tryd.func9, Tryd.ntmps9
  go_upto_region 2 with (fail)
  rw [Hw1.out, Hq0.out]
  go_wp2
  go_loopw [5, 14] (fun t5 ti wr => ∃ (j : Nat) (bb : Option Addr) (cm : Nat), j ≤ n ∧ ti = .int .i64 (j : Int) ∧ t5 = .slice bb j cm ∧ Hid (wr.ownsRow w.heap.size 3 1 (.slice bb j cm) j (((X.take j).map Lt.no).map iv) ∧ Below w.heap.size w wr)) (fun _ ti _ => n - (intOf ti).toNat)
  case atStart => exact ⟨0, _, 0, by omega, rfl, rfl, J1.out⟩
  case round =>
    obtain ⟨j, bb, cm, hj, rfl, rfl, HB⟩ := hrel
    clear J1
    by_cases hlt : j < n
    · have i3 : (j : Int) < (n : Int) := by omega
      have kx : j < X.length := by rw [← LX.out]; exact hlt
      obtain ⟨b1, rfl, q1, q2, e1⟩ := (A.out.below HB.out.2).at_ kx
      obtain ⟨x, Hx⟩ : ∃ x, Hid (X[j] = x) := ⟨X[j], (rfl : X[j] = X[j])⟩
      rw [Hx.out] at e1
      have EX : Hid (X[j]? = some x) := by show _ = _; rw [← Hx.out]; exact List.getElem?_eq_getElem kx
      have d0 : wr.cell? ⟨b1, j * 4, none⟩ = some (.int .i64 x.no) := e1 0 _ rfl
      have d1 : wr.cell? ⟨b1, j * 4 + 1, none⟩ = some (.int .i64 x.fm) := e1 1 _ rfl
      have d2 : wr.cell? ⟨b1, j * 4 + 2, none⟩ = some (.int .i64 x.tt) := e1 2 _ rfl
      have d3 : wr.cell? ⟨b1, j * 4 + 3, none⟩ = some (.string x.bs) := e1 3 _ rfl
      clear e1 Hx kx q1 q2
      go_upto_region 5 with (fail)
      obtain ⟨p1, Hp1⟩ : ∃ q, Hid (wr.heap.size = q) := ⟨_, rfl⟩
      obtain ⟨v1, Hv1⟩ : ∃ v, Hid (wr.alloc (.cells #[.int .i64 x.no, .int .i64 x.fm, .int .i64 x.tt, .string x.bs] 38) = v) := ⟨_, rfl⟩
      have b1' : Below wr.heap.size wr v1 := by rw [← Hv1.out]; exact alloc1 wr _
      have K1 : v1.heap[p1]? = some (.cells #[.int .i64 x.no, .int .i64 x.fm, .int .i64 x.tt, .string x.bs] 38 (0, 0)) := by rw [← Hv1.out, ← Hp1.out]; exact heap_alloc_new wr _
      obtain ⟨y0, y1, y2, y3⟩ := cel4 K1
      have BW : Below w.heap.size w (v1.alloc (.cells #[.int .i64 x.no] 3)) := (HB.out.2.trans (b1'.mono HB.out.2.size)).trans ((alloc1 v1 _).mono (Nat.le_trans HB.out.2.size b1'.size))
      have O2 : (v1.alloc (.cells #[.int .i64 x.no] 3)).ownsRow w.heap.size 3 1 (.slice bb j cm) j (((X.take j).map Lt.no).map iv) := rown_bel HB.out.1 (fun q e => ((alloc1 v1 _).block q (Nat.lt_of_lt_of_le (HB.out.1.lt q e).2 b1'.size)).trans (b1'.block q (HB.out.1.lt q e).2))
      obtain ⟨b3, c3, w3, r1, r2, r3, r4⟩ := app_one (t := 53) (e := 3) (cs := [.int .i64 x.no]) Tryd.underlying53 info3 rfl (by decide) O2 (heap_alloc_new v1 _) rfl (by intro u hu; simp at hu; subst hu; rfl) (by omega) (by unfold maxLen; omega) BW.size
      have AP : Hid ((Builtin.append_ #[53, 53] 53 #[.slice bb j cm, .slice (some ⟨v1.heap.size, 0, none⟩) 1 1]).run Tryd.prog (v1.alloc (.cells #[.int .i64 x.no] 3)) = .ok (.slice b3 (j + 1) c3) w3) := r1
      have RN : Hid (w3.ownsRow w.heap.size 3 1 (.slice b3 (j + 1) c3) (j + 1) (((X.take (j + 1)).map Lt.no).map iv) ∧ Below w.heap.size w w3) := by
        refine ⟨?_, BW.trans (grown_below r3 BW.size (fun q e => (O2.lt q (by rw [ownBlock_slice]; exact e)).1))⟩
        rw [List.take_add_one, EX.out, List.map_append, List.map_append]
        exact r2
      clear r1 r2 r3 r4 O2 BW b1' K1
      rw [Hv1.out, Hp1.out]
      clear d0 d1 d2 d3
      go_wp2_with (first
        | (at_builtin; refine wpList_app (by rfl) (.tmp 18) (.tmp 21) (by rfl) (by rfl) (by rfl) (by rfl) AP ?_))
      go_roundw
      case rel => exact ⟨j + 1, b3, c3, by omega, by go_num, rfl, RN.out⟩
      case measure => simp [intOf]; omega
    · obtain rfl : j = n := by omega
      have NT : Hid (Nt wr lo d a X g) := hP.out.nt.below HB.out.2
      have OW : Hid (wr.ownsRow w.heap.size 3 1 (.slice bb j cm) j ((X.map Lt.no).map iv)) := by have h := HB.out.1; rw [List.take_of_length_le (by have := LX.out; omega)] at h; exact h
      go_wp2_with (first
        | (go_at_call 15; refine (waiting_n NT).mono ?_; rintro e w8 ⟨gq, rfl, H8⟩)
        | (go_at_call 16; refine (sameInts_n (lo := 0) (lo2 := w.heap.size) (l := X.map Lt.no) (r := X.map Lt.no) (show Hid _ from irow_blk H8.out.1 (by simp) NT.out.ln) (show Hid _ from irow_own (rown_bel OW.out (fun q e => H8.out.2.1.block q (OW.out.lt q e).2)) (by omega))).mono ?_; rintro e w9 ⟨rfl, H9⟩; rw [decide_eq_true rfl]))
      go_ret
      exact ⟨rfl, (HB.out.2.trans (H8.out.2.1.mono HB.out.2.size)).trans (H9.out.mono (Nat.le_trans HB.out.2.size H8.out.2.1.size))⟩
end Go.Proofs.YtkjebbpmafhpgaaDoor
