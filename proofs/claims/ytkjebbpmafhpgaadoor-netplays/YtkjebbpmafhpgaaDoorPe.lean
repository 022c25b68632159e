/- Lose, of the program and of the document. -/
import Derived.Test.YtkjebbpmafhpgaaDoorPb
import Derived.Test.YtkjebbpmafhpgaaDoorPd
namespace Go.Proofs.YtkjebbpmafhpgaaDoor
open Go.ChangeShapes Go.WideShapes Go.ChangeAt Go.RowKit
set_option maxRecDepth 20000
set_option linter.unusedVariables false
set_option linter.unusedSimpArgs false
def lsF (k : Int) (X : List Lt) : List Lt := X.filter (fun o => !losB k o)
theorem ris_fil {X : List Lt} {g k : Int} (h : Ris X g) : Ris (lsF k X) g :=
  ⟨h.pw.sublist List.filter_sublist, fun x hx => h.bd x (List.filter_sublist.mem hx), fun x hx => h.sz x (List.filter_sublist.mem hx)⟩
theorem lsF_le (k : Int) (X : List Lt) : (lsF k X).length ≤ X.length := List.length_filter_le _ _
set_option maxHeartbeats 1000000 in
theorem lose_n {w : World} {lo d : Nat} {g k : Int} {a : Option Addr} {X : List Lt} (hN : Hid (Nt w lo d a X g)) :
    Calls Tryd.prog 23 #[.pointer (some ⟨d, 0, none⟩), .int .i64 k] w fun e w' => e = .returned (.int .i64 ((X.length : Int) - ((lsF k X).length : Int))) ∧ Hid (Nt w' lo d a (lsF k X) g ∧ NF w w' d a a) := by
  have hmf : ∀ (fn : Fn) (first cap : Array Value) (w : World), (Instr.makeFunc fn first cap).run Tryd.prog w = .ok (.func fn first cap) w := fun _ _ _ _ => rfl
  obtain ⟨gx, Hgx⟩ : ∃ q, Hid (w.heap.size = q) := ⟨_, rfl⟩
  obtain ⟨w1, Hw1⟩ : ∃ w1, Hid (w.alloc (.cells #[.int .i64 k] 3) = w1) := ⟨_, rfl⟩
  have B1 : Hid (Below w.heap.size w w1) := by rw [← Hw1.out]; exact alloc1 w _
  have N1 : Hid (Nt w1 lo d a X g) := hN.out.below B1.out
  have E1 : Hid (Ex w1 gx k) := ⟨by rw [← Hw1.out, ← Hgx.out]; exact heap_alloc_new w _⟩
  obtain ⟨n, c, h1, h2⟩ := N1.out.st
  have A : Hid (Rw w1 lo 71 EL a n c X) := h2
  have D1 : Hid (w1.heap[d]? = some (.cells #[.slice a n c, .int .i64 g] 58 (0, 0))) := h1
  have c0 : w1.cell? ⟨d, 0, none⟩ = some (.slice a n c) := (cel2 h1).1
  have LX : Hid (n = X.length) := h2.len
  have nb : n ≤ 4096 := by rw [LX.out]; exact N1.out.ln
  have AD : Hid (∀ q, blkOf a = some q → q ≠ d) := fun q e => (N1.out.alt e).2.2
  rw [← LX.out]
  clear h1 h2
  go_enter Tryd.func23, Tryd.ntmps23
  go_upto_region 1 with (fail)
  rw [Hw1.out, Hgx.out]
  go_upto_region 2 with (fail)
  go_upto_region 3 with (first
    | (go_at_call 32; refine (delf A nb E1).mono ?_; rintro e w2 ⟨n2, rfl, H2⟩
       have D2 : Hid (w2.heap[d]? = some (.cells #[.slice a n c, .int .i64 g] 58 (0, 0))) := (H2.out.2.block d (Array.getElem?_eq_some_iff.1 D1.out).1 (fun e => AD.out d e rfl)).trans D1.out
       have c2 : w2.cell? ⟨d, 0, none⟩ = some (.slice a n c) := (cel2 D2.out).1
       have f2 : w2.frozen? ⟨d, 0, none⟩ = false := by simp [World.frozen?, D2.out]))
  obtain ⟨w3, Hw3⟩ : ∃ v, Hid (w2.setCell ⟨d, 0, none⟩ (.slice a n2 c) = v) := ⟨_, rfl⟩
  have D3 : Hid (w3.heap[d]? = some (.cells #[.slice a n2 c, .int .i64 g] 58 (0, 0))) := by rw [← Hw3.out]; exact set_blk D2.out 0 _
  have c3 : w3.cell? ⟨d, 0, none⟩ = some (.slice a n2 c) := (cel2 D3.out).1
  have R3 : Hid (Rw w3 lo 71 EL a n2 c (lsF k X)) := by rw [← Hw3.out]; exact H2.out.1.keep1 (fun q e => Below.heap_setCell _ _ _ _ (AD.out q e))
  have L3 : Hid (n2 = (lsF k X).length) := R3.out.len
  have n2n : n2 ≤ n := by rw [L3.out, LX.out]; exact lsF_le k X
  rw [Hw3.out]
  go_wp2
  go_ret
  refine ⟨by rw [← L3.out]; rfl, ⟨⟨n2, c, D3.out, R3.out⟩, hN.out.dl, ris_fil hN.out.rs, Nat.le_trans (lsF_le k X) hN.out.ln, hN.out.gz⟩, ?_, fun q e => .inl e⟩
  have e3 : Ch w2 w3 (fun q => q = d) := by rw [← Hw3.out]; exact Ch.set w2 d 0 _
  exact (((Ch.below (S := fun q => q = d ∨ blkOf a = some q) B1.out).then H2.out.2 (fun q _ h => h) (fun q _ h => .inr h)).then e3 (fun q _ h => h) (fun q _ h => .inl h))
set_option maxHeartbeats 2000000 in
theorem rlose_n {w : World} {lo d : Nat} {g k : Int} {a : Option Addr} {X : List Lt} (hN : Hid (Rt w lo d a X g)) (hlo : lo ≤ w.heap.size) :
    Calls Tryd.prog 24 #[.pointer (some ⟨d, 0, none⟩), .int .i64 k] w fun e w' => ∃ a', e = .returned (.int .i64 ((X.length : Int) - ((lsF k X).length : Int))) ∧ Hid (Rt w' lo d a' (lsF k X) g ∧ NF w w' d a a') := by
  obtain ⟨n, c, h1, h2⟩ := hN.out.st
  have A : Hid (Rw w lo 38 EL a n c X) := h2
  have D1 : Hid (w.heap[d]? = some (.cells #[.slice a n c, .int .i64 g] 30 (0, 0))) := h1
  have c1 : ∀ o, (w.alloc o).cell? ⟨d, 0, none⟩ = some (.slice a n c) := fun o => (cel2 ((Below.heap_alloc w o d hN.out.dlt).trans h1)).1
  have LX : Hid (n = X.length) := h2.len
  have nb : n ≤ 4096 := by rw [LX.out]; exact hN.out.ln
  obtain ⟨q0, Hq0⟩ : ∃ q, Hid (w.heap.size = q) := ⟨_, rfl⟩
  obtain ⟨w1, Hw1⟩ : ∃ w1, Hid (w.alloc (.cells #[] 38) = w1) := ⟨_, rfl⟩
  have B1 : Hid (Below w.heap.size w w1) := by rw [← Hw1.out]; exact alloc1 w _
  have J1 : Hid (Rw w1 w.heap.size 38 EL (some ⟨q0, 0, none⟩) 0 0 (lsF k (X.take 0)) ∧ Below w.heap.size w w1) := ⟨⟨⟨rfl, .inr ⟨q0, 0, #[], rfl, by rw [Hq0.out]; exact Nat.le_refl _, by rw [← Hw1.out, ← Hq0.out]; exact heap_alloc_new w _, Nat.le_refl _, by unfold maxLen; omega, rfl, rfl⟩⟩, by decide⟩, B1.out⟩
  rw [← LX.out]
  clear h1 h2
  go_enter Tryd.func24, Tryd.ntmps24
  go_upto_region 2 with (fail)
  have c2 : w1.cell? ⟨d, 0, none⟩ = some (.slice a n c) := by rw [← Hw1.out]; exact c1 _
  rw [Hw1.out, Hq0.out]
  go_wp2
  go_loopw [5, 15] (fun t5 ti wr => ∃ (j : Nat) (b : Option Addr) (m cm : Nat), j ≤ n ∧ ti = .int .i64 (j : Int) ∧ t5 = .slice b m cm ∧ Hid (Rw wr w.heap.size 38 EL b m cm (lsF k (X.take j)) ∧ Below w.heap.size w wr)) (fun _ ti _ => n - (intOf ti).toNat)
  case atStart => exact ⟨0, _, 0, 0, by omega, rfl, rfl, J1.out⟩
  case round =>
    obtain ⟨j, b, m, cm, hj, rfl, rfl, HB⟩ := hrel
    clear J1
    by_cases hlt : j < n
    · have i3 : (j : Int) < (n : Int) := by omega
      have kx : j < X.length := by rw [← LX.out]; exact hlt
      obtain ⟨b1, rfl, q1, q2, e1⟩ := (A.out.below HB.out.2).at_ kx
      obtain ⟨x, Hx⟩ : ∃ x, Hid (X[j] = x) := ⟨X[j], (rfl : X[j] = X[j])⟩
      rw [Hx.out] at e1
      have EX : Hid (X[j]? = some x) := by show _ = _; rw [← Hx.out]; exact List.getElem?_eq_getElem kx
      have d0 : wr.cell? ⟨b1, j * 4, none⟩ = some (.int .i64 x.no) := e1 0 _ rfl
      have d1 : wr.cell? ⟨b1, j * 4 + 1, none⟩ = some (.int .i64 x.fm) := e1 1 _ rfl
      have d2 : wr.cell? ⟨b1, j * 4 + 2, none⟩ = some (.int .i64 x.tt) := e1 2 _ rfl
      have d3 : wr.cell? ⟨b1, j * 4 + 3, none⟩ = some (.string x.bs) := e1 3 _ rfl
      have TK : Hid (lsF k (X.take (j + 1)) = if x.tt = k then lsF k (X.take j) else lsF k (X.take j) ++ [x]) := by
        show _ = _
        unfold lsF
        rw [List.take_add_one, EX.out, List.filter_append]
        by_cases h : x.tt = k
        · simp [losB, h]
        · simp [losB, h]
      have ML : Hid (m ≤ 4096) := by
        show _ ≤ _
        have h1 := HB.out.1.len
        have h2 := lsF_le k (X.take j)
        rw [List.length_take] at h2
        omega
      clear e1 Hx kx q1 q2
      go_upto_region 5 with (fail)
      obtain ⟨p1, Hp1⟩ : ∃ q, Hid (wr.heap.size = q) := ⟨_, rfl⟩
      obtain ⟨v1, Hv1⟩ : ∃ v, Hid (wr.alloc (.cells #[.int .i64 x.no, .int .i64 x.fm, .int .i64 x.tt, .string x.bs] 38) = v) := ⟨_, rfl⟩
      have b1' : Hid (Below wr.heap.size wr v1) := by rw [← Hv1.out]; exact alloc1 wr _
      have K1 : Hid (v1.heap[p1]? = some (.cells #[.int .i64 x.no, .int .i64 x.fm, .int .i64 x.tt, .string x.bs] 38 (0, 0))) := by rw [← Hv1.out, ← Hp1.out]; exact heap_alloc_new wr _
      have R1 : Hid (Rw v1 w.heap.size 38 EL b m cm (lsF k (X.take j)) ∧ Below w.heap.size w v1) := ⟨HB.out.1.below b1'.out, HB.out.2.trans (b1'.out.mono HB.out.2.size)⟩
      obtain ⟨y0, y1, y2, y3⟩ := cel4 K1.out
      rw [Hv1.out, Hp1.out]
      clear d0 d1 d2 d3
      by_cases hk : x.tt = k
      · have RN : Hid (Rw v1 w.heap.size 38 EL b m cm (lsF k (X.take (j + 1))) ∧ Below w.heap.size w v1) := by rw [TK.out, if_pos hk]; exact R1.out
        go_wp2
        go_roundw
        case rel => exact ⟨j + 1, b, m, cm, by omega, by go_num, rfl, RN.out⟩
        case measure => simp [intOf]; omega
      · have R2 : Rw (v1.alloc (.cells #[.int .i64 x.no, .int .i64 x.fm, .int .i64 x.tt, .string x.bs] 38)) w.heap.size 38 EL b m cm (lsF k (X.take j)) := R1.out.1.below (alloc1 v1 _)
        obtain ⟨b3, c3, w3, r1, r2, r3, r4⟩ := app_one (t := 28) (e := 38) (cs := EL.e x) Tryd.underlying28 inf38 rfl (by decide) R2.row (heap_alloc_new v1 _) (EL.len _) (EL.one _) (by have := ML.out; omega) (by have := ML.out; unfold maxLen; omega) (by have := R1.out.2.size; have := (alloc1 v1 (.cells #[.int .i64 x.no, .int .i64 x.fm, .int .i64 x.tt, .string x.bs] 38)).size; omega)
        have AP : Hid ((Builtin.append_ #[28, 28] 28 #[.slice b m cm, .slice (some ⟨v1.heap.size, 0, none⟩) 1 1]).run Tryd.prog (v1.alloc (.cells #[.int .i64 x.no, .int .i64 x.fm, .int .i64 x.tt, .string x.bs] 38)) = .ok (.slice b3 (m + 1) c3) w3) := r1
        have RN : Hid (Rw w3 w.heap.size 38 EL b3 (m + 1) c3 (lsF k (X.take (j + 1))) ∧ Below w.heap.size w w3) := by
          have hb := R1.out.2.trans ((alloc1 v1 (.cells #[.int .i64 x.no, .int .i64 x.fm, .int .i64 x.tt, .string x.bs] 38)).mono R1.out.2.size)
          refine ⟨⟨?_, by decide⟩, hb.trans (grown_below r3 hb.size (fun q e => (R2.row.lt q (by rw [ownBlock_slice]; exact e)).1))⟩
          rw [TK.out, if_neg hk, EL.fl_app, EL.fl_one]
          exact r2
        clear r1 r2 r3 r4 R2
        go_wp2_with (first
          | (at_builtin; refine wpList_app (by rfl) (.tmp 23) (.tmp 25) (by rfl) (by rfl) (by rfl) (by rfl) AP ?_))
        go_roundw
        case rel => exact ⟨j + 1, b3, m + 1, c3, by omega, by go_num, rfl, RN.out⟩
        case measure => simp [intOf]; omega
    · obtain rfl : j = n := by omega
      have D2 : Hid (wr.heap[d]? = some (.cells #[.slice a j c, .int .i64 g] 30 (0, 0))) := (HB.out.2.block d (Array.getElem?_eq_some_iff.1 D1.out).1).trans D1.out
      have c3 : wr.cell? ⟨d, 0, none⟩ = some (.slice a j c) := (cel2 D2.out).1
      have f3 : wr.frozen? ⟨d, 0, none⟩ = false := by simp [World.frozen?, D2.out]
      have RF : Hid (Rw wr w.heap.size 38 EL b m cm (lsF k X) ∧ Below w.heap.size w wr) := by have h := HB.out; rw [List.take_of_length_le (by have := LX.out; omega)] at h; exact h
      have LM : Hid (m = (lsF k X).length) := RF.out.1.len
      have mn : m ≤ j := by rw [LM.out, LX.out]; exact lsF_le k X
      have DL : Hid (d < w.heap.size) := hN.out.dlt
      clear HB c1
      go_wp2
      go_ret
      refine ⟨b, by rw [← LM.out]; rfl, ⟨⟨m, cm, set_blk D2.out 0 _, ?_⟩, hN.out.dl, ris_fil hN.out.rs, Nat.le_trans (lsF_le k X) hN.out.ln, hN.out.gz⟩, ?_, fun q e => .inr (RF.out.1.lt e).1⟩
      · exact (RF.out.1.keep1 (fun q e => by
          have NE : q ≠ d := by have := (RF.out.1.lt e).1; have := DL.out; omega
          exact Below.heap_setCell _ _ _ _ NE)).mono hlo
      · exact (Ch.below (S := fun q => q = d ∨ blkOf a = some q) RF.out.2).then (Ch.set wr d 0 _) (fun q _ h => h) (fun q _ h => .inl h)
end Go.Proofs.YtkjebbpmafhpgaaDoor
