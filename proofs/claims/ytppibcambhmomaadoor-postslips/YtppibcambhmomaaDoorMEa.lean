/- The document's bytes of numbers (nums, f41). -/
import Derived.Test.YtppibcambhmomaaDoorMh
import Derived.Test.YtppibcambhmomaaDoorMChCi
import Derived.Test.YtppibcambhmomaaDoorMYb
namespace Go.Proofs.YtppibcambhmomaaDoor
open Go.ChangeShapes Go.WideShapes Go.ChangeAt Go.RowKit
set_option maxRecDepth 20000
set_option linter.unusedVariables false
set_option linter.unusedSimpArgs false
/- a row that grows: where it lay, it may be written -/
structure Gr (w W : World) (B : Nat) (a0 a : Option Addr) (n c : Nat) (L : List Nat) : Prop where
  own : Own W B a n c L
  ch : Ch w W (fun q => blkOf a0 = some q)
  nw : New w a0 a
theorem Gr.refl {w : World} {B : Nat} {a : Option Addr} {n c : Nat} {L : List Nat} (h : Own w B a n c L) : Gr w w B a a n c L := ⟨h, Ch.refl _ _, fun q hq => .inl hq⟩
theorem Gr.more {w W W1 W2 : World} {B : Nat} {a0 a a' : Option Addr} {n c n' c' : Nat} {L L' : List Nat} (h : Gr w W B a0 a n c L) (h1 : Below W.heap.size W W1) (h2 : W1.grownBy W2 (blkOf a)) (hn : New W1 a a') (ho : Own W2 B a' n' c' L') : Gr w W2 B a0 a' n' c' L' := by
  have c2 : Ch W1 W2 (fun q => blkOf a = some q) := ⟨h2.os, h2.tape, h2.output, h2.size, fun q h1 h3 => h2.block q h1 (fun e => h3 e.symm)⟩
  have s1 := Nat.le_trans h.ch.size h1.size
  refine ⟨ho, ((h.ch.trans (Ch.below h1)).then c2 (fun q _ e => e) (fun q hq e => ?_)), h.nw.trans hn s1⟩
  rcases h.nw q e with e2 | e2
  · exact e2
  · omega
set_option maxHeartbeats 4000000 in
theorem nums_n {w : World} {B : Nat} {a : Option Addr} {n c : Nat} {L : List Nat} {pa : Option Addr} {pn pc : Nat} {PS : List Nat} (hO : Hid (Own w B a n c L)) (hI : Hid (Irow w 0 pa pn (PS.map fun x : Nat => (x : Int)))) (hP : Hid (∀ x ∈ PS, x < 9223372036854775808)) (hap : Hid (0 < pn → ∀ q, blkOf pa = some q → blkOf a ≠ some q)) (hB : Hid (B ≤ w.heap.size)) (hn : n ≤ 1000000) (hpn : pn ≤ 1000) :
    Calls Tryd.prog 62 #[.slice a n c,.slice pa pn pc] w fun e w' => ∃ a' n' c', e = .returned (.slice a' n' c') ∧ Hid (Gr w w' B a a' n' c' (L ++ encs PS)) := by
  have nL : Hid (n = L.length) := hO.out.len
  go_enter Tryd.func62, Tryd.ntmps62
  go_wp2
  go_loopw [0, 9] (fun t0 t9 wr => ∃ (i : Nat) (ai : Option Addr) (ni ci : Nat), i ≤ pn ∧ ni ≤ n + i * 9 ∧ t9 = .int .i64 (i : Int) ∧ t0 = .slice ai ni ci ∧ Hid (Gr w wr B a ai ni ci (L ++ encs (PS.take i)))) (fun _ t9 _ => pn - (intOf t9).toNat)
  case atStart => exact ⟨0, a, n, c, by omega, by omega, rfl, rfl, (show Gr w w B a a n c (L ++ encs (PS.take 0)) by simpa [encs] using Gr.refl hO.out)⟩
  case round =>
    obtain ⟨i, ai, ni, ci, hi, hni, rfl, rfl, HG⟩ := hrel
    have HIr : Hid (Irow wr 0 pa pn (PS.map fun x : Nat => (x : Int))) := by
      refine ⟨hI.out.len, hI.out.sz, ?_⟩
      by_cases h0 : pn = 0
      · exact .inl h0
      refine hI.out.row.imp id ?_
      rintro ⟨b, o, h1, h2, h3, h4⟩
      refine ⟨b, o, h1, h2, Nat.lt_of_lt_of_le h3 HG.out.ch.size, fun j hj => (HG.out.ch.cell (p := ⟨b, o + j, none⟩) h3 (hap.out (by omega) b (by rw [h1]; rfl))).trans (h4 j hj)⟩
    by_cases hlt : i < pn
    · have il : (i : Int) < (pn : Int) := by omega
      obtain ⟨tb, tO, rfl, e1⟩ := HIr.out.at_ hlt
      have iL : i < PS.length := by have := HIr.out.len; simp at this; omega
      obtain ⟨x, Hx⟩ : ∃ x, Hid (PS[i] = x) := ⟨PS[i], (rfl : PS[i] = PS[i])⟩
      have hx : x < 9223372036854775808 := by rw [← Hx.out]; exact hP.out _ (List.getElem_mem iL)
      have e2 : (PS.map fun x : Nat => (x : Int)).getD i 0 = (x : Int) := by simp [List.getD, iL, Hx.out]
      rw [e2] at e1
      clear e2
      go_wp2_with (first
        | (go_at_call 25; refine (refnum_n hx).mono ?_; rintro e w1 ⟨a1, n1, c1, rfl, H1⟩
           have b1 : n1 ≤ 9 := by rw [H1.out.1.len]; exact enc_nine hx
           obtain ⟨a2, c2, w2, hrun, own2, gr2, new2⟩ := app_any (c2 := c1) (HG.out.own.below H1.out.2) (H1.out.1.sln (by omega)) H1.out.1.cap0 (by omega) (Nat.le_trans (Nat.le_trans hB.out HG.out.ch.size) H1.out.2.size)
           have AP : Hid ((Builtin.append_ #[27, 27] 27 #[.slice ai ni ci,.slice a1 n1 c1]).run Tryd.prog w1 = .ok (.slice a2 (ni + n1) c2) w2) := hrun
           have F : Hid (Gr w w2 B a a2 (ni + n1) c2 (L ++ encs (PS.take i) ++ enc x)) := HG.out.more H1.out.2 gr2 new2 own2
           clear hrun own2 gr2 new2)
        | (at_builtin; refine wpList_app (by rfl) (.tmp 13) (.tmp 15) (by rfl) (by rfl) (by rfl) (by rfl) AP ?_))
      go_roundw
      case rel =>
        have h := F.out
        rw [List.append_assoc, ← Hx.out, ← encs_snoc, ← List.take_succ_eq_append_getElem iL] at h
        exact ⟨i + 1, a2, ni + n1, c2, by omega, by omega, by go_num, rfl, h⟩
      case measure => simp [intOf]; omega
    · obtain rfl : i = pn := by omega
      have hl : PS.length = i := by have := HIr.out.len; simp at this; omega
      rw [List.take_of_length_le (by omega)] at HG
      go_wp2
      go_ret
      exact ⟨ai, ni, ci, rfl, HG.out⟩
end Go.Proofs.YtppibcambhmomaaDoor
