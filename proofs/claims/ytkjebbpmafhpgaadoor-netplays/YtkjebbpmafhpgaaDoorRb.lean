/- One element taken out of a row, in steps. -/
import Derived.Test.YtkjebbpmafhpgaaDoorRa
namespace Go.Proofs.YtkjebbpmafhpgaaDoor
open Go.ChangeShapes Go.WideShapes Go.ChangeAt Go.RowKit
set_option maxRecDepth 20000
set_option linter.unusedVariables false
set_option linter.unusedSimpArgs false
section
variable {α : Type} {E : Enc α} {w : World} {lo : Nat} {t s : TypeId} {b n c p : Nat} {l : List α} {Z : Value} {B : Nat}
theorem Rw.pre (h : Rw w lo t E (some ⟨b, 0, none⟩) n c l) (hp : p ≤ n) : Rw w lo t E (some ⟨b, 0, none⟩) p c (l.take p) := by
  have hl := h.len
  refine ⟨?_, h.pos⟩
  rcases h.row with ⟨h0, ⟨h1, _⟩ | ⟨q, cap, cur, h1, h2, h3, h4, h5, h6, h7⟩⟩
  · cases h1
  · cases h1
    refine ⟨by rw [E.fl_len, List.length_take, Nat.min_eq_left (by omega)], .inr ⟨b, c, cur, rfl, h2, h3, Nat.le_trans hp h4, h5, h6, ?_⟩⟩
    rw [E.fl_take, ← h7, List.take_take, Nat.min_eq_left (Nat.mul_le_mul_right _ hp)]
theorem del_steps (h : Rw w lo t E (some ⟨b, 0, none⟩) n c l) (hp : p < n) (hu : Tryd.prog.underlying s = some (.slice t)) (hinf : (Tryd.prog.info? t).map (fun i => (i.zero, i.size, i.bytes)) = some (some Z, E.z, B)) (hZ : Z.cells.size = E.z) (hZ1 : (Builtin.zeroCells Z.cells 1).toList.all (·.oneCell') = true) :
    ∃ w1 w2, (∀ sa sC, (p + 1 < n → sa = ⟨b, (p + 1) * E.z, none⟩) → (Builtin.append_ #[s, s] s #[.slice (some ⟨b, 0, none⟩) p c, .slice (some sa) (n - (p + 1)) sC]).run Tryd.prog w.drew = .ok (.slice (some ⟨b, 0, none⟩) (n - 1) c) w1) ∧
      (∀ ty cC, (Builtin.clear_ #[s] ty #[.slice (some ⟨b, (n - 1) * E.z, none⟩) 1 cC]).run Tryd.prog w1 = .ok (.tuple #[]) w2) ∧
      Rw w2 lo t E (some ⟨b, 0, none⟩) (n - 1) c (l.eraseIdx p) ∧ Ch w w2 (fun q => q = b) := by
  have hl := h.len
  obtain ⟨inf, hi1, hz0, hz1, hz2⟩ := info_parts hinf
  have hcap := h.cap
  have hd : Rw w.drew lo t E (some ⟨b, 0, none⟩) n c l := h.keep (fun q _ _ => rfl)
  have hpre := hd.pre (p := p) (by omega)
  have hld : (E.fl (l.drop (p + 1))).length = (n - (p + 1)) * E.z := by rw [E.fl_len, List.length_drop, hl]
  have hnews : ∀ sa : Addr, (p + 1 < n → sa = ⟨b, (p + 1) * E.z, none⟩) → ∀ j u, (E.fl (l.drop (p + 1)))[j]? = some u → w.drew.cell? (sa.add j) = some u := fun sa hsa j u hj => by
    have hj2 := (List.getElem?_eq_some_iff.1 hj).1
    rw [hld] at hj2
    have hlt : p + 1 < n := by
      rcases Nat.lt_or_ge (p + 1) n with h1 | h1
      · exact h1
      · rw [Nat.sub_eq_zero_of_le h1, Nat.zero_mul] at hj2; omega
    rw [hsa hlt, Addr.add_mid]
    rw [E.fl_drop, List.getElem?_drop] at hj
    have hjl := (List.getElem?_eq_some_iff.1 hj).1
    rw [E.fl_len, ← hl] at hjl
    rw [hd.row.cellAt _ hjl]; exact hj
  obtain ⟨w1, r1, r2, r3⟩ := run_append_fits (P := Tryd.prog) (w := w.drew) lo s s t inf E.z hu hi1 hz1 b p c (E.fl (l.take p)) hpre.row ⟨b, (p + 1) * E.z, none⟩ (n - (p + 1)) 0 (E.fl (l.drop (p + 1))) hld (hnews _ (fun _ => rfl)) (E.fl_oc _) (by omega)
  have en : p + (n - (p + 1)) = n - 1 := by omega
  have hall : ∀ sa sC, (p + 1 < n → sa = ⟨b, (p + 1) * E.z, none⟩) → (Builtin.append_ #[s, s] s #[.slice (some ⟨b, 0, none⟩) p c, .slice (some sa) (n - (p + 1)) sC]).run Tryd.prog w.drew = .ok (.slice (some ⟨b, 0, none⟩) (n - 1) c) w1 := by
    rcases hpre.row.2 with ⟨k1, _⟩ | ⟨q, cap, cur, k1, k2, k3, k4, k5, k6, k7⟩
    · cases k1
    · cases k1
      have hfit : p * inf.size + (E.fl (l.drop (p + 1))).length ≤ cur.size := by rw [hld, hz1, k6, ← Nat.add_mul]; exact Nat.mul_le_mul_right _ (by omega)
      have hr : ∀ sa sC, (p + 1 < n → sa = ⟨b, (p + 1) * E.z, none⟩) → (Builtin.append_ #[s, s] s #[.slice (some ⟨b, 0, none⟩) p c, .slice (some sa) (n - (p + 1)) sC]).run Tryd.prog w.drew = .ok (.slice (some ⟨b, 0, none⟩) (p + (n - (p + 1))) c) (w.drew.setRow b (cur.toList.take (p * inf.size) ++ E.fl (l.drop (p + 1)) ++ cur.toList.drop (p * inf.size + (E.fl (l.drop (p + 1))).length)).toArray) := fun sa sC hsa => run_append_room (P := Tryd.prog) w.drew s s t inf hu hi1 b p c cur k3 sa (n - (p + 1)) sC (E.fl (l.drop (p + 1))) (by rw [hz1]; exact hld) (hnews sa hsa) (E.fl_oc _) (by omega) hfit
      intro sa sC hsa
      rw [hr sa sC hsa, ← en]
      have h9 := (hr ⟨b, (p + 1) * E.z, none⟩ 0 (fun _ => rfl)).symm.trans r1
      exact h9
  rw [en] at r1 r2
  have efl : E.fl (l.take p) ++ E.fl (l.drop (p + 1)) = E.fl (l.eraseIdx p) := by rw [← E.fl_app, List.eraseIdx_eq_take_drop_succ]
  rw [efl] at r2
  have c1 : Ch w w1 (fun q => q = b) := by
    have hb := grown_below r3 (Nat.zero_le _) (fun q _ => Nat.zero_le _)
    exact (Ch.drew w _).trans ⟨hb.os, hb.tape, hb.output, hb.size, fun k hk hn => r3.block k hk (fun e => hn (by cases e; rfl))⟩
  rcases r2.2 with ⟨h1, _⟩ | ⟨q, cap, cur, h1, h2, h3, h4, h5, h6, h7⟩
  · cases h1
  · cases h1
    have ze : (n - 1) * E.z + E.z = n * E.z := by rw [← Nat.succ_mul]; congr 1; omega
    have zc : n * E.z ≤ c * E.z := Nat.mul_le_mul_right _ hcap
    have zl : (Builtin.zeroCells Z.cells 1).toList.length = E.z := by rw [Array.length_toList, zeros_size, hZ, Nat.one_mul]
    have hst := run_storeCells_at Tryd.prog b ((n - 1) * E.z) t (Builtin.zeroCells Z.cells 1).toList 0 cur w1 h3 (by rw [zl, h6]; omega) (fun v hv => List.all_eq_true.1 hZ1 v hv)
    refine ⟨w1, w1.setRow b (cur.toList.take ((n - 1) * E.z + 0) ++ (Builtin.zeroCells Z.cells 1).toList ++ cur.toList.drop ((n - 1) * E.z + 0 + (Builtin.zeroCells Z.cells 1).toList.length)).toArray, fun sa sC hsa => ?_, fun ty cC => ?_, ?_, ?_⟩
    · exact hall sa sC hsa
    · simp [Builtin.clear_, run_underlying hu, zeroValue, typeInfo, hi1, hz0, hst]
    · refine ⟨⟨?_, .inr ⟨b, c, _, rfl, h2, setRow_heap _ _ _ _ _ _ h3, by omega, h5, ?_, ?_⟩⟩, h.pos⟩
      · rw [E.fl_len, List.length_eraseIdx, if_pos (by omega), hl]
      · simp only [Nat.add_zero, List.size_toArray, List.length_append, List.length_take, List.length_drop, Array.length_toList, h6, zl]
        rw [Nat.min_eq_left (by omega)]
        omega
      · rw [Nat.add_zero]
        show ((cur.toList.take ((n - 1) * E.z) ++ _ ++ _) : List Value).take ((n - 1) * E.z) = _
        rw [List.append_assoc, List.take_left' (by rw [List.length_take, Array.length_toList, h6, Nat.min_eq_left (by omega)])]
        exact h7
    · exact c1.trans ⟨rfl, rfl, rfl, by rw [setRow_size]; exact Nat.le_refl _, fun k hk hn => setRow_other _ _ _ _ hn⟩
end
end Go.Proofs.YtkjebbpmafhpgaaDoor
