/- The network's calls: Deliver. -/
import Derived.Test.YtkjebbpmafhpgaaDoorNf
namespace Go.Proofs.YtkjebbpmafhpgaaDoor
open Go.ChangeShapes Go.WideShapes Go.ChangeAt Go.RowKit
set_option maxRecDepth 20000
set_option linter.unusedVariables false
set_option linter.unusedSimpArgs false
theorem oc4 (x y z : Int) (s : Option Addr) (n c : Nat) : (#[.int .i64 x, .int .i64 y, .int .i64 z, .slice s n c] : Array Value).all (·.oneCell') = true := by simp [Value.oneCell']
set_option maxHeartbeats 1000000 in
theorem deliver_gone {w : World} {lo d : Nat} {g k : Int} {a : Option Addr} {X : List Lt} {E : Nat → Addr} {M : Nat} (hN : Hid (Nt w lo d a X g)) (hE : Hid (Sent w M E)) (hM : 3 ≤ M) (hk : Hid (isL k X = false)) :
    Calls Tryd.prog 14 #[.pointer (some ⟨d, 0, none⟩), .int .i64 k] w fun e w' => e = .returned (.tuple #[.agg #[.int .i64 0, .int .i64 0, .int .i64 0, .slice none 0 0], er (E 0)]) ∧ Hid (Below w.heap.size w w') := by
  obtain ⟨q, Hq⟩ : ∃ q, Hid (w.heap.size = q) := ⟨_, rfl⟩
  obtain ⟨w1, Hw1⟩ : ∃ w1, Hid (w.alloc (.cells #[.int .i64 0, .int .i64 0, .int .i64 0, .slice none 0 0] 50) = w1) := ⟨_, rfl⟩
  have B1 : Hid (Below w.heap.size w w1) := by rw [← Hw1.out]; exact alloc1 w _
  have N1 : Hid (Nt w1 lo d a X g) := hN.out.below B1.out
  have K1 : Hid (w1.heap[q]? = some (.cells #[.int .i64 0, .int .i64 0, .int .i64 0, .slice none 0 0] 50 (0, 0))) := by rw [← Hw1.out, ← Hq.out]; exact heap_alloc_new w _
  go_enter Tryd.func14, Tryd.ntmps14
  go_upto_region 1 with (fail)
  rw [Hw1.out, Hq.out]
  go_upto_region 3 with (go_at_call 28; refine (find_n k N1).mono ?_; rintro e w2 ⟨rfl, H2⟩; rw [hk.out])
  have C2 : Hid (w2.drew.cell? ⟨0, 0, none⟩ = some (er (E 0))) := ((hE.out.below B1.out).below H2.out).c 0 (by omega)
  have K2 : Hid (w2.drew.heap[q]? = some (.cells #[.int .i64 0, .int .i64 0, .int .i64 0, .slice none 0 0] 50 (0, 0))) := (H2.out.block q (Array.getElem?_eq_some_iff.1 K1.out).1).trans K1.out
  have C3 : Hid ((w2.drew.setRow q #[.int .i64 0, .int .i64 0, .int .i64 0, .slice none 0 0]).cell? ⟨0, 0, none⟩ = some (er (E 0))) := by
    have h1 : (0 : Nat) ≠ q := by
      have := cell_lt (hE.out.c 0 (by omega))
      have := Hq.out
      omega
    exact (World.cell?_of_block (a := ⟨0, 0, none⟩) (setRow_other _ _ _ _ h1)).trans C2.out
  refine wp_region_seq (C := fun W => W.cell? ⟨0, 0, none⟩ = some (er (E 0))) [(0, false), (1, false), (2, true), (3, false)] (by kernel_rfl) (by kernel_rfl) (C2.out) ?_
  refine seq_take (o := { dst := some 17, op := Go.Op.build 50 #[], type := 50, pos := "net.go:42", after := #[], guard := none }) (v := .agg #[.int .i64 0, .int .i64 0, .int .i64 0, .slice none 0 0]) (by kernel_rfl) (fun _ _ _ h => h) (Or.inl ⟨by kernel_rfl, fun W hW => by go_simp⟩) ?_
  simp only [List.getElem_toArray, List.getElem_cons_zero, List.getElem_cons_succ, Act.put, List.setIfInBounds_toArray, List.set_cons_zero, List.set_cons_succ]
  refine seq_take (o := { dst := some 18, op := Go.Op.load 42 (Go.Operand.global 0), type := 42, pos := "net.go:42", after := #[{ on := 2, ground := Go.Ground.gcOnly Go.Departure.lateStores }], guard := none }) (v := er (E 0)) (by kernel_rfl) (fun _ _ _ h => h) (Or.inl ⟨by kernel_rfl, fun W hW => by go_simp⟩) ?_
  simp only [List.getElem_toArray, List.getElem_cons_zero, List.getElem_cons_succ, Act.put, List.setIfInBounds_toArray, List.set_cons_zero, List.set_cons_succ]
  refine seq_call (o := { dst := none, op := Go.Op.store 50 (Go.Operand.tmp 4) (Go.Operand.tmp 17), type := 0, pos := "net.go:42", after := #[{ on := 0, ground := Go.Ground.data }, { on := 0, ground := Go.Ground.phase }, { on := 1, ground := Go.Ground.textOnly Go.Departure.lateStores }], guard := none }) (by kernel_rfl) (fun KK hK => ?_)
  rw [if_pos (by kernel_rfl)]
  refine wp_store_row 50 (.tmp 4) (.tmp 17) (by rfl) q #[.int .i64 0, .int .i64 0, .int .i64 0, .slice none 0 0] (by rfl) (by rfl) 50 #[.int .i64 0, .int .i64 0, .int .i64 0, .slice none 0 0] K2.out inf50 rfl (oc4 _ _ _ _ _ _) ?_
  refine hK.out _ _ (C3.out) ?_
  clear hK KK
  try simp only [List.getElem_toArray, List.getElem_cons_zero, List.getElem_cons_succ, Act.put, List.setIfInBounds_toArray, List.set_cons_zero, List.set_cons_succ]
  refine seq_take (o := { dst := some 5, op := Go.Op.assign (Go.Operand.tmp 18), type := 42, pos := "net.go:42", after := #[{ on := 1, ground := Go.Ground.data }, { on := 2, ground := Go.Ground.chain }, { on := 0, ground := Go.Ground.phase }, { on := 1, ground := Go.Ground.phase }, { on := 2, ground := Go.Ground.phase }], guard := none }) (v := er (E 0)) (by kernel_rfl) (fun _ _ _ h => h) (Or.inl ⟨by kernel_rfl, fun W hW => by go_simp⟩) ?_
  simp only [List.getElem_toArray, List.getElem_cons_zero, List.getElem_cons_succ, Act.put, List.setIfInBounds_toArray, List.set_cons_zero, List.set_cons_succ]
  show (Exit.then _ _) .normal _ _
  go_wp2
  refine bodyPost_ret (res14 Tryd.results14 _ _ q #[.int .i64 0, .int .i64 0, .int .i64 0, .slice none 0 0] (er (E 0)) (by rfl) (by rfl) (setRow_heap _ _ _ _ _ _ K2.out) rfl) rfl ⟨rfl, ?_⟩
  exact below_setRow ((B1.out.trans (H2.out.mono B1.out.size)).drew) (by rw [Hq.out]; exact Nat.le_refl _) _
set_option maxHeartbeats 2000000 in
theorem deliver_ok {w : World} {lo d : Nat} {g k : Int} {a : Option Addr} {X : List Lt} {x : Lt} (hN : Hid (Nt w lo d a X g)) (hx : Hid (X[pl k X]? = some x)) (hk : Hid (isL k X = true)) :
    Calls Tryd.prog 14 #[.pointer (some ⟨d, 0, none⟩), .int .i64 k] w fun e w' => ∃ g' c', e = .returned (.tuple #[.agg #[.int .i64 x.no, .int .i64 x.fm, .int .i64 x.tt, .slice (some ⟨g', 0, none⟩) x.bs.size c'], .nilIface]) ∧ Hid (Nt w' lo d a (X.eraseIdx (pl k X)) g ∧ NF w w' d a a ∧ Sln w' (some ⟨g', 0, none⟩) x.bs.size (bytesOf x.bs) ∧ w.heap.size ≤ g' ∧ x.bs.size ≤ c' ∧ w'.heap[g']? = some (.cells (bytesRow x.bs c') 5 ((bytesRow x.bs c').size, (bytesRow x.bs c').size + 1))) := by
  obtain ⟨P, HP⟩ : ∃ P, Hid (pl k X = P) := ⟨_, rfl⟩
  have SZ : Hid (x.bs.size ≤ 140737488351232) := hN.out.rs.sz x (List.mem_of_getElem? hx.out)
  rw [HP.out] at hx
  have PL : P < X.length := (List.getElem?_eq_some_iff.1 hx.out).1
  have e0 := (List.getElem?_eq_some_iff.1 hx.out).2
  obtain ⟨q, Hq⟩ : ∃ q, Hid (w.heap.size = q) := ⟨_, rfl⟩
  obtain ⟨w1, Hw1⟩ : ∃ w1, Hid (w.alloc (.cells #[.int .i64 0, .int .i64 0, .int .i64 0, .slice none 0 0] 50) = w1) := ⟨_, rfl⟩
  have B1 : Hid (Below w.heap.size w w1) := by rw [← Hw1.out]; exact alloc1 w _
  have N1 : Hid (Nt w1 lo d a X g) := hN.out.below B1.out
  have K1 : Hid (w1.heap[q]? = some (.cells #[.int .i64 0, .int .i64 0, .int .i64 0, .slice none 0 0] 50 (0, 0))) := by rw [← Hw1.out, ← Hq.out]; exact heap_alloc_new w _
  obtain ⟨n, c, h1, h2⟩ := N1.out.st
  have hn := h2.len
  obtain ⟨b, rfl, q1, q2, q3⟩ := h2.at_ PL
  have pn : P < n := by omega
  have i1 : (P : Int) < (n : Int) := by omega
  have LD : Hid (∀ w2, Below w1.heap.size w1 w2 → w2.cell? ⟨d, 0, none⟩ = some (.slice (some ⟨b, 0, none⟩) n c) ∧ w2.rangeAt b (P * 4) (EL.e x)) := fun w2 hb => by
    obtain ⟨b', e', _, _, r⟩ := (h2.below hb).at_ PL
    cases e'
    rw [e0] at r
    exact ⟨(cel2 ((hb.block d (Array.getElem?_eq_some_iff.1 h1).1).trans h1)).1, r⟩
  have QD : Hid (q ≠ d ∧ q ≠ b) := by
    have := hN.out.dlt
    have := (hN.out.alt (q := b) rfl).2.1
    have := Hq.out
    exact ⟨by omega, by omega⟩
  clear q1 q2 q3 h1 h2 hn e0
  rw [HP.out]
  go_enter Tryd.func14, Tryd.ntmps14
  go_upto_region 1 with (fail)
  rw [Hw1.out, Hq.out]
  go_upto_region 4 with (go_at_call 28; refine (find_n k N1).mono ?_; rintro e w2 ⟨rfl, H2⟩; rw [hk.out, HP.out])
  have c0 : w2.cell? ⟨d, 0, none⟩ = some (.slice (some ⟨b, 0, none⟩) n c) := (LD.out w2 H2.out).1
  have d0 : w2.cell? ⟨b, P * 4, none⟩ = some (.int .i64 x.no) := (LD.out w2 H2.out).2 0 _ rfl
  have d1 : w2.cell? ⟨b, P * 4 + 1, none⟩ = some (.int .i64 x.fm) := (LD.out w2 H2.out).2 1 _ rfl
  have d2 : w2.cell? ⟨b, P * 4 + 2, none⟩ = some (.int .i64 x.tt) := (LD.out w2 H2.out).2 2 _ rfl
  have d3 : w2.cell? ⟨b, P * 4 + 3, none⟩ = some (.string x.bs) := (LD.out w2 H2.out).2 3 _ rfl
  go_upto_region 5 with (fail)
  obtain ⟨p2, Hp2⟩ : ∃ p, Hid (w2.heap.size = p) := ⟨_, rfl⟩
  obtain ⟨w3, Hw3⟩ : ∃ w3, Hid (w2.alloc (.cells #[.int .i64 x.no, .int .i64 x.fm, .int .i64 x.tt, .string x.bs] 71) = w3) := ⟨_, rfl⟩
  have B3 : Hid (Below w2.heap.size w2 w3) := by rw [← Hw3.out]; exact alloc1 w2 _
  have N3 : Hid (Nt w3 lo d (some ⟨b, 0, none⟩) X g) := (N1.out.below H2.out).below B3.out
  have K3 : Hid (w3.heap[p2]? = some (.cells #[.int .i64 x.no, .int .i64 x.fm, .int .i64 x.tt, .string x.bs] 71 (0, 0)) ∧ w3.heap.size = p2 + 1) := by rw [← Hw3.out, ← Hp2.out]; exact ⟨heap_alloc_new w2 _, by simp⟩
  have Q3 : Hid (w3.heap[q]? = some (.cells #[.int .i64 0, .int .i64 0, .int .i64 0, .slice none 0 0] 50 (0, 0))) := by
    have h := (H2.out.block q (Array.getElem?_eq_some_iff.1 K1.out).1).trans K1.out
    exact (B3.out.block q (Array.getElem?_eq_some_iff.1 h).1).trans h
  have PD : Hid (p2 ≠ d ∧ p2 ≠ b) := by
    have h := N1.out.below H2.out
    have := h.dlt
    have := (h.alt (q := b) rfl).2.1
    have := Hp2.out
    exact ⟨by omega, by omega⟩
  rw [Hw3.out, Hp2.out]
  clear d0 d1 d2 d3 c0
  go_upto_region 6 with (go_at_call 29; refine (remove_n N3 PL).mono ?_; rintro e w4 ⟨rfl, H4⟩)
  have K4 : Hid (w4.heap[p2]? = some (.cells #[.int .i64 x.no, .int .i64 x.fm, .int .i64 x.tt, .string x.bs] 71 (0, 0))) := (H4.out.2.ch.block p2 (Array.getElem?_eq_some_iff.1 K3.out.1).1 (fun h => by
    rcases h with h | h
    · exact PD.out.1 h
    · cases h; exact PD.out.2 rfl)).trans K3.out.1
  have Q4 : Hid (w4.heap[q]? = some (.cells #[.int .i64 0, .int .i64 0, .int .i64 0, .slice none 0 0] 50 (0, 0))) := (H4.out.2.ch.block q (Array.getElem?_eq_some_iff.1 Q3.out).1 (fun h => by
    rcases h with h | h
    · exact QD.out.1 h
    · cases h; exact QD.out.2 rfl)).trans Q3.out
  have f0 : w4.cell? ⟨p2, 0, none⟩ = some (.int .i64 x.no) := (cel4 K4.out).1
  have f1 : w4.cell? ⟨p2, 1, none⟩ = some (.int .i64 x.fm) := (cel4 K4.out).2.1
  have f2 : w4.cell? ⟨p2, 2, none⟩ = some (.int .i64 x.tt) := (cel4 K4.out).2.2.1
  have f3 : w4.cell? ⟨p2, 3, none⟩ = some (.string x.bs) := (cel4 K4.out).2.2.2
  have CV := run_cv w4 x.bs
  obtain ⟨c', Hc'⟩ : ∃ c', Hid (cvC w4 x.bs = c') := ⟨_, rfl⟩
  obtain ⟨w5, Hw5⟩ : ∃ w5, Hid (cvW w4 x.bs = w5) := ⟨_, rfl⟩
  obtain ⟨g', Hg'⟩ : ∃ g', Hid (w4.heap.size = g') := ⟨_, rfl⟩
  have B5 : Hid (Below w4.heap.size w4 w5) := by rw [← Hw5.out]; exact cvW_below w4 _
  have S5 : Hid (Sln w5 (some ⟨g', 0, none⟩) x.bs.size (bytesOf x.bs)) := by rw [← Hw5.out, ← Hg'.out]; exact cvW_sln w4 _ (by have := SZ.out; omega)
  have K5 : Hid (w5.heap[g']? = some (.cells (bytesRow x.bs c') 5 ((bytesRow x.bs c').size, (bytesRow x.bs c').size + 1))) := by rw [← Hw5.out, ← Hg'.out, ← Hc'.out]; exact heap_alloc_new w4.drew _
  have C5 : Hid (x.bs.size ≤ c') := by rw [← Hc'.out]; exact cvC_ge w4 _
  have Q5 : Hid (w5.heap[q]? = some (.cells #[.int .i64 0, .int .i64 0, .int .i64 0, .slice none 0 0] 50 (0, 0))) := (B5.out.block q (Array.getElem?_eq_some_iff.1 Q4.out).1).trans Q4.out
  rw [Hw5.out, Hc'.out, Hg'.out] at CV
  go_wp2_with (refine wpList_store_row (by rfl) 50 (.tmp 4) (.tmp 38) (by rfl) q #[.int .i64 x.no, .int .i64 x.fm, .int .i64 x.tt, .slice (some ⟨g', 0, none⟩) x.bs.size c'] (by rfl) (by rfl) 50 _ Q5.out inf50 rfl (oc4 _ _ _ _ _ _) ?_)
  have QG : q ≠ g' := by
    have := (Array.getElem?_eq_some_iff.1 Q4.out).1
    have := Hg'.out
    omega
  have L4 : w.heap.size ≤ w4.heap.size := by
    have := B1.out.size; have := H2.out.size; have := B3.out.size; have := H4.out.2.ch.size; omega
  have FC : Ch w5 (w5.setRow q #[.int .i64 x.no, .int .i64 x.fm, .int .i64 x.tt, .slice (some ⟨g', 0, none⟩) x.bs.size c']) (fun r => r = q) := ⟨rfl, rfl, rfl, by rw [setRow_size]; exact Nat.le_refl _, fun k hk hn => setRow_other _ _ _ _ hn⟩
  refine bodyPost_ret (res14 Tryd.results14 _ _ q #[.int .i64 x.no, .int .i64 x.fm, .int .i64 x.tt, .slice (some ⟨g', 0, none⟩) x.bs.size c'] .nilIface (by rfl) (by rfl) (setRow_heap _ _ _ _ _ _ Q5.out) rfl) rfl ⟨g', c', rfl, ?_, ⟨?_, fun r e => .inl e⟩, ?_, ?_, C5.out, ?_⟩
  · refine (H4.out.1.below B5.out).keep fun r hr => setRow_other _ _ _ _ ?_
    rintro rfl
    rcases hr with h | h
    · exact QD.out.1 h
    · cases h; exact QD.out.2 rfl
  · have s1 : Ch w w3 (fun r => r = d ∨ blkOf (some (⟨b, 0, none⟩ : Addr)) = some r) := Ch.below ((B1.out.trans (H2.out.mono B1.out.size)).trans (B3.out.mono (Nat.le_trans B1.out.size H2.out.size)))
    exact ((s1.trans H4.out.2.ch).trans (Ch.below B5.out)).then FC (fun r _ h => h) (fun r hr h => by
      have h2 : r = q := h
      have := Hq.out
      omega)
  · refine ⟨S5.out.len, S5.out.sli.1, S5.out.sli.2.1, ?_⟩
    rcases S5.out.sli.2.2 with h | ⟨b', off, h1, h2, h3⟩
    · exact .inl h
    · cases h1
      exact .inr ⟨g', 0, rfl, by rw [setRow_size]; exact h2, fun i hi => (World.cell?_of_block (a := ⟨g', 0 + i, none⟩) (setRow_other _ _ _ _ (Ne.symm QG))).trans (h3 i hi)⟩
  · rw [← Hg'.out]; exact L4
  · exact (setRow_other _ _ _ _ (Ne.symm QG)).trans K5.out
end Go.Proofs.YtkjebbpmafhpgaaDoor
