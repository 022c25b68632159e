import Derived.Test.YtoegfckafnlknaaDoorMFa
import Derived.Test.YtoegfckafnlknaaDoorMCf
/- Fc -/
/- The command's reader: ids. -/
namespace Go.Proofs.YtoegfckafnlknaaDoor
open Go.ChangeShapes Go.WideShapes Go.ChangeAt Go.RowKit
set_option maxRecDepth 20000
set_option linter.unusedVariables false
set_option linter.unusedSimpArgs false
noncomputable def ops76 : Array Oper := match Tryd.f76.body with
  | some c => match regIn 1 c with
    | some o => o
    | none => #[]
  | none => #[]
theorem sent_rdr {w w' : World} {M : Nat → Prop} {E : Nat → Addr} {g B : Nat} {a : Option Addr} {n c : Nat} {l : List Nat} {p q : Nat} (h : Sent w M E) (h1 : Rdr w g B a n c l p) (h2 : Rdr w' g B a n c l q) (hf : Wfr w w' g none) : Sent w' M E := by
  refine ⟨fun k hk => ?_, fun k hk => ?_, h.ne⟩
  · have hc := h.c k hk
    have hne : k ≠ g := by rintro rfl; rw [h1.c0] at hc; simp [er] at hc
    have := hf.block k (cell_lt hc) hne (by simp [blkOf])
    rw [← hc]
    simp [World.cell?, this]
  · obtain ⟨cs, t, hr⟩ := h.row k hk
    by_cases e : (E k).block = g
    · exact ⟨_, _, by rw [e]; exact h2.blk⟩
    · exact ⟨cs, t, (hf.block _ (Array.getElem?_eq_some_iff.1 hr).1 e (by simp [blkOf])).trans hr⟩
theorem box_wfr {w w' : World} {g gb : Nat} {o : Obj} (hb : w.heap[gb]? = some o) (hne : gb ≠ g) (hf : Wfr w w' g none) : w'.heap[gb]? = some o := (hf.block gb (Array.getElem?_eq_some_iff.1 hb).1 hne (by simp [blkOf])).trans hb
theorem rdr_set {w : World} {g B : Nat} {a : Option Addr} {n c : Nat} {l : List Nat} {p gz : Nat} (h : Rdr w g B a n c l p) (hne : gz ≠ g) (ha : blkOf a ≠ some gz) (i : Nat) (v : Value) : Rdr (w.setCell ⟨gz, i, none⟩ v) g B a n c l p :=
  ⟨(heap_setCell_other w ⟨gz, i, none⟩ g v (Ne.symm hne)).trans h.blk, h.own.block (fun q hq => heap_setCell_other w ⟨gz, i, none⟩ q v (fun e => ha (by rw [hq]; exact congrArg some e))), h.ne, h.le, h.sz⟩
theorem wfr_set {w w' : World} {g gz : Nat} (h : Wfr w w' g none) (hz : w.heap.size ≤ gz) (i : Nat) (v : Value) : Wfr w (w'.setCell ⟨gz, i, none⟩ v) g none :=
  ⟨h.os, h.tape, h.output, by simp [World.setCell]; exact h.size, fun k hk h1 h2 => (heap_setCell_other w' ⟨gz, i, none⟩ k v (by show k ≠ gz; omega)).trans (h.block k hk h1 h2)⟩
set_option maxHeartbeats 2000000 in
theorem idR_bad1 {w : World} {g B : Nat} {M : Nat → Prop} {a : Option Addr} {n c : Nat} {l : List Nat} {p X1 q1 : Nat} {E : Nat → Addr} (hR : Hid (Rdr w g B a n c l p)) (hE : Hid (Sent w M E)) (hM : M 1) (hr1 : Hid (rdN l p 15 = (X1, 5, q1))) :
    Calls Tryd.prog 76 #[.agg #[.pointer (some ⟨g, 0, none⟩)]] w fun e w' => e = .panicked [{ v := er (E 1), recovered := false }] ∧ Hid (Wfr w w' g none) := by
  obtain ⟨gb, Hgb⟩ : ∃ g, Hid (w.heap.size = g) := ⟨_, rfl⟩
  obtain ⟨gz, Hgz⟩ : ∃ g, Hid (w.heap.size + 1 = g) := ⟨_, rfl⟩
  obtain ⟨w0, Hw0⟩ : ∃ w1, Hid ((w.alloc (.cells #[.pointer (some ⟨g, 0, none⟩)] 75)).alloc (.cells #[.int .i64 0, .int .i64 0, .int .i64 0] 23) = w1) := ⟨_, rfl⟩
  obtain ⟨w1, Hw1⟩ : ∃ w1, Hid (w0.drew = w1) := ⟨_, rfl⟩
  have b0 : Hid (Below w.heap.size w w0) := by rw [← Hw0.out]; exact alloc2 w _ _
  have b1 : Hid (Below w.heap.size w w1) := by rw [← Hw1.out]; exact b0.out.drew
  have S1 : Hid (Rdr w1 g B a n c l p ∧ Sent w1 M E ∧ Wfr w w1 g none) := ⟨hR.out.below b1.out, hE.out.below b1.out, wfr_below g b1.out⟩
  have ne : Hid (gb ≠ g ∧ gz ≠ g) := by have h1 := hR.out.lt; have h2 := Hgb.out; have h3 := Hgz.out; exact ⟨by omega, by omega⟩
  have kb : Hid (w1.heap[gb]? = some (.cells #[.pointer (some ⟨g, 0, none⟩)] 75 (0, 0)) ∧ w1.heap[gz]? = some (.cells #[.int .i64 0, .int .i64 0, .int .i64 0] 23 (0, 0))) := by
    rw [← Hw1.out, ← Hw0.out, ← Hgb.out, ← Hgz.out]
    refine ⟨?_, ?_⟩
    · show ((w.alloc (.cells #[.pointer (some ⟨g, 0, none⟩)] 75)).alloc _).heap[w.heap.size]? = _
      exact ((alloc1 _ _).block w.heap.size (by simp)).trans (heap_alloc_new w _)
    · have h := heap_alloc_new (w.alloc (.cells #[.pointer (some ⟨g, 0, none⟩)] 75)) (.cells #[.int .i64 0, .int .i64 0, .int .i64 0] 23)
      show ((w.alloc (.cells #[.pointer (some ⟨g, 0, none⟩)] 75)).alloc _).heap[w.heap.size + 1]? = _
      simpa using h
  have FR : Hid (∀ {w' : World}, Wfr w1 w' g none → Wfr w w' g none) := fun {w'} h => S1.out.2.2.none_trans h
  go_enter Tryd.func76, Tryd.ntmps76
  go_upto_region 1 with (fail)
  rw [Hw0.out, Hgz.out, Hgb.out]
  refine wp_region_seq (ops := ops76) (C := fun W => W.cell? ⟨gb, 0, none⟩ = some (.pointer (some ⟨g, 0, none⟩))) [(0, false), (2, false), (4, false), (1, true), (3, true), (5, true), (6, false), (7, false), (8, false)] (by kernel_rfl) (by kernel_rfl) (by rw [Hw1.out]; simp [World.cell?, kb.out.1]) ?_
  rw [Hw1.out]
  clear Hw0 Hw1 b0 b1
  refine seq_take (o := { dst := some 6, op := Go.Op.load 75 (Go.Operand.tmp 1), type := 75, pos := "reader.go:71", after := #[], guard := none }) (v := .agg #[.pointer (some ⟨g, 0, none⟩)]) (by kernel_rfl) (fun _ _ _ h => h) (Or.inl ⟨by kernel_rfl, fun W hW => by have q0 := hW; go_simp⟩) ?_
  simp only [List.getElem_toArray, List.getElem_cons_zero, List.getElem_cons_succ, Act.put, List.setIfInBounds_toArray, List.set_cons_zero, List.set_cons_succ]
  refine seq_take (o := { dst := some 8, op := Go.Op.load 75 (Go.Operand.tmp 1), type := 75, pos := "reader.go:71", after := #[], guard := none }) (v := .agg #[.pointer (some ⟨g, 0, none⟩)]) (by kernel_rfl) (fun _ _ _ h => h) (Or.inl ⟨by kernel_rfl, fun W hW => by have q0 := hW; go_simp⟩) ?_
  simp only [List.getElem_toArray, List.getElem_cons_zero, List.getElem_cons_succ, Act.put, List.setIfInBounds_toArray, List.set_cons_zero, List.set_cons_succ]
  refine seq_take (o := { dst := some 10, op := Go.Op.load 75 (Go.Operand.tmp 1), type := 75, pos := "reader.go:71", after := #[], guard := none }) (v := .agg #[.pointer (some ⟨g, 0, none⟩)]) (by kernel_rfl) (fun _ _ _ h => h) (Or.inl ⟨by kernel_rfl, fun W hW => by have q0 := hW; go_simp⟩) ?_
  simp only [List.getElem_toArray, List.getElem_cons_zero, List.getElem_cons_succ, Act.put, List.setIfInBounds_toArray, List.set_cons_zero, List.set_cons_succ]
  refine seq_call (o := { dst := some 7, op := Go.Op.call { callee := Go.Callee.value (Go.Operand.func 75), args := #[Go.Operand.tmp 6, Go.Operand.const (Go.Value.int Go.IntKind.i64 15)], argTypes := #[75, 3] }, type := 3, pos := "reader.go:71", after := #[{ on := 0, ground := Go.Ground.data }], guard := none }) (by kernel_rfl) (fun K hK => ?_)
  rw [if_pos (by kernel_rfl)]
  go_simp
  go_wp2_with (go_at_call 75; refine (numR_bad (z := 15) (show Hid (Rdr w1 g B a n c l p) from S1.out.1) (by omega) (show Hid (Sent w1 M E) from S1.out.2.1) hM hr1).mono ?_; rintro e w2 ⟨rfl, H2⟩)
  have F : Hid (Wfr w w2 g none) := S1.out.2.2.none_trans H2.out
  first
    | exact bodyPost_panic rfl ⟨rfl, F.out⟩
    | exact ⟨rfl, rfl, F.out⟩
    | exact ⟨rfl, F.out⟩
    | (simp [bodyPost]; exact F.out)
set_option maxHeartbeats 2000000 in
theorem idR_bad2 {w : World} {g B : Nat} {M : Nat → Prop} {a : Option Addr} {n c : Nat} {l : List Nat} {p X1 q1 X2 q2 : Nat} {E : Nat → Addr} (hR : Hid (Rdr w g B a n c l p)) (hE : Hid (Sent w M E)) (hM : M 1) (hr1 : Hid (rdN l p 15 = (X1, 0, q1))) (hr2 : Hid (rdN l q1 1099511627776 = (X2, 5, q2))) :
    Calls Tryd.prog 76 #[.agg #[.pointer (some ⟨g, 0, none⟩)]] w fun e w' => e = .panicked [{ v := er (E 1), recovered := false }] ∧ Hid (Wfr w w' g none) := by
  obtain ⟨gb, Hgb⟩ : ∃ g, Hid (w.heap.size = g) := ⟨_, rfl⟩
  obtain ⟨gz, Hgz⟩ : ∃ g, Hid (w.heap.size + 1 = g) := ⟨_, rfl⟩
  obtain ⟨w0, Hw0⟩ : ∃ w1, Hid ((w.alloc (.cells #[.pointer (some ⟨g, 0, none⟩)] 75)).alloc (.cells #[.int .i64 0, .int .i64 0, .int .i64 0] 23) = w1) := ⟨_, rfl⟩
  obtain ⟨w1, Hw1⟩ : ∃ w1, Hid (w0.drew = w1) := ⟨_, rfl⟩
  have b0 : Hid (Below w.heap.size w w0) := by rw [← Hw0.out]; exact alloc2 w _ _
  have b1 : Hid (Below w.heap.size w w1) := by rw [← Hw1.out]; exact b0.out.drew
  have S1 : Hid (Rdr w1 g B a n c l p ∧ Sent w1 M E ∧ Wfr w w1 g none) := ⟨hR.out.below b1.out, hE.out.below b1.out, wfr_below g b1.out⟩
  have ne : Hid (gb ≠ g ∧ gz ≠ g) := by have h1 := hR.out.lt; have h2 := Hgb.out; have h3 := Hgz.out; exact ⟨by omega, by omega⟩
  have kb : Hid (w1.heap[gb]? = some (.cells #[.pointer (some ⟨g, 0, none⟩)] 75 (0, 0)) ∧ w1.heap[gz]? = some (.cells #[.int .i64 0, .int .i64 0, .int .i64 0] 23 (0, 0))) := by
    rw [← Hw1.out, ← Hw0.out, ← Hgb.out, ← Hgz.out]
    refine ⟨?_, ?_⟩
    · show ((w.alloc (.cells #[.pointer (some ⟨g, 0, none⟩)] 75)).alloc _).heap[w.heap.size]? = _
      exact ((alloc1 _ _).block w.heap.size (by simp)).trans (heap_alloc_new w _)
    · have h := heap_alloc_new (w.alloc (.cells #[.pointer (some ⟨g, 0, none⟩)] 75)) (.cells #[.int .i64 0, .int .i64 0, .int .i64 0] 23)
      show ((w.alloc (.cells #[.pointer (some ⟨g, 0, none⟩)] 75)).alloc _).heap[w.heap.size + 1]? = _
      simpa using h
  have FR : Hid (∀ {w' : World}, Wfr w1 w' g none → Wfr w w' g none) := fun {w'} h => S1.out.2.2.none_trans h
  go_enter Tryd.func76, Tryd.ntmps76
  go_upto_region 1 with (fail)
  rw [Hw0.out, Hgz.out, Hgb.out]
  refine wp_region_seq (ops := ops76) (C := fun W => W.cell? ⟨gb, 0, none⟩ = some (.pointer (some ⟨g, 0, none⟩))) [(0, false), (2, false), (4, false), (1, true), (3, true), (5, true), (6, false), (7, false), (8, false)] (by kernel_rfl) (by kernel_rfl) (by rw [Hw1.out]; simp [World.cell?, kb.out.1]) ?_
  rw [Hw1.out]
  clear Hw0 Hw1 b0 b1
  refine seq_take (o := { dst := some 6, op := Go.Op.load 75 (Go.Operand.tmp 1), type := 75, pos := "reader.go:71", after := #[], guard := none }) (v := .agg #[.pointer (some ⟨g, 0, none⟩)]) (by kernel_rfl) (fun _ _ _ h => h) (Or.inl ⟨by kernel_rfl, fun W hW => by have q0 := hW; go_simp⟩) ?_
  simp only [List.getElem_toArray, List.getElem_cons_zero, List.getElem_cons_succ, Act.put, List.setIfInBounds_toArray, List.set_cons_zero, List.set_cons_succ]
  refine seq_take (o := { dst := some 8, op := Go.Op.load 75 (Go.Operand.tmp 1), type := 75, pos := "reader.go:71", after := #[], guard := none }) (v := .agg #[.pointer (some ⟨g, 0, none⟩)]) (by kernel_rfl) (fun _ _ _ h => h) (Or.inl ⟨by kernel_rfl, fun W hW => by have q0 := hW; go_simp⟩) ?_
  simp only [List.getElem_toArray, List.getElem_cons_zero, List.getElem_cons_succ, Act.put, List.setIfInBounds_toArray, List.set_cons_zero, List.set_cons_succ]
  refine seq_take (o := { dst := some 10, op := Go.Op.load 75 (Go.Operand.tmp 1), type := 75, pos := "reader.go:71", after := #[], guard := none }) (v := .agg #[.pointer (some ⟨g, 0, none⟩)]) (by kernel_rfl) (fun _ _ _ h => h) (Or.inl ⟨by kernel_rfl, fun W hW => by have q0 := hW; go_simp⟩) ?_
  simp only [List.getElem_toArray, List.getElem_cons_zero, List.getElem_cons_succ, Act.put, List.setIfInBounds_toArray, List.set_cons_zero, List.set_cons_succ]
  refine seq_call (o := { dst := some 7, op := Go.Op.call { callee := Go.Callee.value (Go.Operand.func 75), args := #[Go.Operand.tmp 6, Go.Operand.const (Go.Value.int Go.IntKind.i64 15)], argTypes := #[75, 3] }, type := 3, pos := "reader.go:71", after := #[{ on := 0, ground := Go.Ground.data }], guard := none }) (by kernel_rfl) (fun K hK => ?_)
  rw [if_pos (by kernel_rfl)]
  go_simp
  go_wp2_with (go_at_call 75; refine (numR_ok (z := 15) (show Hid (Rdr w1 g B a n c l p) from S1.out.1) (by omega) (show Hid (Sent w1 M E) from S1.out.2.1) hM hr1).mono ?_; rintro e w2 ⟨rfl, H2⟩)
  have S2 : Hid (Rdr w2 g B a n c l q1 ∧ Sent w2 M E ∧ Wfr w w2 g none) := ⟨H2.out.1, sent_rdr S1.out.2.1 S1.out.1 H2.out.1 H2.out.2, S1.out.2.2.none_trans H2.out.2⟩
  have kb2 : Hid (w2.heap[gb]? = some (.cells #[.pointer (some ⟨g, 0, none⟩)] 75 (0, 0)) ∧ w2.heap[gz]? = some (.cells #[.int .i64 0, .int .i64 0, .int .i64 0] 23 (0, 0))) := ⟨box_wfr kb.out.1 ne.out.1 H2.out.2, box_wfr kb.out.2 ne.out.2 H2.out.2⟩
  refine hK.out _ _ (by simp [World.cell?, kb2.out.1]) ?_
  clear hK K H2 kb S1
  try simp only [List.getElem_toArray, List.getElem_cons_zero, List.getElem_cons_succ, Act.put, List.setIfInBounds_toArray, List.set_cons_zero, List.set_cons_succ]
  refine seq_call (o := { dst := some 9, op := Go.Op.call { callee := Go.Callee.value (Go.Operand.func 75), args := #[Go.Operand.tmp 8, Go.Operand.const (Go.Value.int Go.IntKind.i64 1099511627776)], argTypes := #[75, 3] }, type := 3, pos := "reader.go:71", after := #[{ on := 2, ground := Go.Ground.data }, { on := 1, ground := Go.Ground.chain }], guard := none }) (by kernel_rfl) (fun K hK => ?_)
  rw [if_pos (by kernel_rfl)]
  go_simp
  go_wp2_with (go_at_call 75; refine (numR_bad (z := 1099511627776) (show Hid (Rdr w2 g B a n c l q1) from S2.out.1) (by omega) (show Hid (Sent w2 M E) from S2.out.2.1) hM hr2).mono ?_; rintro e w3 ⟨rfl, H3⟩)
  have F : Hid (Wfr w w3 g none) := S2.out.2.2.none_trans H3.out
  first
    | exact bodyPost_panic rfl ⟨rfl, F.out⟩
    | exact ⟨rfl, rfl, F.out⟩
    | exact ⟨rfl, F.out⟩
    | (simp [bodyPost]; exact F.out)
set_option maxHeartbeats 2000000 in
theorem idR_bad3 {w : World} {g B : Nat} {M : Nat → Prop} {a : Option Addr} {n c : Nat} {l : List Nat} {p X1 q1 X2 q2 X3 q3 : Nat} {E : Nat → Addr} (hR : Hid (Rdr w g B a n c l p)) (hE : Hid (Sent w M E)) (hM : M 1) (hr1 : Hid (rdN l p 15 = (X1, 0, q1))) (hr2 : Hid (rdN l q1 1099511627776 = (X2, 0, q2))) (hr3 : Hid (rdN l q2 1099511627776 = (X3, 5, q3))) :
    Calls Tryd.prog 76 #[.agg #[.pointer (some ⟨g, 0, none⟩)]] w fun e w' => e = .panicked [{ v := er (E 1), recovered := false }] ∧ Hid (Wfr w w' g none) := by
  obtain ⟨gb, Hgb⟩ : ∃ g, Hid (w.heap.size = g) := ⟨_, rfl⟩
  obtain ⟨gz, Hgz⟩ : ∃ g, Hid (w.heap.size + 1 = g) := ⟨_, rfl⟩
  obtain ⟨w0, Hw0⟩ : ∃ w1, Hid ((w.alloc (.cells #[.pointer (some ⟨g, 0, none⟩)] 75)).alloc (.cells #[.int .i64 0, .int .i64 0, .int .i64 0] 23) = w1) := ⟨_, rfl⟩
  obtain ⟨w1, Hw1⟩ : ∃ w1, Hid (w0.drew = w1) := ⟨_, rfl⟩
  have b0 : Hid (Below w.heap.size w w0) := by rw [← Hw0.out]; exact alloc2 w _ _
  have b1 : Hid (Below w.heap.size w w1) := by rw [← Hw1.out]; exact b0.out.drew
  have S1 : Hid (Rdr w1 g B a n c l p ∧ Sent w1 M E ∧ Wfr w w1 g none) := ⟨hR.out.below b1.out, hE.out.below b1.out, wfr_below g b1.out⟩
  have ne : Hid (gb ≠ g ∧ gz ≠ g) := by have h1 := hR.out.lt; have h2 := Hgb.out; have h3 := Hgz.out; exact ⟨by omega, by omega⟩
  have kb : Hid (w1.heap[gb]? = some (.cells #[.pointer (some ⟨g, 0, none⟩)] 75 (0, 0)) ∧ w1.heap[gz]? = some (.cells #[.int .i64 0, .int .i64 0, .int .i64 0] 23 (0, 0))) := by
    rw [← Hw1.out, ← Hw0.out, ← Hgb.out, ← Hgz.out]
    refine ⟨?_, ?_⟩
    · show ((w.alloc (.cells #[.pointer (some ⟨g, 0, none⟩)] 75)).alloc _).heap[w.heap.size]? = _
      exact ((alloc1 _ _).block w.heap.size (by simp)).trans (heap_alloc_new w _)
    · have h := heap_alloc_new (w.alloc (.cells #[.pointer (some ⟨g, 0, none⟩)] 75)) (.cells #[.int .i64 0, .int .i64 0, .int .i64 0] 23)
      show ((w.alloc (.cells #[.pointer (some ⟨g, 0, none⟩)] 75)).alloc _).heap[w.heap.size + 1]? = _
      simpa using h
  have FR : Hid (∀ {w' : World}, Wfr w1 w' g none → Wfr w w' g none) := fun {w'} h => S1.out.2.2.none_trans h
  go_enter Tryd.func76, Tryd.ntmps76
  go_upto_region 1 with (fail)
  rw [Hw0.out, Hgz.out, Hgb.out]
  refine wp_region_seq (ops := ops76) (C := fun W => W.cell? ⟨gb, 0, none⟩ = some (.pointer (some ⟨g, 0, none⟩))) [(0, false), (2, false), (4, false), (1, true), (3, true), (5, true), (6, false), (7, false), (8, false)] (by kernel_rfl) (by kernel_rfl) (by rw [Hw1.out]; simp [World.cell?, kb.out.1]) ?_
  rw [Hw1.out]
  clear Hw0 Hw1 b0 b1
  refine seq_take (o := { dst := some 6, op := Go.Op.load 75 (Go.Operand.tmp 1), type := 75, pos := "reader.go:71", after := #[], guard := none }) (v := .agg #[.pointer (some ⟨g, 0, none⟩)]) (by kernel_rfl) (fun _ _ _ h => h) (Or.inl ⟨by kernel_rfl, fun W hW => by have q0 := hW; go_simp⟩) ?_
  simp only [List.getElem_toArray, List.getElem_cons_zero, List.getElem_cons_succ, Act.put, List.setIfInBounds_toArray, List.set_cons_zero, List.set_cons_succ]
  refine seq_take (o := { dst := some 8, op := Go.Op.load 75 (Go.Operand.tmp 1), type := 75, pos := "reader.go:71", after := #[], guard := none }) (v := .agg #[.pointer (some ⟨g, 0, none⟩)]) (by kernel_rfl) (fun _ _ _ h => h) (Or.inl ⟨by kernel_rfl, fun W hW => by have q0 := hW; go_simp⟩) ?_
  simp only [List.getElem_toArray, List.getElem_cons_zero, List.getElem_cons_succ, Act.put, List.setIfInBounds_toArray, List.set_cons_zero, List.set_cons_succ]
  refine seq_take (o := { dst := some 10, op := Go.Op.load 75 (Go.Operand.tmp 1), type := 75, pos := "reader.go:71", after := #[], guard := none }) (v := .agg #[.pointer (some ⟨g, 0, none⟩)]) (by kernel_rfl) (fun _ _ _ h => h) (Or.inl ⟨by kernel_rfl, fun W hW => by have q0 := hW; go_simp⟩) ?_
  simp only [List.getElem_toArray, List.getElem_cons_zero, List.getElem_cons_succ, Act.put, List.setIfInBounds_toArray, List.set_cons_zero, List.set_cons_succ]
  refine seq_call (o := { dst := some 7, op := Go.Op.call { callee := Go.Callee.value (Go.Operand.func 75), args := #[Go.Operand.tmp 6, Go.Operand.const (Go.Value.int Go.IntKind.i64 15)], argTypes := #[75, 3] }, type := 3, pos := "reader.go:71", after := #[{ on := 0, ground := Go.Ground.data }], guard := none }) (by kernel_rfl) (fun K hK => ?_)
  rw [if_pos (by kernel_rfl)]
  go_simp
  go_wp2_with (go_at_call 75; refine (numR_ok (z := 15) (show Hid (Rdr w1 g B a n c l p) from S1.out.1) (by omega) (show Hid (Sent w1 M E) from S1.out.2.1) hM hr1).mono ?_; rintro e w2 ⟨rfl, H2⟩)
  have S2 : Hid (Rdr w2 g B a n c l q1 ∧ Sent w2 M E ∧ Wfr w w2 g none) := ⟨H2.out.1, sent_rdr S1.out.2.1 S1.out.1 H2.out.1 H2.out.2, S1.out.2.2.none_trans H2.out.2⟩
  have kb2 : Hid (w2.heap[gb]? = some (.cells #[.pointer (some ⟨g, 0, none⟩)] 75 (0, 0)) ∧ w2.heap[gz]? = some (.cells #[.int .i64 0, .int .i64 0, .int .i64 0] 23 (0, 0))) := ⟨box_wfr kb.out.1 ne.out.1 H2.out.2, box_wfr kb.out.2 ne.out.2 H2.out.2⟩
  refine hK.out _ _ (by simp [World.cell?, kb2.out.1]) ?_
  clear hK K H2 kb S1
  try simp only [List.getElem_toArray, List.getElem_cons_zero, List.getElem_cons_succ, Act.put, List.setIfInBounds_toArray, List.set_cons_zero, List.set_cons_succ]
  refine seq_call (o := { dst := some 9, op := Go.Op.call { callee := Go.Callee.value (Go.Operand.func 75), args := #[Go.Operand.tmp 8, Go.Operand.const (Go.Value.int Go.IntKind.i64 1099511627776)], argTypes := #[75, 3] }, type := 3, pos := "reader.go:71", after := #[{ on := 2, ground := Go.Ground.data }, { on := 1, ground := Go.Ground.chain }], guard := none }) (by kernel_rfl) (fun K hK => ?_)
  rw [if_pos (by kernel_rfl)]
  go_simp
  go_wp2_with (go_at_call 75; refine (numR_ok (z := 1099511627776) (show Hid (Rdr w2 g B a n c l q1) from S2.out.1) (by omega) (show Hid (Sent w2 M E) from S2.out.2.1) hM hr2).mono ?_; rintro e w3 ⟨rfl, H3⟩)
  have S3 : Hid (Rdr w3 g B a n c l q2 ∧ Sent w3 M E ∧ Wfr w w3 g none) := ⟨H3.out.1, sent_rdr S2.out.2.1 S2.out.1 H3.out.1 H3.out.2, S2.out.2.2.none_trans H3.out.2⟩
  have kb3 : Hid (w3.heap[gb]? = some (.cells #[.pointer (some ⟨g, 0, none⟩)] 75 (0, 0)) ∧ w3.heap[gz]? = some (.cells #[.int .i64 0, .int .i64 0, .int .i64 0] 23 (0, 0))) := ⟨box_wfr kb2.out.1 ne.out.1 H3.out.2, box_wfr kb2.out.2 ne.out.2 H3.out.2⟩
  refine hK.out _ _ (by simp [World.cell?, kb3.out.1]) ?_
  clear hK K H3 kb2 S2
  try simp only [List.getElem_toArray, List.getElem_cons_zero, List.getElem_cons_succ, Act.put, List.setIfInBounds_toArray, List.set_cons_zero, List.set_cons_succ]
  refine seq_call (o := { dst := some 11, op := Go.Op.call { callee := Go.Callee.value (Go.Operand.func 75), args := #[Go.Operand.tmp 10, Go.Operand.const (Go.Value.int Go.IntKind.i64 1099511627776)], argTypes := #[75, 3] }, type := 3, pos := "reader.go:71", after := #[{ on := 4, ground := Go.Ground.data }, { on := 3, ground := Go.Ground.chain }], guard := none }) (by kernel_rfl) (fun K hK => ?_)
  rw [if_pos (by kernel_rfl)]
  go_simp
  go_wp2_with (go_at_call 75; refine (numR_bad (z := 1099511627776) (show Hid (Rdr w3 g B a n c l q2) from S3.out.1) (by omega) (show Hid (Sent w3 M E) from S3.out.2.1) hM hr3).mono ?_; rintro e w4 ⟨rfl, H4⟩)
  have F : Hid (Wfr w w4 g none) := S3.out.2.2.none_trans H4.out
  first
    | exact bodyPost_panic rfl ⟨rfl, F.out⟩
    | exact ⟨rfl, rfl, F.out⟩
    | exact ⟨rfl, F.out⟩
    | (simp [bodyPost]; exact F.out)
set_option maxHeartbeats 2000000 in
theorem idR_ok {w : World} {g B : Nat} {M : Nat → Prop} {a : Option Addr} {n c : Nat} {l : List Nat} {p X1 q1 X2 q2 X3 q3 : Nat} {E : Nat → Addr} (hR : Hid (Rdr w g B a n c l p)) (hE : Hid (Sent w M E)) (hM : M 1) (hr1 : Hid (rdN l p 15 = (X1, 0, q1))) (hr2 : Hid (rdN l q1 1099511627776 = (X2, 0, q2))) (hr3 : Hid (rdN l q2 1099511627776 = (X3, 0, q3))) :
    Calls Tryd.prog 76 #[.agg #[.pointer (some ⟨g, 0, none⟩)]] w fun e w' => e = .returned (.agg #[.int .i64 (X1 : Int), .int .i64 (X2 : Int), .int .i64 (X3 : Int)]) ∧ Hid (Rdr w' g B a n c l q3 ∧ Wfr w w' g none) := by
  obtain ⟨gb, Hgb⟩ : ∃ g, Hid (w.heap.size = g) := ⟨_, rfl⟩
  obtain ⟨gz, Hgz⟩ : ∃ g, Hid (w.heap.size + 1 = g) := ⟨_, rfl⟩
  obtain ⟨w0, Hw0⟩ : ∃ w1, Hid ((w.alloc (.cells #[.pointer (some ⟨g, 0, none⟩)] 75)).alloc (.cells #[.int .i64 0, .int .i64 0, .int .i64 0] 23) = w1) := ⟨_, rfl⟩
  obtain ⟨w1, Hw1⟩ : ∃ w1, Hid (w0.drew = w1) := ⟨_, rfl⟩
  have b0 : Hid (Below w.heap.size w w0) := by rw [← Hw0.out]; exact alloc2 w _ _
  have b1 : Hid (Below w.heap.size w w1) := by rw [← Hw1.out]; exact b0.out.drew
  have S1 : Hid (Rdr w1 g B a n c l p ∧ Sent w1 M E ∧ Wfr w w1 g none) := ⟨hR.out.below b1.out, hE.out.below b1.out, wfr_below g b1.out⟩
  have ne : Hid (gb ≠ g ∧ gz ≠ g) := by have h1 := hR.out.lt; have h2 := Hgb.out; have h3 := Hgz.out; exact ⟨by omega, by omega⟩
  have kb : Hid (w1.heap[gb]? = some (.cells #[.pointer (some ⟨g, 0, none⟩)] 75 (0, 0)) ∧ w1.heap[gz]? = some (.cells #[.int .i64 0, .int .i64 0, .int .i64 0] 23 (0, 0))) := by
    rw [← Hw1.out, ← Hw0.out, ← Hgb.out, ← Hgz.out]
    refine ⟨?_, ?_⟩
    · show ((w.alloc (.cells #[.pointer (some ⟨g, 0, none⟩)] 75)).alloc _).heap[w.heap.size]? = _
      exact ((alloc1 _ _).block w.heap.size (by simp)).trans (heap_alloc_new w _)
    · have h := heap_alloc_new (w.alloc (.cells #[.pointer (some ⟨g, 0, none⟩)] 75)) (.cells #[.int .i64 0, .int .i64 0, .int .i64 0] 23)
      show ((w.alloc (.cells #[.pointer (some ⟨g, 0, none⟩)] 75)).alloc _).heap[w.heap.size + 1]? = _
      simpa using h
  have FR : Hid (∀ {w' : World}, Wfr w1 w' g none → Wfr w w' g none) := fun {w'} h => S1.out.2.2.none_trans h
  go_enter Tryd.func76, Tryd.ntmps76
  go_upto_region 1 with (fail)
  rw [Hw0.out, Hgz.out, Hgb.out]
  refine wp_region_seq (ops := ops76) (C := fun W => W.cell? ⟨gb, 0, none⟩ = some (.pointer (some ⟨g, 0, none⟩))) [(0, false), (2, false), (4, false), (1, true), (3, true), (5, true), (6, false), (7, false), (8, false)] (by kernel_rfl) (by kernel_rfl) (by rw [Hw1.out]; simp [World.cell?, kb.out.1]) ?_
  rw [Hw1.out]
  clear Hw0 Hw1 b0 b1
  refine seq_take (o := { dst := some 6, op := Go.Op.load 75 (Go.Operand.tmp 1), type := 75, pos := "reader.go:71", after := #[], guard := none }) (v := .agg #[.pointer (some ⟨g, 0, none⟩)]) (by kernel_rfl) (fun _ _ _ h => h) (Or.inl ⟨by kernel_rfl, fun W hW => by have q0 := hW; go_simp⟩) ?_
  simp only [List.getElem_toArray, List.getElem_cons_zero, List.getElem_cons_succ, Act.put, List.setIfInBounds_toArray, List.set_cons_zero, List.set_cons_succ]
  refine seq_take (o := { dst := some 8, op := Go.Op.load 75 (Go.Operand.tmp 1), type := 75, pos := "reader.go:71", after := #[], guard := none }) (v := .agg #[.pointer (some ⟨g, 0, none⟩)]) (by kernel_rfl) (fun _ _ _ h => h) (Or.inl ⟨by kernel_rfl, fun W hW => by have q0 := hW; go_simp⟩) ?_
  simp only [List.getElem_toArray, List.getElem_cons_zero, List.getElem_cons_succ, Act.put, List.setIfInBounds_toArray, List.set_cons_zero, List.set_cons_succ]
  refine seq_take (o := { dst := some 10, op := Go.Op.load 75 (Go.Operand.tmp 1), type := 75, pos := "reader.go:71", after := #[], guard := none }) (v := .agg #[.pointer (some ⟨g, 0, none⟩)]) (by kernel_rfl) (fun _ _ _ h => h) (Or.inl ⟨by kernel_rfl, fun W hW => by have q0 := hW; go_simp⟩) ?_
  simp only [List.getElem_toArray, List.getElem_cons_zero, List.getElem_cons_succ, Act.put, List.setIfInBounds_toArray, List.set_cons_zero, List.set_cons_succ]
  refine seq_call (o := { dst := some 7, op := Go.Op.call { callee := Go.Callee.value (Go.Operand.func 75), args := #[Go.Operand.tmp 6, Go.Operand.const (Go.Value.int Go.IntKind.i64 15)], argTypes := #[75, 3] }, type := 3, pos := "reader.go:71", after := #[{ on := 0, ground := Go.Ground.data }], guard := none }) (by kernel_rfl) (fun K hK => ?_)
  rw [if_pos (by kernel_rfl)]
  go_simp
  go_wp2_with (go_at_call 75; refine (numR_ok (z := 15) (show Hid (Rdr w1 g B a n c l p) from S1.out.1) (by omega) (show Hid (Sent w1 M E) from S1.out.2.1) hM hr1).mono ?_; rintro e w2 ⟨rfl, H2⟩)
  have S2 : Hid (Rdr w2 g B a n c l q1 ∧ Sent w2 M E ∧ Wfr w w2 g none) := ⟨H2.out.1, sent_rdr S1.out.2.1 S1.out.1 H2.out.1 H2.out.2, S1.out.2.2.none_trans H2.out.2⟩
  have kb2 : Hid (w2.heap[gb]? = some (.cells #[.pointer (some ⟨g, 0, none⟩)] 75 (0, 0)) ∧ w2.heap[gz]? = some (.cells #[.int .i64 0, .int .i64 0, .int .i64 0] 23 (0, 0))) := ⟨box_wfr kb.out.1 ne.out.1 H2.out.2, box_wfr kb.out.2 ne.out.2 H2.out.2⟩
  refine hK.out _ _ (by simp [World.cell?, kb2.out.1]) ?_
  clear hK K H2 kb S1
  try simp only [List.getElem_toArray, List.getElem_cons_zero, List.getElem_cons_succ, Act.put, List.setIfInBounds_toArray, List.set_cons_zero, List.set_cons_succ]
  refine seq_call (o := { dst := some 9, op := Go.Op.call { callee := Go.Callee.value (Go.Operand.func 75), args := #[Go.Operand.tmp 8, Go.Operand.const (Go.Value.int Go.IntKind.i64 1099511627776)], argTypes := #[75, 3] }, type := 3, pos := "reader.go:71", after := #[{ on := 2, ground := Go.Ground.data }, { on := 1, ground := Go.Ground.chain }], guard := none }) (by kernel_rfl) (fun K hK => ?_)
  rw [if_pos (by kernel_rfl)]
  go_simp
  go_wp2_with (go_at_call 75; refine (numR_ok (z := 1099511627776) (show Hid (Rdr w2 g B a n c l q1) from S2.out.1) (by omega) (show Hid (Sent w2 M E) from S2.out.2.1) hM hr2).mono ?_; rintro e w3 ⟨rfl, H3⟩)
  have S3 : Hid (Rdr w3 g B a n c l q2 ∧ Sent w3 M E ∧ Wfr w w3 g none) := ⟨H3.out.1, sent_rdr S2.out.2.1 S2.out.1 H3.out.1 H3.out.2, S2.out.2.2.none_trans H3.out.2⟩
  have kb3 : Hid (w3.heap[gb]? = some (.cells #[.pointer (some ⟨g, 0, none⟩)] 75 (0, 0)) ∧ w3.heap[gz]? = some (.cells #[.int .i64 0, .int .i64 0, .int .i64 0] 23 (0, 0))) := ⟨box_wfr kb2.out.1 ne.out.1 H3.out.2, box_wfr kb2.out.2 ne.out.2 H3.out.2⟩
  refine hK.out _ _ (by simp [World.cell?, kb3.out.1]) ?_
  clear hK K H3 kb2 S2
  try simp only [List.getElem_toArray, List.getElem_cons_zero, List.getElem_cons_succ, Act.put, List.setIfInBounds_toArray, List.set_cons_zero, List.set_cons_succ]
  refine seq_call (o := { dst := some 11, op := Go.Op.call { callee := Go.Callee.value (Go.Operand.func 75), args := #[Go.Operand.tmp 10, Go.Operand.const (Go.Value.int Go.IntKind.i64 1099511627776)], argTypes := #[75, 3] }, type := 3, pos := "reader.go:71", after := #[{ on := 4, ground := Go.Ground.data }, { on := 3, ground := Go.Ground.chain }], guard := none }) (by kernel_rfl) (fun K hK => ?_)
  rw [if_pos (by kernel_rfl)]
  go_simp
  go_wp2_with (go_at_call 75; refine (numR_ok (z := 1099511627776) (show Hid (Rdr w3 g B a n c l q2) from S3.out.1) (by omega) (show Hid (Sent w3 M E) from S3.out.2.1) hM hr3).mono ?_; rintro e w4 ⟨rfl, H4⟩)
  have S4 : Hid (Rdr w4 g B a n c l q3 ∧ Sent w4 M E ∧ Wfr w w4 g none) := ⟨H4.out.1, sent_rdr S3.out.2.1 S3.out.1 H4.out.1 H4.out.2, S3.out.2.2.none_trans H4.out.2⟩
  have kb4 : Hid (w4.heap[gb]? = some (.cells #[.pointer (some ⟨g, 0, none⟩)] 75 (0, 0)) ∧ w4.heap[gz]? = some (.cells #[.int .i64 0, .int .i64 0, .int .i64 0] 23 (0, 0))) := ⟨box_wfr kb3.out.1 ne.out.1 H4.out.2, box_wfr kb3.out.2 ne.out.2 H4.out.2⟩
  refine hK.out _ _ (by simp [World.cell?, kb4.out.1]) ?_
  clear hK K H4 kb3 S3
  try simp only [List.getElem_toArray, List.getElem_cons_zero, List.getElem_cons_succ, Act.put, List.setIfInBounds_toArray, List.set_cons_zero, List.set_cons_succ]
  refine seq_take (o := { dst := some 3, op := Go.Op.assign (Go.Operand.tmp 7), type := 3, pos := "reader.go:71", after := #[{ on := 1, ground := Go.Ground.data }, { on := 5, ground := Go.Ground.chain }, { on := 0, ground := Go.Ground.phase }, { on := 1, ground := Go.Ground.phase }, { on := 2, ground := Go.Ground.textOnly Go.Departure.lateStores }, { on := 3, ground := Go.Ground.textOnly Go.Departure.lateStoresUnsure }, { on := 4, ground := Go.Ground.textOnly Go.Departure.lateStores }, { on := 5, ground := Go.Ground.textOnly Go.Departure.lateStoresUnsure }], guard := none }) (v := .int .i64 (X1 : Int)) (by kernel_rfl) (fun _ _ _ h => h) (Or.inl ⟨by kernel_rfl, fun W hW => by go_simp⟩) ?_
  simp only [List.getElem_toArray, List.getElem_cons_zero, List.getElem_cons_succ, Act.put, List.setIfInBounds_toArray, List.set_cons_zero, List.set_cons_succ]
  refine seq_take (o := { dst := some 4, op := Go.Op.assign (Go.Operand.tmp 9), type := 3, pos := "reader.go:71", after := #[{ on := 3, ground := Go.Ground.data }, { on := 6, ground := Go.Ground.chain }, { on := 0, ground := Go.Ground.phase }, { on := 1, ground := Go.Ground.phase }, { on := 2, ground := Go.Ground.phase }, { on := 3, ground := Go.Ground.phase }, { on := 4, ground := Go.Ground.textOnly Go.Departure.lateStores }, { on := 5, ground := Go.Ground.textOnly Go.Departure.lateStoresUnsure }, { on := 6, ground := Go.Ground.phase }], guard := none }) (v := .int .i64 (X2 : Int)) (by kernel_rfl) (fun _ _ _ h => h) (Or.inl ⟨by kernel_rfl, fun W hW => by go_simp⟩) ?_
  simp only [List.getElem_toArray, List.getElem_cons_zero, List.getElem_cons_succ, Act.put, List.setIfInBounds_toArray, List.set_cons_zero, List.set_cons_succ]
  refine seq_take (o := { dst := some 5, op := Go.Op.assign (Go.Operand.tmp 11), type := 3, pos := "reader.go:71", after := #[{ on := 5, ground := Go.Ground.data }, { on := 7, ground := Go.Ground.chain }, { on := 0, ground := Go.Ground.phase }, { on := 1, ground := Go.Ground.phase }, { on := 2, ground := Go.Ground.phase }, { on := 3, ground := Go.Ground.phase }, { on := 4, ground := Go.Ground.phase }, { on := 5, ground := Go.Ground.phase }, { on := 6, ground := Go.Ground.phase }, { on := 7, ground := Go.Ground.phase }], guard := none }) (v := .int .i64 (X3 : Int)) (by kernel_rfl) (fun _ _ _ h => h) (Or.inl ⟨by kernel_rfl, fun W hW => by go_simp⟩) ?_
  simp only [List.getElem_toArray, List.getElem_cons_zero, List.getElem_cons_succ, Act.put, List.setIfInBounds_toArray, List.set_cons_zero, List.set_cons_succ]
  show (Exit.then _ _) .normal _ _
  have z0 : w4.cell? ⟨gz, 0, none⟩ = some (.int .i64 0) := by simp [World.cell?, kb4.out.2]
  have z1 : w4.cell? ⟨gz, 1, none⟩ = some (.int .i64 0) := by simp [World.cell?, kb4.out.2]
  have z2 : w4.cell? ⟨gz, 2, none⟩ = some (.int .i64 0) := by simp [World.cell?, kb4.out.2]
  have f0 := fz kb4.out.2 0
  have f1 := fz kb4.out.2 1
  have f2 := fz kb4.out.2 2
  have FIN : Hid (Rdr (((w4.setCell ⟨gz, 0, none⟩ (.int .i64 (X1 : Int))).setCell ⟨gz, 1, none⟩ (.int .i64 (X2 : Int))).setCell ⟨gz, 2, none⟩ (.int .i64 (X3 : Int))) g B a n c l q3 ∧ Wfr w (((w4.setCell ⟨gz, 0, none⟩ (.int .i64 (X1 : Int))).setCell ⟨gz, 1, none⟩ (.int .i64 (X2 : Int))).setCell ⟨gz, 2, none⟩ (.int .i64 (X3 : Int))) g none) := by
    have ha : blkOf a ≠ some gz := fun h => by
      have h1 := (hR.out.own.ge gz h).2
      have h2 := Hgz.out
      omega
    have hz : w.heap.size ≤ gz := by have := Hgz.out; omega
    exact ⟨rdr_set (rdr_set (rdr_set S4.out.1 ne.out.2 ha _ _) ne.out.2 ha _ _) ne.out.2 ha _ _, wfr_set (wfr_set (wfr_set S4.out.2.2 hz _ _) hz _ _) hz _ _⟩
  have RW : Hid ((((w4.setCell ⟨gz, 0, none⟩ (.int .i64 (X1 : Int))).setCell ⟨gz, 1, none⟩ (.int .i64 (X2 : Int))).setCell ⟨gz, 2, none⟩ (.int .i64 (X3 : Int))).heap[gz]? = some (.cells #[.int .i64 (X1 : Int), .int .i64 (X2 : Int), .int .i64 (X3 : Int)] 23 (0, 0))) := by
    have h := set_blk (set_blk (set_blk kb4.out.2 0 (.int .i64 (X1 : Int))) 1 (.int .i64 (X2 : Int))) 2 (.int .i64 (X3 : Int))
    show _ = _
    simpa using h
  go_wp2
  refine bodyPost_ret (results_cell_row (p := 2) (ty := 23) (by rfl) _ _ gz 23 _ (0, 0) _ (by rfl) RW.out Tryd.underlying23 rfl (by kernel_rfl)) rfl ?_
  exact ⟨rfl, FIN.out⟩
end Go.Proofs.YtoegfckafnlknaaDoor
