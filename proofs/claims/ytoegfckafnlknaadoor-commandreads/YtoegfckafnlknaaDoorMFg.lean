import Derived.Test.YtoegfckafnlknaaDoorMFd
/- Fg -/
/- The command's reader: readWhole, where the reading gave up. -/
namespace Go.Proofs.YtoegfckafnlknaaDoor
open Go.ChangeShapes Go.WideShapes Go.ChangeAt Go.RowKit
set_option maxRecDepth 20000
set_option linter.unusedVariables false
set_option linter.unusedSimpArgs false
set_option maxHeartbeats 2000000 in
theorem whole_bad {w : World} {a : Option Addr} {n c : Nat} {l : List Nat} {M : Nat → Prop} {E : Nat → Addr} (hS : Hid (Sln w a n l)) (hc : Hid (a = none → c = 0)) (hE : Hid (Sent w M E)) (hM : M 1)
    (H40 : Hid (∀ (W : World) (g B : Nat) (a' : Option Addr) (c' : Nat), Rdr W g B a' n c' l 0 → Sent W M E → Calls Tryd.prog 40 #[.agg #[.pointer (some ⟨g, 0, none⟩)]] W fun e w' => e = .panicked [{ v := er (E 1), recovered := false }] ∧ Hid (Wfr W w' g none))) :
    Calls Tryd.prog 39 #[.slice a n c, .func (.func 40) #[] #[]] w fun e w' => e = .returned (.tuple #[.agg #[.int .i64 0, .int .i64 0, .int .i64 0, .int .i64 0, .string ⟨#[]⟩, .string ⟨#[]⟩, .int .i64 0, .int .i64 0, .int .i64 0, .int .i64 0, .int .i64 0, .int .i64 0, .int .i64 0, .string ⟨#[]⟩, .int .i64 0, .slice none 0 0, .int .i64 0, .int .i64 0], er (E 1)]) ∧ Hid (Below w.heap.size w w') := by
  have hmf : ∀ (fn : Fn) (first cap : Array Value) (w : World), (Instr.makeFunc fn first cap).run Tryd.prog w = .ok (.func fn first cap) w := fun _ _ _ _ => rfl
  obtain ⟨g4, Hg4⟩ : ∃ g, Hid (w.heap.size = g) := ⟨_, rfl⟩
  obtain ⟨g5, Hg5⟩ : ∃ g, Hid (w.heap.size + 1 = g) := ⟨_, rfl⟩
  obtain ⟨w1, Hw1⟩ : ∃ w1, Hid ((w.alloc (.cells #[.int .i64 0, .int .i64 0, .int .i64 0, .int .i64 0, .string ⟨#[]⟩, .string ⟨#[]⟩, .int .i64 0, .int .i64 0, .int .i64 0, .int .i64 0, .int .i64 0, .int .i64 0, .int .i64 0, .string ⟨#[]⟩, .int .i64 0, .slice none 0 0, .int .i64 0, .int .i64 0] 28)).alloc (.cells #[.nilIface] 33) = w1) := ⟨_, rfl⟩
  have B1 : Hid (Below w.heap.size w w1) := by rw [← Hw1.out]; exact alloc2 w _ _
  have S1 : Hid (Sln w1 a n l) := hS.out.below B1.out
  have E1 : Hid (Sent w1 M E) := hE.out.below B1.out
  have K1 : Hid (w1.heap[g4]? = some (.cells #[.int .i64 0, .int .i64 0, .int .i64 0, .int .i64 0, .string ⟨#[]⟩, .string ⟨#[]⟩, .int .i64 0, .int .i64 0, .int .i64 0, .int .i64 0, .int .i64 0, .int .i64 0, .int .i64 0, .string ⟨#[]⟩, .int .i64 0, .slice none 0 0, .int .i64 0, .int .i64 0] 28 (0, 0)) ∧ w1.heap[g5]? = some (.cells #[.nilIface] 33 (0, 0)) ∧ w1.heap.size = g5 + 1) := by
    rw [← Hw1.out, ← Hg4.out, ← Hg5.out]
    refine ⟨((alloc1 _ _).block w.heap.size (by simp)).trans (heap_alloc_new w _), ?_, by simp⟩
    have h := heap_alloc_new (w.alloc (.cells #[.int .i64 0, .int .i64 0, .int .i64 0, .int .i64 0, .string ⟨#[]⟩, .string ⟨#[]⟩, .int .i64 0, .int .i64 0, .int .i64 0, .int .i64 0, .int .i64 0, .int .i64 0, .int .i64 0, .string ⟨#[]⟩, .int .i64 0, .slice none 0 0, .int .i64 0, .int .i64 0] 28)) (.cells #[.nilIface] 33)
    simpa using h
  go_enter_defers Tryd.func39, Tryd.ntmps39
  go_upto_region 2 with (fail)
  rw [Hw1.out, Hg5.out, Hg4.out]
  go_upto_region 3 with (go_at_call 72; refine (newReader_n S1 hc).mono ?_; rintro e w2 ⟨g, a2, c2, rfl, H2⟩)
  obtain ⟨g6, Hg6⟩ : ∃ g, Hid (w2.heap.size = g) := ⟨_, rfl⟩
  obtain ⟨w3, Hw3⟩ : ∃ w3, Hid (w2.alloc (.cells #[.pointer (some ⟨g, 0, none⟩)] 75) = w3) := ⟨_, rfl⟩
  have b3 : Hid (Below w2.heap.size w2 w3) := by rw [← Hw3.out]; exact alloc1 w2 _
  have B13 : Hid (Below w1.heap.size w1 w3) := H2.out.2.2.trans (b3.out.mono H2.out.2.2.size)
  have R3 : Hid (Rdr w3 g w1.heap.size a2 n c2 l 0) := H2.out.1.below b3.out
  have E3 : Hid (Sent w3 M E) := E1.out.below B13.out
  have x6 : w3.cell? ⟨g6, 0, none⟩ = some (.pointer (some ⟨g, 0, none⟩)) := by
    have h : w3.heap[g6]? = some (.cells #[.pointer (some ⟨g, 0, none⟩)] 75 (0, 0)) := by rw [← Hw3.out, ← Hg6.out]; exact heap_alloc_new w2 _
    simp [World.cell?, h]
  have K3 : Hid (w3.heap[g4]? = some (.cells #[.int .i64 0, .int .i64 0, .int .i64 0, .int .i64 0, .string ⟨#[]⟩, .string ⟨#[]⟩, .int .i64 0, .int .i64 0, .int .i64 0, .int .i64 0, .int .i64 0, .int .i64 0, .int .i64 0, .string ⟨#[]⟩, .int .i64 0, .slice none 0 0, .int .i64 0, .int .i64 0] 28 (0, 0)) ∧ w3.heap[g5]? = some (.cells #[.nilIface] 33 (0, 0)) ∧ g4 ≠ g ∧ g5 ≠ g) := by
    have h0 := H2.out.2.1
    have h1 := K1.out.2.2
    have h2 := Hg4.out
    have h3 := Hg5.out
    exact ⟨(B13.out.block g4 (by omega)).trans K1.out.1, (B13.out.block g5 (by omega)).trans K1.out.2.1, by omega, by omega⟩
  rw [Hw3.out, Hg6.out]
  go_wp2_with (go_at_call 40; refine (H40.out w3 g _ a2 c2 R3.out E3.out).mono ?_; rintro e w4 ⟨rfl, H4⟩)
  have K4 : Hid (w4.heap[g4]? = some (.cells #[.int .i64 0, .int .i64 0, .int .i64 0, .int .i64 0, .string ⟨#[]⟩, .string ⟨#[]⟩, .int .i64 0, .int .i64 0, .int .i64 0, .int .i64 0, .int .i64 0, .int .i64 0, .int .i64 0, .string ⟨#[]⟩, .int .i64 0, .slice none 0 0, .int .i64 0, .int .i64 0] 28 (0, 0)) ∧ w4.heap[g5]? = some (.cells #[.nilIface] 33 (0, 0))) := ⟨box_wfr K3.out.1 K3.out.2.2.1 H4.out, box_wfr K3.out.2.1 K3.out.2.2.2 H4.out⟩
  have B4 : Hid (Below w.heap.size w w4) := by
    have h := Wfr.below (B := w.heap.size) (B1.out.trans (B13.out.mono B1.out.size)) H4.out (by have := H2.out.2.1; have := B1.out.size; omega) (by simp [blkOf]) (Nat.le_trans B1.out.size B13.out.size)
    exact h
  refine leaves_cons (f := 71) (args := #[.pointer (some ⟨g5, 0, none⟩)]) (by simp) (by simp [go_sem]) ?_
  refine (ctch_bad ⟨g5, 0, none⟩ (E 1) .nilIface [] _ ?_ ?_).mono ?_
  · simp [World.cell?, K4.out.2]
  · exact fz K4.out.2 0
  rintro e u' w'' ⟨rfl, rfl, rfl⟩
  obtain ⟨w5, Hw5⟩ : ∃ w5, Hid (w4.setCell ⟨g5, 0, none⟩ (er (E 1)) = w5) := ⟨_, rfl⟩
  rw [Hw5.out]
  have B5 : Hid (Below w.heap.size w w5) := by
    rw [← Hw5.out]
    exact B4.out.setCell (by have := Hg5.out; show w.heap.size ≤ g5; omega) _
  have h4 : w5.heap[g4]? = some (.cells #[.int .i64 0, .int .i64 0, .int .i64 0, .int .i64 0, .string ⟨#[]⟩, .string ⟨#[]⟩, .int .i64 0, .int .i64 0, .int .i64 0, .int .i64 0, .int .i64 0, .int .i64 0, .int .i64 0, .string ⟨#[]⟩, .int .i64 0, .slice none 0 0, .int .i64 0, .int .i64 0] 28 (0, 0)) := by rw [← Hw5.out]; exact (heap_setCell_other w4 ⟨g5, 0, none⟩ g4 _ (by have h1 := Hg4.out; have h2 := Hg5.out; show g4 ≠ g5; omega)).trans K4.out.1
  have h5 : w5.heap[g5]? = some (.cells #[er (E 1)] 33 (0, 0)) := by rw [← Hw5.out, set_blk K4.out.2]; rfl
  have c5 : w5.cell? ⟨g5, 0, none⟩ = some (er (E 1)) := by simp [World.cell?, h5]
  clear H40 K1 K3 K4 R3 E3 x6 H4 H2 hmf
  simp only [Leaves, settle]
  have z : ∀ (j : Nat) (v : Value), (#[.int .i64 0, .int .i64 0, .int .i64 0, .int .i64 0, .string ⟨#[]⟩, .string ⟨#[]⟩, .int .i64 0, .int .i64 0, .int .i64 0, .int .i64 0, .int .i64 0, .int .i64 0, .int .i64 0, .string ⟨#[]⟩, .int .i64 0, .slice none 0 0, .int .i64 0, .int .i64 0] : Array Value)[j]? = some v → w5.cell? ⟨g4, j, none⟩ = some v := fun j v hj => by simp only [World.cell?, h4]; exact hj
  have z0 := z 0 _ rfl
  have z1 := z 1 _ rfl
  have z2 := z 2 _ rfl
  have z3 := z 3 _ rfl
  have z4 := z 4 _ rfl
  have z5 := z 5 _ rfl
  have z6 := z 6 _ rfl
  have z7 := z 7 _ rfl
  have z8 := z 8 _ rfl
  have z9 := z 9 _ rfl
  have z10 := z 10 _ rfl
  have z11 := z 11 _ rfl
  have z12 := z 12 _ rfl
  have z13 := z 13 _ rfl
  have z14 := z 14 _ rfl
  have z15 := z 15 _ rfl
  have z16 := z 16 _ rfl
  have z17 := z 17 _ rfl
  simp [Leaves, settle, results, Tryd.results39, go_sem, c5, z0, z1, z2, z3, z4, z5, z6, z7, z8, z9, z10, z11, z12, z13, z14, z15, z16, z17]
  first
    | done
    | exact B5.out
    | trace_state
end Go.Proofs.YtoegfckafnlknaaDoor
