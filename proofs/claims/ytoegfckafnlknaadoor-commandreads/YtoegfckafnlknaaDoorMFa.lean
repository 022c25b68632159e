import Derived.Test.YtoegfckafnlknaaDoorMCg
import Derived.Test.YtoegfckafnlknaaDoorMYd
import Derived.Defers
import Derived.Recover
/- Fa -/
/- The command's reader: what it reads, or the panic by which it gives up; what the deferred closure does then. -/
namespace Go.Proofs.YtoegfckafnlknaaDoor
open Go.ChangeShapes Go.WideShapes Go.ChangeAt Go.RowKit
set_option maxRecDepth 20000
set_option linter.unusedVariables false
set_option linter.unusedSimpArgs false
theorem need_ok (w : World) : Calls Tryd.prog 73 #[.nilIface] w fun e w' => e = .returned (.tuple #[]) ∧ w' = w := by
  go_enter Tryd.func73, Tryd.ntmps73
  go_wp2
  go_end0
  exact ⟨rfl, rfl⟩
theorem need_bad (x : Addr) (w : World) : Calls Tryd.prog 73 #[er x] w fun e w' => e = .panicked [{ v := er x, recovered := false }] ∧ w' = w := by
  go_enter Tryd.func73, Tryd.ntmps73
  go_wp2
  first
    | exact bodyPost_panic rfl ⟨rfl, rfl⟩
    | exact ⟨rfl, rfl, rfl⟩
    | exact ⟨rfl, rfl⟩
    | simp [bodyPost]
/- a number -/
theorem numR_ok {w : World} {g B : Nat} {M : Nat → Prop} {a : Option Addr} {n c : Nat} {l : List Nat} {p N q : Nat} {z : Int} {E : Nat → Addr} (hR : Hid (Rdr w g B a n c l p)) (hz2 : z ≤ 9223372036854775807) (hE : Hid (Sent w M E)) (hM : M 1) (hr : Hid (rdN l p z = (N, 0, q))) :
    Calls Tryd.prog 75 #[.agg #[.pointer (some ⟨g, 0, none⟩)], .int .i64 z] w fun e w' => e = .returned (.int .i64 (N : Int)) ∧ Hid (Rdr w' g B a n c l q ∧ Wfr w w' g none) := by
  obtain ⟨gb, Hgb⟩ : ∃ g, Hid (w.heap.size = g) := ⟨_, rfl⟩
  obtain ⟨w1, Hw1⟩ : ∃ w1, Hid (w.alloc (.cells #[.pointer (some ⟨g, 0, none⟩)] 75) = w1) := ⟨_, rfl⟩
  have b1 : Hid (Below w.heap.size w w1) := by rw [← Hw1.out]; exact alloc1 w _
  have R1 : Hid (Rdr w1 g B a n c l p) := hR.out.below b1.out
  have E1 : Hid (Sent w1 M E) := hE.out.below b1.out
  have k1 : w1.heap[gb]? = some (.cells #[.pointer (some ⟨g, 0, none⟩)] 75 (0, 0)) := by rw [← Hw1.out, ← Hgb.out]; exact heap_alloc_new w _
  have x0 : w1.cell? ⟨gb, 0, none⟩ = some (.pointer (some ⟨g, 0, none⟩)) := by simp [World.cell?, k1]
  go_enter Tryd.func75, Tryd.ntmps75
  go_upto_region 1 with (fail)
  rw [Hw1.out, Hgb.out]
  go_upto_region 2 with (go_at_call 87; refine (rnum_any R1 hz2 E1 hM).mono ?_; rintro e w2 ⟨k, v, rfl, H2⟩)
  obtain ⟨rfl, rfl, H3⟩ : k = N ∧ v = .nilIface ∧ Hid (Rdr w2 g B a n c l q ∧ Wfr w1 w2 g none) := by
    have h := H2.out
    rw [hr.out] at h
    exact ⟨h.1, h.2.1, h.2.2⟩
  go_wp2_with (go_at_call 73; refine (need_ok _).mono ?_; rintro e w0 ⟨rfl, h0⟩; rw [h0]; clear h0)
  go_ret
  refine ⟨rfl, H3.out.1, ?_⟩
  have h := H3.out.2
  rw [← Hw1.out] at h
  exact wfr_alloc h
theorem numR_bad {w : World} {g B : Nat} {M : Nat → Prop} {a : Option Addr} {n c : Nat} {l : List Nat} {p N q : Nat} {z : Int} {E : Nat → Addr} (hR : Hid (Rdr w g B a n c l p)) (hz2 : z ≤ 9223372036854775807) (hE : Hid (Sent w M E)) (hM : M 1) (hr : Hid (rdN l p z = (N, 5, q))) :
    Calls Tryd.prog 75 #[.agg #[.pointer (some ⟨g, 0, none⟩)], .int .i64 z] w fun e w' => e = .panicked [{ v := er (E 1), recovered := false }] ∧ Hid (Wfr w w' g none) := by
  obtain ⟨gb, Hgb⟩ : ∃ g, Hid (w.heap.size = g) := ⟨_, rfl⟩
  obtain ⟨w1, Hw1⟩ : ∃ w1, Hid (w.alloc (.cells #[.pointer (some ⟨g, 0, none⟩)] 75) = w1) := ⟨_, rfl⟩
  have b1 : Hid (Below w.heap.size w w1) := by rw [← Hw1.out]; exact alloc1 w _
  have R1 : Hid (Rdr w1 g B a n c l p) := hR.out.below b1.out
  have E1 : Hid (Sent w1 M E) := hE.out.below b1.out
  have k1 : w1.heap[gb]? = some (.cells #[.pointer (some ⟨g, 0, none⟩)] 75 (0, 0)) := by rw [← Hw1.out, ← Hgb.out]; exact heap_alloc_new w _
  have x0 : w1.cell? ⟨gb, 0, none⟩ = some (.pointer (some ⟨g, 0, none⟩)) := by simp [World.cell?, k1]
  go_enter Tryd.func75, Tryd.ntmps75
  go_upto_region 1 with (fail)
  rw [Hw1.out, Hgb.out]
  go_upto_region 2 with (go_at_call 87; refine (rnum_any R1 hz2 E1 hM).mono ?_; rintro e w2 ⟨k, v, rfl, H2⟩)
  obtain ⟨rfl, rfl, H3⟩ : k = N ∧ v = er (E 1) ∧ Hid (Rdr w2 g B a n c l q ∧ Wfr w1 w2 g none) := by
    have h := H2.out
    rw [hr.out] at h
    exact ⟨h.1, h.2.1, h.2.2⟩
  go_wp2_with (go_at_call 73; refine (need_bad _ _).mono ?_; rintro e w0 ⟨rfl, h0⟩; rw [h0]; clear h0)
  have F : Hid (Wfr w w2 g none) := by
    have h := H3.out.2
    rw [← Hw1.out] at h
    exact wfr_alloc h
  first
    | exact bodyPost_panic rfl ⟨rfl, F.out⟩
    | exact ⟨rfl, rfl, F.out⟩
    | exact ⟨rfl, F.out⟩
    | (simp [bodyPost]; exact F.out)
end Go.Proofs.YtoegfckafnlknaaDoor

/- Fb -/
/- The command's reader: texts. -/
namespace Go.Proofs.YtoegfckafnlknaaDoor
open Go.ChangeShapes Go.WideShapes Go.ChangeAt Go.RowKit
set_option maxRecDepth 20000
set_option linter.unusedVariables false
set_option linter.unusedSimpArgs false
/- a text -/
theorem textR_ok {w : World} {g B : Nat} {M : Nat → Prop} {a : Option Addr} {n c : Nat} {l : List Nat} {L : List Nat} {p q : Nat} {z : Int} {E : Nat → Addr} (hR : Hid (Rdr w g B a n c l p)) (hz2 : z ≤ 9223372036854775807) (hE : Hid (Sent w M E)) (hM : M 1) (hr : Hid (rdB l p z = (L, 0, q))) :
    Calls Tryd.prog 77 #[.agg #[.pointer (some ⟨g, 0, none⟩)], .int .i64 z] w fun e w' => e = .returned (.string (spell L)) ∧ Hid (Rdr w' g B a n c l q ∧ Wfr w w' g none) := by
  obtain ⟨gb, Hgb⟩ : ∃ g, Hid (w.heap.size = g) := ⟨_, rfl⟩
  obtain ⟨w1, Hw1⟩ : ∃ w1, Hid (w.alloc (.cells #[.pointer (some ⟨g, 0, none⟩)] 75) = w1) := ⟨_, rfl⟩
  have b1 : Hid (Below w.heap.size w w1) := by rw [← Hw1.out]; exact alloc1 w _
  have R1 : Hid (Rdr w1 g B a n c l p) := hR.out.below b1.out
  have E1 : Hid (Sent w1 M E) := hE.out.below b1.out
  have k1 : w1.heap[gb]? = some (.cells #[.pointer (some ⟨g, 0, none⟩)] 75 (0, 0)) := by rw [← Hw1.out, ← Hgb.out]; exact heap_alloc_new w _
  have x0 : w1.cell? ⟨gb, 0, none⟩ = some (.pointer (some ⟨g, 0, none⟩)) := by simp [World.cell?, k1]
  go_enter Tryd.func77, Tryd.ntmps77
  go_upto_region 1 with (fail)
  rw [Hw1.out, Hgb.out]
  go_upto_region 2 with (go_at_call 88; refine (rtext_any R1 hz2 E1 hM).mono ?_; rintro e w2 ⟨k, v, rfl, H2⟩)
  obtain ⟨rfl, rfl, H3⟩ : k = spell L ∧ v = .nilIface ∧ Hid (Rdr w2 g B a n c l q ∧ Wfr w1 w2 g none) := by
    have h := H2.out
    rw [hr.out] at h
    exact ⟨h.1, h.2.1, h.2.2⟩
  go_wp2_with (go_at_call 73; refine (need_ok _).mono ?_; rintro e w0 ⟨rfl, h0⟩; rw [h0]; clear h0)
  go_ret
  refine ⟨rfl, H3.out.1, ?_⟩
  have h := H3.out.2
  rw [← Hw1.out] at h
  exact wfr_alloc h
theorem textR_bad {w : World} {g B : Nat} {M : Nat → Prop} {a : Option Addr} {n c : Nat} {l : List Nat} {L : List Nat} {p q : Nat} {z : Int} {E : Nat → Addr} (hR : Hid (Rdr w g B a n c l p)) (hz2 : z ≤ 9223372036854775807) (hE : Hid (Sent w M E)) (hM : M 1) (hr : Hid (rdB l p z = (L, 5, q))) :
    Calls Tryd.prog 77 #[.agg #[.pointer (some ⟨g, 0, none⟩)], .int .i64 z] w fun e w' => e = .panicked [{ v := er (E 1), recovered := false }] ∧ Hid (Wfr w w' g none) := by
  obtain ⟨gb, Hgb⟩ : ∃ g, Hid (w.heap.size = g) := ⟨_, rfl⟩
  obtain ⟨w1, Hw1⟩ : ∃ w1, Hid (w.alloc (.cells #[.pointer (some ⟨g, 0, none⟩)] 75) = w1) := ⟨_, rfl⟩
  have b1 : Hid (Below w.heap.size w w1) := by rw [← Hw1.out]; exact alloc1 w _
  have R1 : Hid (Rdr w1 g B a n c l p) := hR.out.below b1.out
  have E1 : Hid (Sent w1 M E) := hE.out.below b1.out
  have k1 : w1.heap[gb]? = some (.cells #[.pointer (some ⟨g, 0, none⟩)] 75 (0, 0)) := by rw [← Hw1.out, ← Hgb.out]; exact heap_alloc_new w _
  have x0 : w1.cell? ⟨gb, 0, none⟩ = some (.pointer (some ⟨g, 0, none⟩)) := by simp [World.cell?, k1]
  go_enter Tryd.func77, Tryd.ntmps77
  go_upto_region 1 with (fail)
  rw [Hw1.out, Hgb.out]
  go_upto_region 2 with (go_at_call 88; refine (rtext_any R1 hz2 E1 hM).mono ?_; rintro e w2 ⟨k, v, rfl, H2⟩)
  obtain ⟨rfl, rfl, H3⟩ : k = spell L ∧ v = er (E 1) ∧ Hid (Rdr w2 g B a n c l q ∧ Wfr w1 w2 g none) := by
    have h := H2.out
    rw [hr.out] at h
    exact ⟨h.1, h.2.1, h.2.2⟩
  go_wp2_with (go_at_call 73; refine (need_bad _ _).mono ?_; rintro e w0 ⟨rfl, h0⟩; rw [h0]; clear h0)
  have F : Hid (Wfr w w2 g none) := by
    have h := H3.out.2
    rw [← Hw1.out] at h
    exact wfr_alloc h
  first
    | exact bodyPost_panic rfl ⟨rfl, F.out⟩
    | exact ⟨rfl, rfl, F.out⟩
    | exact ⟨rfl, F.out⟩
    | (simp [bodyPost]; exact F.out)
end Go.Proofs.YtoegfckafnlknaaDoor
