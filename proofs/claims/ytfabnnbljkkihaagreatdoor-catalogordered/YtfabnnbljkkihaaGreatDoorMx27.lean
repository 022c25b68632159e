import Derived.Test.YtfabnnbljkkihaaGreatDoorMxp
import Derived.Test.YtfabnnbljkkihaaGreatDoorMx26
namespace Go.Proofs.YtfabnnbljkkihaaGreatDoor
open Go.ChangeShapes Go.WideShapes Go.ChangeAt Go.RowKit
set_option maxRecDepth 20000
set_option linter.unusedVariables false
set_option linter.unusedSimpArgs false
set_option maxHeartbeats 8000000 in
theorem change_1 {K : Nat} {w : World} {A : Array Value} {x : Cx} {lo gc : Nat} {r : Ctd × Outc} (hX : Hid (A = (encX x).toArray)) (hk : x.cm.k = 1) (hlo : lo <= w.heap.size) (hcl : ∀ w1, Below w.heap.size w w1 -> Calls Tryz.prog 65 #[.pointer (some ⟨gc, 0, none⟩), .agg A] w1 fun e w' => ∃ R, e = .returned (.agg R) /\ Hid (ChR K w1 w' lo gc r R)) :
  Calls Tryz.prog 47 #[.pointer (some ⟨gc, 0, none⟩), .agg A] w fun e w' => ∃ R, e = .returned (.agg R) /\ Hid (ChR K w w' lo gc r R) := by
 have HCL : Hid (∀ w1, Below w.heap.size w w1 -> Calls Tryz.prog 65 #[.pointer (some ⟨gc, 0, none⟩), .agg A] w1 fun e w' => ∃ R, e = .returned (.agg R) /\ Hid (ChR K w1 w' lo gc r R)) := hcl
 clear hcl
 have a18 : A.size = 18 := encX_sz hX.out
 obtain ⟨w1, Hw1⟩ := nm ((w.alloc (.cells A 29)).alloc (.cells #[.int .i64 0,.string ⟨#[]⟩] 51))
 obtain ⟨g, Hg⟩ := nm (w.heap.size)
 have B1 : Hid (Below w.heap.size w w1) := by rw [<- Hw1.out]; exact alloc2 w _ _
 have kx : Hid (w1.heap[g]? = some (.cells A 29 (0, 0))) := by
  rw [<- Hw1.out, <- Hg.out]
  exact ((alloc1 (w.alloc (.cells A 29)) _).block w.heap.size (by simp)).trans (heap_alloc_new w _)
 have kr : Hid (w1.heap[g + 1]? = some (.cells #[.int .i64 0,.string ⟨#[]⟩] 51 (0, 0))) := by
  rw [<- Hw1.out, <- Hg.out]
  have e : (w.alloc (.cells A 29)).heap.size = w.heap.size + 1 := by simp
  rw [<- e]
  exact heap_alloc_new _ _
 have q1 : w1.cell? ⟨g, 0, none⟩ = some (.int .i64 1) := cell_arr kx.out (by rw [hX.out]; show some (Value.int .i64 x.cm.k) = _; rw [hk])
 go_enter Tryz.func47, Tryz.ntmps47
 go_upto_region 1 with (fail)
 rw [Hw1.out, Hg.out]
 clear Hw1
 go_wp2_with (first
  | (refine wpList_load_row (by rfl) 29 (.tmp 3) (by rfl) g (by rfl) 29 A (0, 0) _ kx.out Tryz.underlying29 rfl (info29 a18) ?_)
  | (go_at_call 65; refine (HCL.out w1 B1.out).mono ?_; rintro e w5 ⟨R, rfl, H5⟩; obtain ⟨kr5, r5, r6, RA⟩ := box_ch kr.out H5.out)
  | (refine wpList_store_row (by rfl) 51 (.tmp 4) (.tmp 11) (by rfl) (g + 1) R (by rfl) (by rfl) 51 _ kr5 r5 (by rw [r6]; rfl) RA ?_))
 refine bodyPost_ret (results_cell_row Tryz.results47 _ _ (g + 1) 51 R (0, 0) _ (by rfl) (setRow_heap _ _ _ _ _ _ kr5) Tryz.underlying51 rfl r5) rfl ?_
 exact ⟨R, rfl, ch_end hlo B1.out H5.out kr5 (by have := Hg.out; omega)⟩
set_option maxHeartbeats 8000000 in
theorem change_2 {K : Nat} {w : World} {A : Array Value} {x : Cx} {lo gc : Nat} {r : Ctd × Outc} (hX : Hid (A = (encX x).toArray)) (hk : x.cm.k = 2) (hlo : lo <= w.heap.size) (hcl : ∀ w1, Below w.heap.size w w1 -> Calls Tryz.prog 66 #[.pointer (some ⟨gc, 0, none⟩), .agg A] w1 fun e w' => ∃ R, e = .returned (.agg R) /\ Hid (ChR K w1 w' lo gc r R)) :
  Calls Tryz.prog 47 #[.pointer (some ⟨gc, 0, none⟩), .agg A] w fun e w' => ∃ R, e = .returned (.agg R) /\ Hid (ChR K w w' lo gc r R) := by
 have HCL : Hid (∀ w1, Below w.heap.size w w1 -> Calls Tryz.prog 66 #[.pointer (some ⟨gc, 0, none⟩), .agg A] w1 fun e w' => ∃ R, e = .returned (.agg R) /\ Hid (ChR K w1 w' lo gc r R)) := hcl
 clear hcl
 have a18 : A.size = 18 := encX_sz hX.out
 obtain ⟨w1, Hw1⟩ := nm ((w.alloc (.cells A 29)).alloc (.cells #[.int .i64 0,.string ⟨#[]⟩] 51))
 obtain ⟨g, Hg⟩ := nm (w.heap.size)
 have B1 : Hid (Below w.heap.size w w1) := by rw [<- Hw1.out]; exact alloc2 w _ _
 have kx : Hid (w1.heap[g]? = some (.cells A 29 (0, 0))) := by
  rw [<- Hw1.out, <- Hg.out]
  exact ((alloc1 (w.alloc (.cells A 29)) _).block w.heap.size (by simp)).trans (heap_alloc_new w _)
 have kr : Hid (w1.heap[g + 1]? = some (.cells #[.int .i64 0,.string ⟨#[]⟩] 51 (0, 0))) := by
  rw [<- Hw1.out, <- Hg.out]
  have e : (w.alloc (.cells A 29)).heap.size = w.heap.size + 1 := by simp
  rw [<- e]
  exact heap_alloc_new _ _
 have q1 : w1.cell? ⟨g, 0, none⟩ = some (.int .i64 2) := cell_arr kx.out (by rw [hX.out]; show some (Value.int .i64 x.cm.k) = _; rw [hk])
 go_enter Tryz.func47, Tryz.ntmps47
 go_upto_region 1 with (fail)
 rw [Hw1.out, Hg.out]
 clear Hw1
 go_wp2_with (first
  | (refine wpList_load_row (by rfl) 29 (.tmp 3) (by rfl) g (by rfl) 29 A (0, 0) _ kx.out Tryz.underlying29 rfl (info29 a18) ?_)
  | (go_at_call 66; refine (HCL.out w1 B1.out).mono ?_; rintro e w5 ⟨R, rfl, H5⟩; obtain ⟨kr5, r5, r6, RA⟩ := box_ch kr.out H5.out)
  | (refine wpList_store_row (by rfl) 51 (.tmp 4) (.tmp 16) (by rfl) (g + 1) R (by rfl) (by rfl) 51 _ kr5 r5 (by rw [r6]; rfl) RA ?_))
 refine bodyPost_ret (results_cell_row Tryz.results47 _ _ (g + 1) 51 R (0, 0) _ (by rfl) (setRow_heap _ _ _ _ _ _ kr5) Tryz.underlying51 rfl r5) rfl ?_
 exact ⟨R, rfl, ch_end hlo B1.out H5.out kr5 (by have := Hg.out; omega)⟩
set_option maxHeartbeats 8000000 in
theorem change_3 {K : Nat} {w : World} {A : Array Value} {x : Cx} {lo gc : Nat} {r : Ctd × Outc} (hX : Hid (A = (encX x).toArray)) (hk : x.cm.k = 3) (hlo : lo <= w.heap.size) (hcl : ∀ w1, Below w.heap.size w w1 -> Calls Tryz.prog 67 #[.pointer (some ⟨gc, 0, none⟩), .agg A, .func (.func 68) #[] #[]] w1 fun e w' => ∃ R, e = .returned (.agg R) /\ Hid (ChR K w1 w' lo gc r R)) :
  Calls Tryz.prog 47 #[.pointer (some ⟨gc, 0, none⟩), .agg A] w fun e w' => ∃ R, e = .returned (.agg R) /\ Hid (ChR K w w' lo gc r R) := by
 have HCL : Hid (∀ w1, Below w.heap.size w w1 -> Calls Tryz.prog 67 #[.pointer (some ⟨gc, 0, none⟩), .agg A, .func (.func 68) #[] #[]] w1 fun e w' => ∃ R, e = .returned (.agg R) /\ Hid (ChR K w1 w' lo gc r R)) := hcl
 clear hcl
 have a18 : A.size = 18 := encX_sz hX.out
 obtain ⟨w1, Hw1⟩ := nm ((w.alloc (.cells A 29)).alloc (.cells #[.int .i64 0,.string ⟨#[]⟩] 51))
 obtain ⟨g, Hg⟩ := nm (w.heap.size)
 have B1 : Hid (Below w.heap.size w w1) := by rw [<- Hw1.out]; exact alloc2 w _ _
 have kx : Hid (w1.heap[g]? = some (.cells A 29 (0, 0))) := by
  rw [<- Hw1.out, <- Hg.out]
  exact ((alloc1 (w.alloc (.cells A 29)) _).block w.heap.size (by simp)).trans (heap_alloc_new w _)
 have kr : Hid (w1.heap[g + 1]? = some (.cells #[.int .i64 0,.string ⟨#[]⟩] 51 (0, 0))) := by
  rw [<- Hw1.out, <- Hg.out]
  have e : (w.alloc (.cells A 29)).heap.size = w.heap.size + 1 := by simp
  rw [<- e]
  exact heap_alloc_new _ _
 have q1 : w1.cell? ⟨g, 0, none⟩ = some (.int .i64 3) := cell_arr kx.out (by rw [hX.out]; show some (Value.int .i64 x.cm.k) = _; rw [hk])
 go_enter Tryz.func47, Tryz.ntmps47
 go_upto_region 1 with (fail)
 rw [Hw1.out, Hg.out]
 clear Hw1
 go_wp2_with (first
  | (refine wpList_load_row (by rfl) 29 (.tmp 3) (by rfl) g (by rfl) 29 A (0, 0) _ kx.out Tryz.underlying29 rfl (info29 a18) ?_)
  | (go_at_call 67; refine (HCL.out w1 B1.out).mono ?_; rintro e w5 ⟨R, rfl, H5⟩; obtain ⟨kr5, r5, r6, RA⟩ := box_ch kr.out H5.out)
  | (refine wpList_store_row (by rfl) 51 (.tmp 4) (.tmp 21) (by rfl) (g + 1) R (by rfl) (by rfl) 51 _ kr5 r5 (by rw [r6]; rfl) RA ?_))
 refine bodyPost_ret (results_cell_row Tryz.results47 _ _ (g + 1) 51 R (0, 0) _ (by rfl) (setRow_heap _ _ _ _ _ _ kr5) Tryz.underlying51 rfl r5) rfl ?_
 exact ⟨R, rfl, ch_end hlo B1.out H5.out kr5 (by have := Hg.out; omega)⟩
set_option maxHeartbeats 8000000 in
theorem change_4 {K : Nat} {w : World} {A : Array Value} {x : Cx} {lo gc : Nat} {r : Ctd × Outc} (hX : Hid (A = (encX x).toArray)) (hk : x.cm.k = 4) (hlo : lo <= w.heap.size) (hcl : ∀ w1, Below w.heap.size w w1 -> Calls Tryz.prog 67 #[.pointer (some ⟨gc, 0, none⟩), .agg A, .func (.func 69) #[] #[]] w1 fun e w' => ∃ R, e = .returned (.agg R) /\ Hid (ChR K w1 w' lo gc r R)) :
  Calls Tryz.prog 47 #[.pointer (some ⟨gc, 0, none⟩), .agg A] w fun e w' => ∃ R, e = .returned (.agg R) /\ Hid (ChR K w w' lo gc r R) := by
 have HCL : Hid (∀ w1, Below w.heap.size w w1 -> Calls Tryz.prog 67 #[.pointer (some ⟨gc, 0, none⟩), .agg A, .func (.func 69) #[] #[]] w1 fun e w' => ∃ R, e = .returned (.agg R) /\ Hid (ChR K w1 w' lo gc r R)) := hcl
 clear hcl
 have a18 : A.size = 18 := encX_sz hX.out
 obtain ⟨w1, Hw1⟩ := nm ((w.alloc (.cells A 29)).alloc (.cells #[.int .i64 0,.string ⟨#[]⟩] 51))
 obtain ⟨g, Hg⟩ := nm (w.heap.size)
 have B1 : Hid (Below w.heap.size w w1) := by rw [<- Hw1.out]; exact alloc2 w _ _
 have kx : Hid (w1.heap[g]? = some (.cells A 29 (0, 0))) := by
  rw [<- Hw1.out, <- Hg.out]
  exact ((alloc1 (w.alloc (.cells A 29)) _).block w.heap.size (by simp)).trans (heap_alloc_new w _)
 have kr : Hid (w1.heap[g + 1]? = some (.cells #[.int .i64 0,.string ⟨#[]⟩] 51 (0, 0))) := by
  rw [<- Hw1.out, <- Hg.out]
  have e : (w.alloc (.cells A 29)).heap.size = w.heap.size + 1 := by simp
  rw [<- e]
  exact heap_alloc_new _ _
 have q1 : w1.cell? ⟨g, 0, none⟩ = some (.int .i64 4) := cell_arr kx.out (by rw [hX.out]; show some (Value.int .i64 x.cm.k) = _; rw [hk])
 go_enter Tryz.func47, Tryz.ntmps47
 go_upto_region 1 with (fail)
 rw [Hw1.out, Hg.out]
 clear Hw1
 go_wp2_with (first
  | (refine wpList_load_row (by rfl) 29 (.tmp 3) (by rfl) g (by rfl) 29 A (0, 0) _ kx.out Tryz.underlying29 rfl (info29 a18) ?_)
  | (go_at_call 67; refine (HCL.out w1 B1.out).mono ?_; rintro e w5 ⟨R, rfl, H5⟩; obtain ⟨kr5, r5, r6, RA⟩ := box_ch kr.out H5.out)
  | (refine wpList_store_row (by rfl) 51 (.tmp 4) (.tmp 26) (by rfl) (g + 1) R (by rfl) (by rfl) 51 _ kr5 r5 (by rw [r6]; rfl) RA ?_))
 refine bodyPost_ret (results_cell_row Tryz.results47 _ _ (g + 1) 51 R (0, 0) _ (by rfl) (setRow_heap _ _ _ _ _ _ kr5) Tryz.underlying51 rfl r5) rfl ?_
 exact ⟨R, rfl, ch_end hlo B1.out H5.out kr5 (by have := Hg.out; omega)⟩
set_option maxHeartbeats 8000000 in
theorem change_5 {K : Nat} {w : World} {A : Array Value} {x : Cx} {lo gc : Nat} {r : Ctd × Outc} (hX : Hid (A = (encX x).toArray)) (hk : x.cm.k = 5) (hlo : lo <= w.heap.size) (hcl : ∀ w1, Below w.heap.size w w1 -> Calls Tryz.prog 67 #[.pointer (some ⟨gc, 0, none⟩), .agg A, .func (.func 70) #[] #[]] w1 fun e w' => ∃ R, e = .returned (.agg R) /\ Hid (ChR K w1 w' lo gc r R)) :
  Calls Tryz.prog 47 #[.pointer (some ⟨gc, 0, none⟩), .agg A] w fun e w' => ∃ R, e = .returned (.agg R) /\ Hid (ChR K w w' lo gc r R) := by
 have HCL : Hid (∀ w1, Below w.heap.size w w1 -> Calls Tryz.prog 67 #[.pointer (some ⟨gc, 0, none⟩), .agg A, .func (.func 70) #[] #[]] w1 fun e w' => ∃ R, e = .returned (.agg R) /\ Hid (ChR K w1 w' lo gc r R)) := hcl
 clear hcl
 have a18 : A.size = 18 := encX_sz hX.out
 obtain ⟨w1, Hw1⟩ := nm ((w.alloc (.cells A 29)).alloc (.cells #[.int .i64 0,.string ⟨#[]⟩] 51))
 obtain ⟨g, Hg⟩ := nm (w.heap.size)
 have B1 : Hid (Below w.heap.size w w1) := by rw [<- Hw1.out]; exact alloc2 w _ _
 have kx : Hid (w1.heap[g]? = some (.cells A 29 (0, 0))) := by
  rw [<- Hw1.out, <- Hg.out]
  exact ((alloc1 (w.alloc (.cells A 29)) _).block w.heap.size (by simp)).trans (heap_alloc_new w _)
 have kr : Hid (w1.heap[g + 1]? = some (.cells #[.int .i64 0,.string ⟨#[]⟩] 51 (0, 0))) := by
  rw [<- Hw1.out, <- Hg.out]
  have e : (w.alloc (.cells A 29)).heap.size = w.heap.size + 1 := by simp
  rw [<- e]
  exact heap_alloc_new _ _
 have q1 : w1.cell? ⟨g, 0, none⟩ = some (.int .i64 5) := cell_arr kx.out (by rw [hX.out]; show some (Value.int .i64 x.cm.k) = _; rw [hk])
 go_enter Tryz.func47, Tryz.ntmps47
 go_upto_region 1 with (fail)
 rw [Hw1.out, Hg.out]
 clear Hw1
 go_wp2_with (first
  | (refine wpList_load_row (by rfl) 29 (.tmp 3) (by rfl) g (by rfl) 29 A (0, 0) _ kx.out Tryz.underlying29 rfl (info29 a18) ?_)
  | (go_at_call 67; refine (HCL.out w1 B1.out).mono ?_; rintro e w5 ⟨R, rfl, H5⟩; obtain ⟨kr5, r5, r6, RA⟩ := box_ch kr.out H5.out)
  | (refine wpList_store_row (by rfl) 51 (.tmp 4) (.tmp 31) (by rfl) (g + 1) R (by rfl) (by rfl) 51 _ kr5 r5 (by rw [r6]; rfl) RA ?_))
 refine bodyPost_ret (results_cell_row Tryz.results47 _ _ (g + 1) 51 R (0, 0) _ (by rfl) (setRow_heap _ _ _ _ _ _ kr5) Tryz.underlying51 rfl r5) rfl ?_
 exact ⟨R, rfl, ch_end hlo B1.out H5.out kr5 (by have := Hg.out; omega)⟩
set_option maxHeartbeats 8000000 in
theorem change_6 {K : Nat} {w : World} {A : Array Value} {x : Cx} {lo gc : Nat} {r : Ctd × Outc} (hX : Hid (A = (encX x).toArray)) (hk : x.cm.k = 6) (hlo : lo <= w.heap.size) (hcl : ∀ w1, Below w.heap.size w w1 -> Calls Tryz.prog 71 #[.pointer (some ⟨gc, 0, none⟩), .agg A, .func (.func 72) #[] #[]] w1 fun e w' => ∃ R, e = .returned (.agg R) /\ Hid (ChR K w1 w' lo gc r R)) :
  Calls Tryz.prog 47 #[.pointer (some ⟨gc, 0, none⟩), .agg A] w fun e w' => ∃ R, e = .returned (.agg R) /\ Hid (ChR K w w' lo gc r R) := by
 have HCL : Hid (∀ w1, Below w.heap.size w w1 -> Calls Tryz.prog 71 #[.pointer (some ⟨gc, 0, none⟩), .agg A, .func (.func 72) #[] #[]] w1 fun e w' => ∃ R, e = .returned (.agg R) /\ Hid (ChR K w1 w' lo gc r R)) := hcl
 clear hcl
 have a18 : A.size = 18 := encX_sz hX.out
 obtain ⟨w1, Hw1⟩ := nm ((w.alloc (.cells A 29)).alloc (.cells #[.int .i64 0,.string ⟨#[]⟩] 51))
 obtain ⟨g, Hg⟩ := nm (w.heap.size)
 have B1 : Hid (Below w.heap.size w w1) := by rw [<- Hw1.out]; exact alloc2 w _ _
 have kx : Hid (w1.heap[g]? = some (.cells A 29 (0, 0))) := by
  rw [<- Hw1.out, <- Hg.out]
  exact ((alloc1 (w.alloc (.cells A 29)) _).block w.heap.size (by simp)).trans (heap_alloc_new w _)
 have kr : Hid (w1.heap[g + 1]? = some (.cells #[.int .i64 0,.string ⟨#[]⟩] 51 (0, 0))) := by
  rw [<- Hw1.out, <- Hg.out]
  have e : (w.alloc (.cells A 29)).heap.size = w.heap.size + 1 := by simp
  rw [<- e]
  exact heap_alloc_new _ _
 have q1 : w1.cell? ⟨g, 0, none⟩ = some (.int .i64 6) := cell_arr kx.out (by rw [hX.out]; show some (Value.int .i64 x.cm.k) = _; rw [hk])
 go_enter Tryz.func47, Tryz.ntmps47
 go_upto_region 1 with (fail)
 rw [Hw1.out, Hg.out]
 clear Hw1
 go_wp2_with (first
  | (refine wpList_load_row (by rfl) 29 (.tmp 3) (by rfl) g (by rfl) 29 A (0, 0) _ kx.out Tryz.underlying29 rfl (info29 a18) ?_)
  | (go_at_call 71; refine (HCL.out w1 B1.out).mono ?_; rintro e w5 ⟨R, rfl, H5⟩; obtain ⟨kr5, r5, r6, RA⟩ := box_ch kr.out H5.out)
  | (refine wpList_store_row (by rfl) 51 (.tmp 4) (.tmp 36) (by rfl) (g + 1) R (by rfl) (by rfl) 51 _ kr5 r5 (by rw [r6]; rfl) RA ?_))
 refine bodyPost_ret (results_cell_row Tryz.results47 _ _ (g + 1) 51 R (0, 0) _ (by rfl) (setRow_heap _ _ _ _ _ _ kr5) Tryz.underlying51 rfl r5) rfl ?_
 exact ⟨R, rfl, ch_end hlo B1.out H5.out kr5 (by have := Hg.out; omega)⟩
set_option maxHeartbeats 8000000 in
theorem change_7 {K : Nat} {w : World} {A : Array Value} {x : Cx} {lo gc : Nat} {r : Ctd × Outc} (hX : Hid (A = (encX x).toArray)) (hk : x.cm.k = 7) (hlo : lo <= w.heap.size) (hcl : ∀ w1, Below w.heap.size w w1 -> Calls Tryz.prog 71 #[.pointer (some ⟨gc, 0, none⟩), .agg A, .func (.func 73) #[] #[]] w1 fun e w' => ∃ R, e = .returned (.agg R) /\ Hid (ChR K w1 w' lo gc r R)) :
  Calls Tryz.prog 47 #[.pointer (some ⟨gc, 0, none⟩), .agg A] w fun e w' => ∃ R, e = .returned (.agg R) /\ Hid (ChR K w w' lo gc r R) := by
 have HCL : Hid (∀ w1, Below w.heap.size w w1 -> Calls Tryz.prog 71 #[.pointer (some ⟨gc, 0, none⟩), .agg A, .func (.func 73) #[] #[]] w1 fun e w' => ∃ R, e = .returned (.agg R) /\ Hid (ChR K w1 w' lo gc r R)) := hcl
 clear hcl
 have a18 : A.size = 18 := encX_sz hX.out
 obtain ⟨w1, Hw1⟩ := nm ((w.alloc (.cells A 29)).alloc (.cells #[.int .i64 0,.string ⟨#[]⟩] 51))
 obtain ⟨g, Hg⟩ := nm (w.heap.size)
 have B1 : Hid (Below w.heap.size w w1) := by rw [<- Hw1.out]; exact alloc2 w _ _
 have kx : Hid (w1.heap[g]? = some (.cells A 29 (0, 0))) := by
  rw [<- Hw1.out, <- Hg.out]
  exact ((alloc1 (w.alloc (.cells A 29)) _).block w.heap.size (by simp)).trans (heap_alloc_new w _)
 have kr : Hid (w1.heap[g + 1]? = some (.cells #[.int .i64 0,.string ⟨#[]⟩] 51 (0, 0))) := by
  rw [<- Hw1.out, <- Hg.out]
  have e : (w.alloc (.cells A 29)).heap.size = w.heap.size + 1 := by simp
  rw [<- e]
  exact heap_alloc_new _ _
 have q1 : w1.cell? ⟨g, 0, none⟩ = some (.int .i64 7) := cell_arr kx.out (by rw [hX.out]; show some (Value.int .i64 x.cm.k) = _; rw [hk])
 go_enter Tryz.func47, Tryz.ntmps47
 go_upto_region 1 with (fail)
 rw [Hw1.out, Hg.out]
 clear Hw1
 go_wp2_with (first
  | (refine wpList_load_row (by rfl) 29 (.tmp 3) (by rfl) g (by rfl) 29 A (0, 0) _ kx.out Tryz.underlying29 rfl (info29 a18) ?_)
  | (go_at_call 71; refine (HCL.out w1 B1.out).mono ?_; rintro e w5 ⟨R, rfl, H5⟩; obtain ⟨kr5, r5, r6, RA⟩ := box_ch kr.out H5.out)
  | (refine wpList_store_row (by rfl) 51 (.tmp 4) (.tmp 41) (by rfl) (g + 1) R (by rfl) (by rfl) 51 _ kr5 r5 (by rw [r6]; rfl) RA ?_))
 refine bodyPost_ret (results_cell_row Tryz.results47 _ _ (g + 1) 51 R (0, 0) _ (by rfl) (setRow_heap _ _ _ _ _ _ kr5) Tryz.underlying51 rfl r5) rfl ?_
 exact ⟨R, rfl, ch_end hlo B1.out H5.out kr5 (by have := Hg.out; omega)⟩
set_option maxHeartbeats 8000000 in
theorem change_8 {K : Nat} {w : World} {A : Array Value} {x : Cx} {lo gc : Nat} {r : Ctd × Outc} (hX : Hid (A = (encX x).toArray)) (hk : x.cm.k = 8) (hlo : lo <= w.heap.size) (hcl : ∀ w1, Below w.heap.size w w1 -> Calls Tryz.prog 71 #[.pointer (some ⟨gc, 0, none⟩), .agg A, .func (.func 74) #[] #[]] w1 fun e w' => ∃ R, e = .returned (.agg R) /\ Hid (ChR K w1 w' lo gc r R)) :
  Calls Tryz.prog 47 #[.pointer (some ⟨gc, 0, none⟩), .agg A] w fun e w' => ∃ R, e = .returned (.agg R) /\ Hid (ChR K w w' lo gc r R) := by
 have HCL : Hid (∀ w1, Below w.heap.size w w1 -> Calls Tryz.prog 71 #[.pointer (some ⟨gc, 0, none⟩), .agg A, .func (.func 74) #[] #[]] w1 fun e w' => ∃ R, e = .returned (.agg R) /\ Hid (ChR K w1 w' lo gc r R)) := hcl
 clear hcl
 have a18 : A.size = 18 := encX_sz hX.out
 obtain ⟨w1, Hw1⟩ := nm ((w.alloc (.cells A 29)).alloc (.cells #[.int .i64 0,.string ⟨#[]⟩] 51))
 obtain ⟨g, Hg⟩ := nm (w.heap.size)
 have B1 : Hid (Below w.heap.size w w1) := by rw [<- Hw1.out]; exact alloc2 w _ _
 have kx : Hid (w1.heap[g]? = some (.cells A 29 (0, 0))) := by
  rw [<- Hw1.out, <- Hg.out]
  exact ((alloc1 (w.alloc (.cells A 29)) _).block w.heap.size (by simp)).trans (heap_alloc_new w _)
 have kr : Hid (w1.heap[g + 1]? = some (.cells #[.int .i64 0,.string ⟨#[]⟩] 51 (0, 0))) := by
  rw [<- Hw1.out, <- Hg.out]
  have e : (w.alloc (.cells A 29)).heap.size = w.heap.size + 1 := by simp
  rw [<- e]
  exact heap_alloc_new _ _
 have q1 : w1.cell? ⟨g, 0, none⟩ = some (.int .i64 8) := cell_arr kx.out (by rw [hX.out]; show some (Value.int .i64 x.cm.k) = _; rw [hk])
 go_enter Tryz.func47, Tryz.ntmps47
 go_upto_region 1 with (fail)
 rw [Hw1.out, Hg.out]
 clear Hw1
 go_wp2_with (first
  | (refine wpList_load_row (by rfl) 29 (.tmp 3) (by rfl) g (by rfl) 29 A (0, 0) _ kx.out Tryz.underlying29 rfl (info29 a18) ?_)
  | (go_at_call 71; refine (HCL.out w1 B1.out).mono ?_; rintro e w5 ⟨R, rfl, H5⟩; obtain ⟨kr5, r5, r6, RA⟩ := box_ch kr.out H5.out)
  | (refine wpList_store_row (by rfl) 51 (.tmp 4) (.tmp 46) (by rfl) (g + 1) R (by rfl) (by rfl) 51 _ kr5 r5 (by rw [r6]; rfl) RA ?_))
 refine bodyPost_ret (results_cell_row Tryz.results47 _ _ (g + 1) 51 R (0, 0) _ (by rfl) (setRow_heap _ _ _ _ _ _ kr5) Tryz.underlying51 rfl r5) rfl ?_
 exact ⟨R, rfl, ch_end hlo B1.out H5.out kr5 (by have := Hg.out; omega)⟩
set_option maxHeartbeats 8000000 in
theorem change_9 {K : Nat} {w : World} {A : Array Value} {x : Cx} {lo gc : Nat} {r : Ctd × Outc} (hX : Hid (A = (encX x).toArray)) (hk : x.cm.k = 9) (hlo : lo <= w.heap.size) (hcl : ∀ w1, Below w.heap.size w w1 -> Calls Tryz.prog 67 #[.pointer (some ⟨gc, 0, none⟩), .agg A, .func (.func 75) #[] #[]] w1 fun e w' => ∃ R, e = .returned (.agg R) /\ Hid (ChR K w1 w' lo gc r R)) :
  Calls Tryz.prog 47 #[.pointer (some ⟨gc, 0, none⟩), .agg A] w fun e w' => ∃ R, e = .returned (.agg R) /\ Hid (ChR K w w' lo gc r R) := by
 have HCL : Hid (∀ w1, Below w.heap.size w w1 -> Calls Tryz.prog 67 #[.pointer (some ⟨gc, 0, none⟩), .agg A, .func (.func 75) #[] #[]] w1 fun e w' => ∃ R, e = .returned (.agg R) /\ Hid (ChR K w1 w' lo gc r R)) := hcl
 clear hcl
 have a18 : A.size = 18 := encX_sz hX.out
 obtain ⟨w1, Hw1⟩ := nm ((w.alloc (.cells A 29)).alloc (.cells #[.int .i64 0,.string ⟨#[]⟩] 51))
 obtain ⟨g, Hg⟩ := nm (w.heap.size)
 have B1 : Hid (Below w.heap.size w w1) := by rw [<- Hw1.out]; exact alloc2 w _ _
 have kx : Hid (w1.heap[g]? = some (.cells A 29 (0, 0))) := by
  rw [<- Hw1.out, <- Hg.out]
  exact ((alloc1 (w.alloc (.cells A 29)) _).block w.heap.size (by simp)).trans (heap_alloc_new w _)
 have kr : Hid (w1.heap[g + 1]? = some (.cells #[.int .i64 0,.string ⟨#[]⟩] 51 (0, 0))) := by
  rw [<- Hw1.out, <- Hg.out]
  have e : (w.alloc (.cells A 29)).heap.size = w.heap.size + 1 := by simp
  rw [<- e]
  exact heap_alloc_new _ _
 have q1 : w1.cell? ⟨g, 0, none⟩ = some (.int .i64 9) := cell_arr kx.out (by rw [hX.out]; show some (Value.int .i64 x.cm.k) = _; rw [hk])
 go_enter Tryz.func47, Tryz.ntmps47
 go_upto_region 1 with (fail)
 rw [Hw1.out, Hg.out]
 clear Hw1
 go_wp2_with (first
  | (refine wpList_load_row (by rfl) 29 (.tmp 3) (by rfl) g (by rfl) 29 A (0, 0) _ kx.out Tryz.underlying29 rfl (info29 a18) ?_)
  | (go_at_call 67; refine (HCL.out w1 B1.out).mono ?_; rintro e w5 ⟨R, rfl, H5⟩; obtain ⟨kr5, r5, r6, RA⟩ := box_ch kr.out H5.out)
  | (refine wpList_store_row (by rfl) 51 (.tmp 4) (.tmp 51) (by rfl) (g + 1) R (by rfl) (by rfl) 51 _ kr5 r5 (by rw [r6]; rfl) RA ?_))
 refine bodyPost_ret (results_cell_row Tryz.results47 _ _ (g + 1) 51 R (0, 0) _ (by rfl) (setRow_heap _ _ _ _ _ _ kr5) Tryz.underlying51 rfl r5) rfl ?_
 exact ⟨R, rfl, ch_end hlo B1.out H5.out kr5 (by have := Hg.out; omega)⟩
set_option maxHeartbeats 8000000 in
theorem change_10 {K : Nat} {w : World} {A : Array Value} {x : Cx} {lo gc : Nat} {r : Ctd × Outc} (hX : Hid (A = (encX x).toArray)) (hk : x.cm.k = 10) (hlo : lo <= w.heap.size) (hcl : ∀ w1, Below w.heap.size w w1 -> Calls Tryz.prog 76 #[.pointer (some ⟨gc, 0, none⟩), .agg A] w1 fun e w' => ∃ R, e = .returned (.agg R) /\ Hid (ChR K w1 w' lo gc r R)) :
  Calls Tryz.prog 47 #[.pointer (some ⟨gc, 0, none⟩), .agg A] w fun e w' => ∃ R, e = .returned (.agg R) /\ Hid (ChR K w w' lo gc r R) := by
 have HCL : Hid (∀ w1, Below w.heap.size w w1 -> Calls Tryz.prog 76 #[.pointer (some ⟨gc, 0, none⟩), .agg A] w1 fun e w' => ∃ R, e = .returned (.agg R) /\ Hid (ChR K w1 w' lo gc r R)) := hcl
 clear hcl
 have a18 : A.size = 18 := encX_sz hX.out
 obtain ⟨w1, Hw1⟩ := nm ((w.alloc (.cells A 29)).alloc (.cells #[.int .i64 0,.string ⟨#[]⟩] 51))
 obtain ⟨g, Hg⟩ := nm (w.heap.size)
 have B1 : Hid (Below w.heap.size w w1) := by rw [<- Hw1.out]; exact alloc2 w _ _
 have kx : Hid (w1.heap[g]? = some (.cells A 29 (0, 0))) := by
  rw [<- Hw1.out, <- Hg.out]
  exact ((alloc1 (w.alloc (.cells A 29)) _).block w.heap.size (by simp)).trans (heap_alloc_new w _)
 have kr : Hid (w1.heap[g + 1]? = some (.cells #[.int .i64 0,.string ⟨#[]⟩] 51 (0, 0))) := by
  rw [<- Hw1.out, <- Hg.out]
  have e : (w.alloc (.cells A 29)).heap.size = w.heap.size + 1 := by simp
  rw [<- e]
  exact heap_alloc_new _ _
 have q1 : w1.cell? ⟨g, 0, none⟩ = some (.int .i64 10) := cell_arr kx.out (by rw [hX.out]; show some (Value.int .i64 x.cm.k) = _; rw [hk])
 go_enter Tryz.func47, Tryz.ntmps47
 go_upto_region 1 with (fail)
 rw [Hw1.out, Hg.out]
 clear Hw1
 go_wp2_with (first
  | (refine wpList_load_row (by rfl) 29 (.tmp 3) (by rfl) g (by rfl) 29 A (0, 0) _ kx.out Tryz.underlying29 rfl (info29 a18) ?_)
  | (go_at_call 76; refine (HCL.out w1 B1.out).mono ?_; rintro e w5 ⟨R, rfl, H5⟩; obtain ⟨kr5, r5, r6, RA⟩ := box_ch kr.out H5.out)
  | (refine wpList_store_row (by rfl) 51 (.tmp 4) (.tmp 56) (by rfl) (g + 1) R (by rfl) (by rfl) 51 _ kr5 r5 (by rw [r6]; rfl) RA ?_))
 refine bodyPost_ret (results_cell_row Tryz.results47 _ _ (g + 1) 51 R (0, 0) _ (by rfl) (setRow_heap _ _ _ _ _ _ kr5) Tryz.underlying51 rfl r5) rfl ?_
 exact ⟨R, rfl, ch_end hlo B1.out H5.out kr5 (by have := Hg.out; omega)⟩
set_option maxHeartbeats 8000000 in
theorem change_11 {K : Nat} {w : World} {A : Array Value} {x : Cx} {lo gc : Nat} {r : Ctd × Outc} (hX : Hid (A = (encX x).toArray)) (hk : x.cm.k = 11) (hlo : lo <= w.heap.size) (hcl : ∀ w1, Below w.heap.size w w1 -> Calls Tryz.prog 77 #[.pointer (some ⟨gc, 0, none⟩), .agg A] w1 fun e w' => ∃ R, e = .returned (.agg R) /\ Hid (ChR K w1 w' lo gc r R)) :
  Calls Tryz.prog 47 #[.pointer (some ⟨gc, 0, none⟩), .agg A] w fun e w' => ∃ R, e = .returned (.agg R) /\ Hid (ChR K w w' lo gc r R) := by
 have HCL : Hid (∀ w1, Below w.heap.size w w1 -> Calls Tryz.prog 77 #[.pointer (some ⟨gc, 0, none⟩), .agg A] w1 fun e w' => ∃ R, e = .returned (.agg R) /\ Hid (ChR K w1 w' lo gc r R)) := hcl
 clear hcl
 have a18 : A.size = 18 := encX_sz hX.out
 obtain ⟨w1, Hw1⟩ := nm ((w.alloc (.cells A 29)).alloc (.cells #[.int .i64 0,.string ⟨#[]⟩] 51))
 obtain ⟨g, Hg⟩ := nm (w.heap.size)
 have B1 : Hid (Below w.heap.size w w1) := by rw [<- Hw1.out]; exact alloc2 w _ _
 have kx : Hid (w1.heap[g]? = some (.cells A 29 (0, 0))) := by
  rw [<- Hw1.out, <- Hg.out]
  exact ((alloc1 (w.alloc (.cells A 29)) _).block w.heap.size (by simp)).trans (heap_alloc_new w _)
 have kr : Hid (w1.heap[g + 1]? = some (.cells #[.int .i64 0,.string ⟨#[]⟩] 51 (0, 0))) := by
  rw [<- Hw1.out, <- Hg.out]
  have e : (w.alloc (.cells A 29)).heap.size = w.heap.size + 1 := by simp
  rw [<- e]
  exact heap_alloc_new _ _
 have q1 : w1.cell? ⟨g, 0, none⟩ = some (.int .i64 11) := cell_arr kx.out (by rw [hX.out]; show some (Value.int .i64 x.cm.k) = _; rw [hk])
 go_enter Tryz.func47, Tryz.ntmps47
 go_upto_region 1 with (fail)
 rw [Hw1.out, Hg.out]
 clear Hw1
 go_wp2_with (first
  | (refine wpList_load_row (by rfl) 29 (.tmp 3) (by rfl) g (by rfl) 29 A (0, 0) _ kx.out Tryz.underlying29 rfl (info29 a18) ?_)
  | (go_at_call 77; refine (HCL.out w1 B1.out).mono ?_; rintro e w5 ⟨R, rfl, H5⟩; obtain ⟨kr5, r5, r6, RA⟩ := box_ch kr.out H5.out)
  | (refine wpList_store_row (by rfl) 51 (.tmp 4) (.tmp 61) (by rfl) (g + 1) R (by rfl) (by rfl) 51 _ kr5 r5 (by rw [r6]; rfl) RA ?_))
 refine bodyPost_ret (results_cell_row Tryz.results47 _ _ (g + 1) 51 R (0, 0) _ (by rfl) (setRow_heap _ _ _ _ _ _ kr5) Tryz.underlying51 rfl r5) rfl ?_
 exact ⟨R, rfl, ch_end hlo B1.out H5.out kr5 (by have := Hg.out; omega)⟩
set_option maxHeartbeats 8000000 in
theorem change_no {K : Nat} {w : World} {A : Array Value} {x : Cx} {lo hi gc : Nat} {a : Option Addr} {n : Nat} {X : List Bkx} {fa : Option Addr} {fn fc : Nat} {F : List Idd} (hX : Hid (A = (encX x).toArray)) (hC : Hid (CtC K w lo hi a n X fa fn fc F)) (hgc : Hid (w.heap[gc]? = some (.cells #[.slice a n n,.slice fa fn fc] 58 (0, 0)))) (hlo : lo <= w.heap.size) (h1 : ¬ x.cm.k = 1) (h2 : ¬ x.cm.k = 2) (h3 : ¬ x.cm.k = 3) (h4 : ¬ x.cm.k = 4) (h5 : ¬ x.cm.k = 5) (h6 : ¬ x.cm.k = 6) (h7 : ¬ x.cm.k = 7) (h8 : ¬ x.cm.k = 8) (h9 : ¬ x.cm.k = 9) (h10 : ¬ x.cm.k = 10) (h11 : ¬ x.cm.k = 11) :
  Calls Tryz.prog 47 #[.pointer (some ⟨gc, 0, none⟩), .agg A] w fun e w' => ∃ R, e = .returned (.agg R) /\ Hid (ChR K w w' lo gc (⟨X.map Bkx.bk, F⟩, noO 8) R) := by
 obtain ⟨R, HR⟩ := nm ((#[.int .i64 8,.string ⟨#[]⟩] : Array Value))
 have a5' : (Tryz.prog.info? 51).map (·.size) = some R.size := by rw [<- HR.out]; exact outZ
 have AA : Hid (R.all (·.oneCell') = true) := (show R.all (·.oneCell') = true by rw [<- HR.out]; kernel_rfl)
 have a6' : Hid (R.size = 2) := (show R.size = 2 by rw [<- HR.out]; rfl)
 have a18 : A.size = 18 := encX_sz hX.out
 obtain ⟨w1, Hw1⟩ := nm ((w.alloc (.cells A 29)).alloc (.cells #[.int .i64 0,.string ⟨#[]⟩] 51))
 obtain ⟨g, Hg⟩ := nm (w.heap.size)
 have B1 : Hid (Below w.heap.size w w1) := by rw [<- Hw1.out]; exact alloc2 w _ _
 have kx : Hid (w1.heap[g]? = some (.cells A 29 (0, 0))) := by
  rw [<- Hw1.out, <- Hg.out]
  exact ((alloc1 (w.alloc (.cells A 29)) _).block w.heap.size (by simp)).trans (heap_alloc_new w _)
 have kr : Hid (w1.heap[g + 1]? = some (.cells #[.int .i64 0,.string ⟨#[]⟩] 51 (0, 0))) := by
  rw [<- Hw1.out, <- Hg.out]
  have e : (w.alloc (.cells A 29)).heap.size = w.heap.size + 1 := by simp
  rw [<- e]
  exact heap_alloc_new _ _
 have q1 : w1.cell? ⟨g, 0, none⟩ = some (.int .i64 x.cm.k) := cell_arr kx.out (by rw [hX.out]; rfl)
 go_enter Tryz.func47, Tryz.ntmps47
 go_upto_region 1 with (fail)
 rw [Hw1.out, Hg.out]
 clear Hw1
 go_wp2_with (first
  | (go_at_call 78; refine (refused_n 8 _).mono ?_; rintro e w7 ⟨rfl, H7⟩; rw [HR.out]; have r7 := sh H7 kr)
  | (refine wpList_store_row (by rfl) 51 (.tmp 4) (.tmp 62) (by rfl) (g + 1) R (by rfl) (by rfl) 51 _ r7.out a5' (by rw [a6'.out]; rfl) AA.out ?_))
 refine bodyPost_ret (results_cell_row Tryz.results47 _ _ (g + 1) 51 R (0, 0) _ (by rfl) (setRow_heap _ _ _ _ _ _ r7.out) Tryz.underlying51 rfl a5') rfl ?_
 refine ⟨R, rfl, ?_⟩
 have B7 : Below w.heap.size w w7 := B1.out.trans (H7.out.mono B1.out.size)
 have hg1 : w.heap.size <= g + 1 := by have := Hg.out; omega
 have B8 : Below w.heap.size w (w7.setRow (g + 1) R) := below_setRow B7 hg1 _
 exact ⟨HR.out.symm, a, n, n, X, fa, fn, fc, F, (B8.block gc (gl hgc.out)).trans hgc.out, ((hC.out.ct.below B8).up (Nat.le_succ K)).full, rfl, rfl, B8.mono hlo, K51.below B8⟩
def parG (b : Bkd) (x : Cm) (u : Uld) : Bkd × Outc := ({ b with uls := b.uls.set (plcB (byU x.u0 x.u1 x.u2) b.uls) { u with pts := setB (byP x.pt) u.pts ⟨x.pt, pcO x⟩ } }, ⟨0, x.et⟩)
def aboG (b : Bkd) (x : Cm) (u : Uld) : Bkd × Outc := ({ b with uls := outB (byU x.u0 x.u1 x.u2) b.uls }, okO)
theorem parO_eq : parO = fun b x => upO b x (parG b x) := by
 funext b x
 unfold parO upO parG
 cases upB b x <;> rfl
theorem aboO_eq : aboO = fun b x => upO b x (aboG b x) := by
 funext b x
 unfold aboO upO aboG
 cases upB b x <;> rfl
set_option maxHeartbeats 4000000 in
theorem change_n {K : Nat} {sum : List Pcd -> ByteArray} (hK : K + 1 <= 1048576) {w : World} {A : Array Value} {x : Cx} {lo hi gc : Nat} {a : Option Addr} {n : Nat} {X : List Bkx} {fa : Option Addr} {fn fc : Nat} {F : List Idd} (hX : Hid (A = (encX x).toArray)) (hT : x.cm.bu.size <= K48 /\ x.cm.ke.size <= K48 /\ x.cm.et.size <= K48) (hC : Hid (CtC K w lo hi a n X fa fn fc F)) (hk : Hid (w.heap[gc]? = some (.cells #[.slice a n n,.slice fa fn fc] 58 (0, 0)))) (hlo : lo <= w.heap.size) (hgc : lo <= gc) (hhi : hi <= w.heap.size)
  (h7 : (∀ w1, Below w.heap.size w w1 -> Calls Tryz.prog 71 #[.pointer (some ⟨gc, 0, none⟩), .agg A, .func (.func 73) #[] #[]] w1 fun e w' => ∃ R, e = .returned (.agg R) /\ Hid (ChR K w1 w' lo gc (inB ⟨X.map Bkx.bk, F⟩ x.cm (comO sum)) R)))
  (h10 : (∀ w1, Below w.heap.size w w1 -> Calls Tryz.prog 76 #[.pointer (some ⟨gc, 0, none⟩), .agg A] w1 fun e w' => ∃ R, e = .returned (.agg R) /\ Hid (ChR K w1 w' lo gc (expO ⟨X.map Bkx.bk, F⟩ x.cm) R)))
  (h11 : (∀ w1, Below w.heap.size w w1 -> Calls Tryz.prog 77 #[.pointer (some ⟨gc, 0, none⟩), .agg A] w1 fun e w' => ∃ R, e = .returned (.agg R) /\ Hid (ChR K w1 w' lo gc (flrO ⟨X.map Bkx.bk, F⟩ x.cm) R))) :
  Calls Tryz.prog 47 #[.pointer (some ⟨gc, 0, none⟩), .agg A] w fun e w' => ∃ R, e = .returned (.agg R) /\ Hid (ChR K w w' lo gc (app sum ⟨X.map Bkx.bk, F⟩ x.cm) R) := by
 have hK' : K <= 1048576 := by omega
 have CC : ∀ w1, Below w.heap.size w w1 -> Hid (CtC K w1 lo hi a n X fa fn fc F) := fun w1 hb => hC.out.below hb
 have HK : ∀ w1, Below w.heap.size w w1 -> Hid (w1.heap[gc]? = some (.cells #[.slice a n n,.slice fa fn fc] 58 (0, 0))) := fun w1 hb => (hb.block gc (gl hk.out)).trans hk.out
 unfold app
 by_cases k1 : x.cm.k = 1
 . rw [if_pos k1]
   exact change_1 hX k1 hlo (fun w1 hb => makeBucket_n hK hX hT.1 (CC w1 hb) (HK w1 hb) (Nat.le_trans hlo hb.size) hgc)
 rw [if_neg k1]
 by_cases k2 : x.cm.k = 2
 . rw [if_pos k2]
   exact change_2 hX k2 hlo (fun w1 hb => dropBucket_n hK' hX (CC w1 hb) (HK w1 hb) (Nat.le_trans hlo hb.size) hgc)
 rw [if_neg k2]
 by_cases k3 : x.cm.k = 3
 . rw [if_pos k3]
   exact change_3 hX k3 hlo (fun w1 hb => inBucket_put hK' hX (CC w1 hb) (HK w1 hb) (Nat.le_trans hlo hb.size) (fun V b i y hS hV => putObject_n hK hX hT.2 (Nat.le_trans hlo (Nat.le_trans hb.size hV.size)) (Nat.le_trans hhi (Nat.le_trans hb.size hV.size)) hS))
 rw [if_neg k3]
 by_cases k4 : x.cm.k = 4
 . rw [if_pos k4]
   exact change_4 hX k4 hlo (fun w1 hb => inBucket_del hK' hX (CC w1 hb) (HK w1 hb) (Nat.le_trans hlo hb.size) (fun V b i y hS hV => deleteObject_n hK' hX hS))
 rw [if_neg k4]
 by_cases k5 : x.cm.k = 5
 . rw [if_pos k5]
   exact change_5 hX k5 hlo (fun w1 hb => inBucket_sta hK' hX (CC w1 hb) (HK w1 hb) (Nat.le_trans hlo hb.size) (fun V b i y hS hV => startUpload_n hK hX hT.2.1 (Nat.le_trans hlo (Nat.le_trans hb.size hV.size)) (Nat.le_trans hhi (Nat.le_trans hb.size hV.size)) hS))
 rw [if_neg k5]
 by_cases k6 : x.cm.k = 6
 . rw [if_pos k6, parO_eq]
   exact change_6 hX k6 hlo (fun w1 hb => inUpload_put (G := parG) hK' hX (CC w1 hb) (HK w1 hb) (Nat.le_trans hlo hb.size) (fun V b i u p y v s1 s2 s3 s4 hV => by
    obtain rfl := s4.out
    exact putPart_n hK hX hT.2.2 (Nat.le_trans hlo (Nat.le_trans hb.size hV.size)) (Nat.le_trans hhi (Nat.le_trans hb.size hV.size)) s1 s2 s3))
 rw [if_neg k6]
 by_cases k7 : x.cm.k = 7
 . rw [if_pos k7]
   exact change_7 hX k7 hlo h7
 rw [if_neg k7]
 by_cases k8 : x.cm.k = 8
 . rw [if_pos k8, aboO_eq]
   exact change_8 hX k8 hlo (fun w1 hb => inUpload_abo (G := aboG) hK' hX (CC w1 hb) (HK w1 hb) (Nat.le_trans hlo hb.size) (fun V b i u p y v s1 s2 s3 s4 hV => abortUpload_n hK' _ hX s1))
 rw [if_neg k8]
 by_cases k9 : x.cm.k = 9
 . rw [if_pos k9]
   exact change_9 hX k9 hlo (fun w1 hb => inBucket_day hK' hX (CC w1 hb) (HK w1 hb) (Nat.le_trans hlo hb.size) (fun V b i y hS hV => setDays_n hX hS))
 rw [if_neg k9]
 by_cases k10 : x.cm.k = 10
 . rw [if_pos k10]
   exact change_10 hX k10 hlo h10
 rw [if_neg k10]
 by_cases k11 : x.cm.k = 11
 . rw [if_pos k11]
   exact change_11 hX k11 hlo h11
 rw [if_neg k11]
 exact change_no hX hC hk hlo k1 k2 k3 k4 k5 k6 k7 k8 k9 k10 k11
end Go.Proofs.YtfabnnbljkkihaaGreatDoor
