import Derived.Test.YtppibcambhmomaaDoorPp
import Derived.Test.YtppibcambhmomaaDoorP12
import Derived.Test.YtppibcambhmomaaDoorP15
namespace Go.Proofs.YtppibcambhmomaaDoor
open Go.ChangeShapes Go.WideShapes Go.ChangeAt Go.RowKit
set_option maxRecDepth 20000
set_option linter.unusedVariables false
set_option linter.unusedSimpArgs false
set_option maxHeartbeats 2000000 in
theorem whole_bad {w : World} {a : Option Addr} {n c : Nat} {l : List Nat} {M : Nat -> Prop} {E : Nat -> Addr} (hS : Hid (Sln w a n l)) (hc : Hid (a = none -> c = 0)) (hE : Hid (Sent w M E)) (hM : M 1)
  (H40 : Hid (∀ (W : World) (g B : Nat) (a' : Option Addr) (c' : Nat), Rdr W g B a' n c' l 0 -> Sent W M E -> Calls Tryd.prog 100 #[.agg #[.pointer (some ⟨g, 0, none⟩)]] W fun e w' => e = .panicked [{ v := er (E 1), recovered := false }] /\ Hid (Wfr W w' g none))) :
  Calls Tryd.prog 99 #[.slice a n c, .func (.func 100) #[] #[]] w fun e w' => e = .returned (.tuple #[.agg #[.int .i64 0,.int .i64 0,.int .i64 0,.int .i64 0,.string ⟨#[]⟩,.string ⟨#[]⟩,.int .i64 0,.int .i64 0,.int .i64 0,.int .i64 0,.int .i64 0,.int .i64 0,.int .i64 0,.string ⟨#[]⟩,.int .i64 0,.slice none 0 0,.int .i64 0,.int .i64 0], er (E 1)]) /\ Hid (Below w.heap.size w w') := by
 have hmf : ∀ (fn : Fn) (first cap : Array Value) (w : World), (Instr.makeFunc fn first cap).run Tryd.prog w = .ok (.func fn first cap) w := fun _ _ _ _ => rfl
 obtain ⟨g4, Hg4⟩ := nm (w.heap.size)
 obtain ⟨g5, Hg5⟩ := nm (w.heap.size + 1)
 obtain ⟨w1, Hw1⟩ := nm ((w.alloc (.cells #[.int .i64 0,.int .i64 0,.int .i64 0,.int .i64 0,.string ⟨#[]⟩,.string ⟨#[]⟩,.int .i64 0,.int .i64 0,.int .i64 0,.int .i64 0,.int .i64 0,.int .i64 0,.int .i64 0,.string ⟨#[]⟩,.int .i64 0,.slice none 0 0,.int .i64 0,.int .i64 0] 60)).alloc (.cells #[.nilIface] 33))
 have B1 : Hid (Below w.heap.size w w1) := by rw [<- Hw1.out]; exact alloc2 w _ _
 have S1 : Hid (Sln w1 a n l) := hS.out.below B1.out
 have E1 : Hid (Sent w1 M E) := hE.out.below B1.out
 have K1 : Hid (w1.heap[g4]? = some (.cells #[.int .i64 0,.int .i64 0,.int .i64 0,.int .i64 0,.string ⟨#[]⟩,.string ⟨#[]⟩,.int .i64 0,.int .i64 0,.int .i64 0,.int .i64 0,.int .i64 0,.int .i64 0,.int .i64 0,.string ⟨#[]⟩,.int .i64 0,.slice none 0 0,.int .i64 0,.int .i64 0] 60 (0, 0)) /\ w1.heap[g5]? = some (.cells #[.nilIface] 33 (0, 0)) /\ w1.heap.size = g5 + 1) := by
  rw [<- Hw1.out, <- Hg4.out, <- Hg5.out]
  refine ⟨((alloc1 _ _).block w.heap.size (by simp)).trans (heap_alloc_new w _), ?_, by simp⟩
  have h := heap_alloc_new (w.alloc (.cells #[.int .i64 0,.int .i64 0,.int .i64 0,.int .i64 0,.string ⟨#[]⟩,.string ⟨#[]⟩,.int .i64 0,.int .i64 0,.int .i64 0,.int .i64 0,.int .i64 0,.int .i64 0,.int .i64 0,.string ⟨#[]⟩,.int .i64 0,.slice none 0 0,.int .i64 0,.int .i64 0] 60)) (.cells #[.nilIface] 33)
  simpa using h
 go_enter_defers Tryd.func99, Tryd.ntmps99
 go_upto_region 2 with (fail)
 rw [Hw1.out, Hg5.out, Hg4.out]
 go_upto_region 3 with (go_at_call 49; refine (newReader_n S1 hc).mono ?_; rintro e w2 ⟨g, a2, c2, rfl, H2⟩)
 obtain ⟨g6, Hg6⟩ := nm (w2.heap.size)
 obtain ⟨w3, Hw3⟩ := nm (w2.alloc (.cells #[.pointer (some ⟨g, 0, none⟩)] 131))
 have b3 := al1 Hw3
 have B13 : Hid (Below w1.heap.size w1 w3) := H2.out.2.2.trans (b3.out.mono H2.out.2.2.size)
 have R3 : Hid (Rdr w3 g w1.heap.size a2 n c2 l 0) := H2.out.1.below b3.out
 have E3 : Hid (Sent w3 M E) := E1.out.below B13.out
 have x6 : w3.cell? ⟨g6, 0, none⟩ = some (.pointer (some ⟨g, 0, none⟩)) := by
  have h : w3.heap[g6]? = some (.cells #[.pointer (some ⟨g, 0, none⟩)] 131 (0, 0)) := by rw [<- Hw3.out, <- Hg6.out]; exact heap_alloc_new w2 _
  simp [World.cell?, h]
 have K3 : Hid (w3.heap[g4]? = some (.cells #[.int .i64 0,.int .i64 0,.int .i64 0,.int .i64 0,.string ⟨#[]⟩,.string ⟨#[]⟩,.int .i64 0,.int .i64 0,.int .i64 0,.int .i64 0,.int .i64 0,.int .i64 0,.int .i64 0,.string ⟨#[]⟩,.int .i64 0,.slice none 0 0,.int .i64 0,.int .i64 0] 60 (0, 0)) /\ w3.heap[g5]? = some (.cells #[.nilIface] 33 (0, 0)) /\ g4 ≠ g /\ g5 ≠ g) := by
  have h0 := H2.out.2.1
  have h1 := K1.out.2.2
  have h2 := Hg4.out
  have h3 := Hg5.out
  exact ⟨(B13.out.block g4 (by omega)).trans K1.out.1, (B13.out.block g5 (by omega)).trans K1.out.2.1, by omega, by omega⟩
 rw [Hw3.out, Hg6.out]
 go_wp2_with (go_at_call 100; refine (H40.out w3 g _ a2 c2 R3.out E3.out).mono ?_; rintro e w4 ⟨rfl, H4⟩)
 have K4 : Hid (w4.heap[g4]? = some (.cells #[.int .i64 0,.int .i64 0,.int .i64 0,.int .i64 0,.string ⟨#[]⟩,.string ⟨#[]⟩,.int .i64 0,.int .i64 0,.int .i64 0,.int .i64 0,.int .i64 0,.int .i64 0,.int .i64 0,.string ⟨#[]⟩,.int .i64 0,.slice none 0 0,.int .i64 0,.int .i64 0] 60 (0, 0)) /\ w4.heap[g5]? = some (.cells #[.nilIface] 33 (0, 0))) := ⟨box_wfr K3.out.1 K3.out.2.2.1 H4.out, box_wfr K3.out.2.1 K3.out.2.2.2 H4.out⟩
 have B4 : Hid (Below w.heap.size w w4) := by
  have h := Wfr.below (B := w.heap.size) (B1.out.trans (B13.out.mono B1.out.size)) H4.out (by have := H2.out.2.1; have := B1.out.size; omega) (by simp [blkOf]) (Nat.le_trans B1.out.size B13.out.size)
  exact h
 refine leaves_cons (f := 101) (args := #[.pointer (some ⟨g5, 0, none⟩)]) (by simp) (by simp [go_sem]) ?_
 refine (ctch_bad ⟨g5, 0, none⟩ (E 1) .nilIface [] _ ?_ ?_).mono ?_
 . simp [World.cell?, K4.out.2]
 . exact fz K4.out.2 0
 rintro e u' w'' ⟨rfl, rfl, rfl⟩
 obtain ⟨w5, Hw5⟩ := nm (w4.setCell ⟨g5, 0, none⟩ (er (E 1)))
 rw [Hw5.out]
 have B5 : Hid (Below w.heap.size w w5) := by
  rw [<- Hw5.out]
  exact B4.out.setCell (by have := Hg5.out; show w.heap.size <= g5; omega) _
 have h4 : w5.heap[g4]? = some (.cells #[.int .i64 0,.int .i64 0,.int .i64 0,.int .i64 0,.string ⟨#[]⟩,.string ⟨#[]⟩,.int .i64 0,.int .i64 0,.int .i64 0,.int .i64 0,.int .i64 0,.int .i64 0,.int .i64 0,.string ⟨#[]⟩,.int .i64 0,.slice none 0 0,.int .i64 0,.int .i64 0] 60 (0, 0)) := by rw [<- Hw5.out]; exact (heap_setCell_other w4 ⟨g5, 0, none⟩ g4 _ (by have h1 := Hg4.out; have h2 := Hg5.out; show g4 ≠ g5; omega)).trans K4.out.1
 have h5 : w5.heap[g5]? = some (.cells #[er (E 1)] 33 (0, 0)) := by rw [<- Hw5.out, set_blk K4.out.2]; rfl
 have c5 : w5.cell? ⟨g5, 0, none⟩ = some (er (E 1)) := by simp [World.cell?, h5]
 clear H40 K1 K3 K4 R3 E3 x6 H4 H2 hmf
 simp only [Leaves, settle]
 have z : ∀ (j : Nat) (v : Value), (#[.int .i64 0,.int .i64 0,.int .i64 0,.int .i64 0,.string ⟨#[]⟩,.string ⟨#[]⟩,.int .i64 0,.int .i64 0,.int .i64 0,.int .i64 0,.int .i64 0,.int .i64 0,.int .i64 0,.string ⟨#[]⟩,.int .i64 0,.slice none 0 0,.int .i64 0,.int .i64 0] : Array Value)[j]? = some v -> w5.cell? ⟨g4, j, none⟩ = some v := fun j v hj => by simp only [World.cell?, h4]; exact hj
 have z0 := z 0 _ rfl
 have z1 := z 1 _ rfl
 have z2 := z 2 _ rfl
 have z3 := z 3 _ rfl
 have z4 := z 4 _ rfl
 have z5 := z 5 _ rfl
 have z6 := z 6 _ rfl
 have z7 := z 7 _ rfl
 have z8 := z 8 _ rfl
 have z9 := z 9 _ rfl
 have z10 := z 10 _ rfl
 have z11 := z 11 _ rfl
 have z12 := z 12 _ rfl
 have z13 := z 13 _ rfl
 have z14 := z 14 _ rfl
 have z15 := z 15 _ rfl
 have z16 := z 16 _ rfl
 have z17 := z 17 _ rfl
 simp [Leaves, settle, results, Tryd.results99, go_sem, c5, z0, z1, z2, z3, z4, z5, z6, z7, z8, z9, z10, z11, z12, z13, z14, z15, z16, z17]
 first
  | done
  | exact B5.out
  | trace_state
theorem info28 {A : Array Value} (h : A.size = 18) : (Tryd.prog.info? 60).map (·.size) = some A.size := by rw [h]; kernel_rfl
theorem cmdR_no {w : World} {g B : Nat} {M : Nat -> Prop} {a : Option Addr} {n c : Nat} {l : List Nat} {p : Nat} {E : Nat -> Addr} (hR : Rdr w g B a n c l p) (hE : Sent w M E) (hM : M 1) (hr : rdK l p = none) :
  Calls Tryd.prog 100 #[.agg #[.pointer (some ⟨g, 0, none⟩)]] w fun e w' => e = .panicked [{ v := er (E 1), recovered := false }] /\ Hid (Wfr w w' g none) := by
 refine (cmdR_n hR hE hM).mono ?_
 rintro e w' (⟨_, h1, h2⟩ | ⟨x, q, pa, pn, pc, h, _⟩)
 . exact ⟨h1, h2⟩
 . rw [hr] at h; cases h
theorem cmdR_yes {w : World} {g B : Nat} {M : Nat -> Prop} {a : Option Addr} {n c : Nat} {l : List Nat} {p : Nat} {E : Nat -> Addr} {x : Nm} {q : Nat} (hR : Rdr w g B a n c l p) (hE : Sent w M E) (hM : M 1) (hr : rdK l p = some (x, q)) :
  Calls Tryd.prog 100 #[.agg #[.pointer (some ⟨g, 0, none⟩)]] w fun e w' => ∃ A pa pn pc, e = .returned (.agg A) /\ Hid (A = (encX ⟨x.cm, pa, pn, pc⟩).toArray /\ A.size = 18 /\ A.all (·.oneCell') = true /\ CmO w w' g B a n c l q x pa pn pc) := by
 refine (cmdR_n hR hE hM).mono ?_
 rintro e w' (⟨h, _⟩ | ⟨x', q', pa, pn, pc, h, h1, h2⟩)
 . rw [hr] at h; cases h
 . rw [hr] at h
   cases h
   exact ⟨_, pa, pn, pc, h1, rfl, rfl, all_oneCell_toArray (encX_one _), h2⟩
theorem res39 {fn : Func} (h : fn.results = #[.cell 4 60, .cell 5 33]) (tmps : Array Value) (w : World) (g4 g5 : Nat) (A : Array Value) (v : Value) (hp4 : tmps[4]?.getD undef = .pointer (some ⟨g4, 0, none⟩)) (hp5 : tmps[5]?.getD undef = .pointer (some ⟨g5, 0, none⟩)) (hg : w.heap[g4]? = some (.cells A 60 (0, 0))) (hA : A.size = 18) (h5 : w.cell? ⟨g5, 0, none⟩ = some v) : (results fn tmps).run Tryd.prog w = .ok (.tuple #[.agg A, v]) w := by
 have h5' : (loadVar 33 ⟨g5, 0, none⟩).run Tryd.prog w = .ok v w := by simp [go_sem, h5]
 simp [results, h, hp4, hp5, asAddr, run_loadVar_row w g4 60 60 A (0, 0) _ hg Tryd.underlying60 rfl (info28 hA), h5']
theorem res15 {fn : Func} (h : fn.results = #[.cell 2 60, .tmp 3]) (tmps : Array Value) (w : World) (g2 : Nat) (A : Array Value) (v : Value) (hp2 : tmps[2]?.getD undef = .pointer (some ⟨g2, 0, none⟩)) (hp3 : tmps[3]?.getD undef = v) (hg : w.heap[g2]? = some (.cells A 60 (0, 0))) (hA : A.size = 18) : (results fn tmps).run Tryd.prog w = .ok (.tuple #[.agg A, v]) w := by
 simp [results, h, hp2, hp3, asAddr, run_loadVar_row w g2 60 60 A (0, 0) _ hg Tryd.underlying60 rfl (info28 hA)]
def GtR (w w' : World) (E : Nat -> Addr) (l : List Nat) (e : Ending) : Prop :=
 (rdG l = none /\ e = .returned (.tuple #[.agg #[.int .i64 0,.int .i64 0,.int .i64 0,.int .i64 0,.string ⟨#[]⟩,.string ⟨#[]⟩,.int .i64 0,.int .i64 0,.int .i64 0,.int .i64 0,.int .i64 0,.int .i64 0,.int .i64 0,.string ⟨#[]⟩,.int .i64 0,.slice none 0 0,.int .i64 0,.int .i64 0], er (E 1)]) /\ Below w.heap.size w w') ∨ (∃ x pa pn pc, rdG l = some x /\ e = .returned (.tuple #[.agg (encX ⟨x.cm, pa, pn, pc⟩).toArray, .nilIface]) /\ Below w.heap.size w w' /\ w'.ownsRow w.heap.size 3 1 (.slice pa pn pc) pn (x.cm.ps.map iv) /\ pn <= 16)
theorem whole_none {w : World} {a : Option Addr} {n c : Nat} {l : List Nat} {M : Nat -> Prop} {E : Nat -> Addr} (hS : Hid (Sln w a n l)) (hc : Hid (a = none -> c = 0)) (hE : Hid (Sent w M E)) (hM : M 1) (hr : rdK l 0 = none) :
  Calls Tryd.prog 99 #[.slice a n c, .func (.func 100) #[] #[]] w fun e w' => GtR w w' E l e := by
 refine (whole_bad hS hc hE hM (show Hid _ from fun W g B a' c' hR hE' => cmdR_no hR hE' hM hr)).mono ?_
 rintro e w' ⟨h1, h2⟩
 exact .inl ⟨by rw [rdG_eq, hr]; rfl, h1, h2.out⟩
set_option maxHeartbeats 2000000 in
theorem whole_yes {w : World} {a : Option Addr} {n c : Nat} {l : List Nat} {M : Nat -> Prop} {E : Nat -> Addr} {x : Nm} {q : Nat} (hS : Hid (Sln w a n l)) (hc : Hid (a = none -> c = 0)) (hE : Hid (Sent w M E)) (hM : M 1) (hr : Hid (rdK l 0 = some (x, q))) (hq : Hid (q = n)) :
  Calls Tryd.prog 99 #[.slice a n c, .func (.func 100) #[] #[]] w fun e w' => GtR w w' E l e := by
 have hmf : ∀ (fn : Fn) (first cap : Array Value) (w : World), (Instr.makeFunc fn first cap).run Tryd.prog w = .ok (.func fn first cap) w := fun _ _ _ _ => rfl
 obtain ⟨g4, Hg4⟩ := nm (w.heap.size)
 obtain ⟨g5, Hg5⟩ := nm (w.heap.size + 1)
 obtain ⟨w1, Hw1⟩ := nm ((w.alloc (.cells #[.int .i64 0,.int .i64 0,.int .i64 0,.int .i64 0,.string ⟨#[]⟩,.string ⟨#[]⟩,.int .i64 0,.int .i64 0,.int .i64 0,.int .i64 0,.int .i64 0,.int .i64 0,.int .i64 0,.string ⟨#[]⟩,.int .i64 0,.slice none 0 0,.int .i64 0,.int .i64 0] 60)).alloc (.cells #[.nilIface] 33))
 have B1 : Hid (Below w.heap.size w w1) := by rw [<- Hw1.out]; exact alloc2 w _ _
 have S1 : Hid (Sln w1 a n l) := hS.out.below B1.out
 have E1 : Hid (Sent w1 M E) := hE.out.below B1.out
 have K1 : Hid (w1.heap[g4]? = some (.cells #[.int .i64 0,.int .i64 0,.int .i64 0,.int .i64 0,.string ⟨#[]⟩,.string ⟨#[]⟩,.int .i64 0,.int .i64 0,.int .i64 0,.int .i64 0,.int .i64 0,.int .i64 0,.int .i64 0,.string ⟨#[]⟩,.int .i64 0,.slice none 0 0,.int .i64 0,.int .i64 0] 60 (0, 0)) /\ w1.heap[g5]? = some (.cells #[.nilIface] 33 (0, 0)) /\ w1.heap.size = g5 + 1) := by
  rw [<- Hw1.out, <- Hg4.out, <- Hg5.out]
  refine ⟨((alloc1 _ _).block w.heap.size (by simp)).trans (heap_alloc_new w _), ?_, by simp⟩
  have h := heap_alloc_new (w.alloc (.cells #[.int .i64 0,.int .i64 0,.int .i64 0,.int .i64 0,.string ⟨#[]⟩,.string ⟨#[]⟩,.int .i64 0,.int .i64 0,.int .i64 0,.int .i64 0,.int .i64 0,.int .i64 0,.int .i64 0,.string ⟨#[]⟩,.int .i64 0,.slice none 0 0,.int .i64 0,.int .i64 0] 60)) (.cells #[.nilIface] 33)
  rwa [show (w.alloc (.cells #[.int .i64 0,.int .i64 0,.int .i64 0,.int .i64 0,.string ⟨#[]⟩,.string ⟨#[]⟩,.int .i64 0,.int .i64 0,.int .i64 0,.int .i64 0,.int .i64 0,.int .i64 0,.int .i64 0,.string ⟨#[]⟩,.int .i64 0,.slice none 0 0,.int .i64 0,.int .i64 0] 60)).heap.size = w.heap.size + 1 by simp] at h
 go_enter_defers Tryd.func99, Tryd.ntmps99
 go_upto_region 2 with (fail)
 rw [Hw1.out, Hg5.out, Hg4.out]
 go_upto_region 3 with (go_at_call 49; refine (newReader_n S1 hc).mono ?_; rintro e w2 ⟨g, a2, c2, rfl, H2⟩)
 obtain ⟨g6, Hg6⟩ := nm (w2.heap.size)
 obtain ⟨w3, Hw3⟩ := nm (w2.alloc (.cells #[.pointer (some ⟨g, 0, none⟩)] 131))
 have b3 := al1 Hw3
 have B13 : Hid (Below w1.heap.size w1 w3) := H2.out.2.2.trans (b3.out.mono H2.out.2.2.size)
 have R3 : Hid (Rdr w3 g w1.heap.size a2 n c2 l 0) := H2.out.1.below b3.out
 have E3 : Hid (Sent w3 M E) := E1.out.below B13.out
 have k6 : Hid (w3.heap[g6]? = some (.cells #[.pointer (some ⟨g, 0, none⟩)] 131 (0, 0))) := by rw [<- Hw3.out, <- Hg6.out]; exact heap_alloc_new w2 _
 have x6 : w3.cell? ⟨g6, 0, none⟩ = some (.pointer (some ⟨g, 0, none⟩)) := by simp [World.cell?, k6.out]
 have K3 : Hid (w3.heap[g4]? = some (.cells #[.int .i64 0,.int .i64 0,.int .i64 0,.int .i64 0,.string ⟨#[]⟩,.string ⟨#[]⟩,.int .i64 0,.int .i64 0,.int .i64 0,.int .i64 0,.int .i64 0,.int .i64 0,.int .i64 0,.string ⟨#[]⟩,.int .i64 0,.slice none 0 0,.int .i64 0,.int .i64 0] 60 (0, 0)) /\ w3.heap[g5]? = some (.cells #[.nilIface] 33 (0, 0)) /\ g4 ≠ g /\ g5 ≠ g /\ g6 ≠ g /\ w.heap.size <= g) := by
  have h0 := H2.out.2.1
  have h1 := K1.out.2.2
  have h2 := Hg4.out
  have h3 := Hg5.out
  have h4 := Hg6.out
  have h5 := H2.out.1.lt
  exact ⟨(B13.out.block g4 (by omega)).trans K1.out.1, (B13.out.block g5 (by omega)).trans K1.out.2.1, by omega, by omega, by omega, by omega⟩
 have W3 : Hid (w.heap.size <= w3.heap.size) := Nat.le_trans B1.out.size B13.out.size
 have Bw3 := bt B1 B13
 rw [Hw3.out, Hg6.out]
 clear K1 b3 H2 S1 E1 B13 Hw3 Hw1
 go_upto_region 4 with first
  | (go_at_call 100; refine (cmdR_yes R3.out E3.out hM hr.out).mono ?_; rintro e w4 ⟨A, pa, pn, pc, rfl, H4⟩)
  | (refine wpList_store_row (by rfl) 60 (.tmp 7) (.tmp 14) (by rfl) w4.heap.size A (by rfl) (by rfl) 60 _ (heap_alloc_new w4 _) (info28 H4.out.2.1) H4.out.2.1.symm H4.out.2.2.1 ?_)
 obtain ⟨g7, Hg7⟩ := nm (w4.heap.size)
 rw [Hg7.out]
 obtain ⟨w5, Hw5⟩ := nm ((w4.alloc (.cells #[.int .i64 0,.int .i64 0,.int .i64 0,.int .i64 0,.string ⟨#[]⟩,.string ⟨#[]⟩,.int .i64 0,.int .i64 0,.int .i64 0,.int .i64 0,.int .i64 0,.int .i64 0,.int .i64 0,.string ⟨#[]⟩,.int .i64 0,.slice none 0 0,.int .i64 0,.int .i64 0] 60)).setRow g7 A)
 have B45 : Hid (Below w4.heap.size w4 w5) := by rw [<- Hw5.out, <- Hg7.out]; exact below_setRow (alloc1 w4 _) (Nat.le_refl _) A
 have k7 : Hid (w5.heap[g7]? = some (.cells A 60 (0, 0))) := by rw [<- Hw5.out, <- Hg7.out]; exact setRow_heap _ _ _ _ _ _ (heap_alloc_new w4 _)
 have R5 : Hid (Rdr w5 g w1.heap.size a2 n c2 l q) := H4.out.2.2.2.rdr.below B45.out
 have F5 : Hid (Wfr w3 w5 g none) := H4.out.2.2.2.fr.none_trans (wfr_below g B45.out)
 have E5 : Hid (Sent w5 M E) := sent_rdr E3.out R3.out R5.out F5.out
 have K5 : Hid (w5.heap[g4]? = some (.cells #[.int .i64 0,.int .i64 0,.int .i64 0,.int .i64 0,.string ⟨#[]⟩,.string ⟨#[]⟩,.int .i64 0,.int .i64 0,.int .i64 0,.int .i64 0,.int .i64 0,.int .i64 0,.int .i64 0,.string ⟨#[]⟩,.int .i64 0,.slice none 0 0,.int .i64 0,.int .i64 0] 60 (0, 0)) /\ w5.heap[g5]? = some (.cells #[.nilIface] 33 (0, 0)) /\ w5.heap[g6]? = some (.cells #[.pointer (some ⟨g, 0, none⟩)] 131 (0, 0))) := ⟨box_wfr K3.out.1 K3.out.2.2.1 F5.out, box_wfr K3.out.2.1 K3.out.2.2.2.1 F5.out, box_wfr k6.out K3.out.2.2.2.2.1 F5.out⟩
 have OW : Hid (w5.ownsRow w.heap.size 3 1 (.slice pa pn pc) pn (x.cm.ps.map iv)) := rown_mono (rown_bel H4.out.2.2.2.row (fun b hb => B45.out.block b (H4.out.2.2.2.row.lt b hb).2)) W3.out
 have PN : Hid (pn <= 16) := H4.out.2.2.2.ln
 have A1 : Hid (A = (encX ⟨x.cm, pa, pn, pc⟩).toArray) := H4.out.1
 have A2 : Hid (A.size = 18 /\ A.all (·.oneCell') = true) := ⟨H4.out.2.1, H4.out.2.2.1⟩
 have BW : Hid (Below w.heap.size w w5) := Wfr.below Bw3.out F5.out K3.out.2.2.2.2.2 (by simp [blkOf]) W3.out
 have RGE : Hid (∀ b, blkOf pa = some b -> w3.heap.size <= b) := fun b hb => (H4.out.2.2.2.row.lt b (by rw [ownBlock_slice]; exact hb)).1
 have L45 : Hid (g4 < w3.heap.size /\ g5 < w3.heap.size /\ g4 ≠ g5 /\ w.heap.size <= g4 /\ w.heap.size <= g5 /\ g4 ≠ g7 /\ g5 ≠ g7) := by
  have h1 := (gl K3.out.1)
  have h2 := (gl K3.out.2.1)
  have h3 := H4.out.2.2.2.fr.size
  have := Hg4.out
  have := Hg5.out
  have := Hg7.out
  exact ⟨h1, h2, by omega, by omega, by omega, by omega, by omega⟩
 rw [Hw5.out]
 clear x6 H4 K3 k6 Hw5 B45 Hg7 R3 E3 F5 Bw3
 have x6 : w5.cell? ⟨g6, 0, none⟩ = some (.pointer (some ⟨g, 0, none⟩)) := by simp [World.cell?, K5.out.2.2]
 go_upto_region 5 with first
  | (go_at_call 51; refine (end_ok R5 hq).mono ?_; rintro e w6 ⟨rfl, H6⟩)
  | (go_at_call 95; refine (need_ok _).mono ?_; rintro e w0 ⟨rfl, h0⟩; rw [h0]; clear h0)
 have B6 : Hid (Below w5.heap.size w5 w6) := by obtain ⟨j, hj⟩ := H6.out; rw [hj]; exact below_drewN (Below.refl _ _) j
 have k7' : Hid (w6.heap[g7]? = some (.cells A 60 (0, 0))) := (B6.out.block g7 (gl k7.out)).trans k7.out
 have K6 : Hid (w6.heap[g4]? = some (.cells #[.int .i64 0,.int .i64 0,.int .i64 0,.int .i64 0,.string ⟨#[]⟩,.string ⟨#[]⟩,.int .i64 0,.int .i64 0,.int .i64 0,.int .i64 0,.int .i64 0,.int .i64 0,.int .i64 0,.string ⟨#[]⟩,.int .i64 0,.slice none 0 0,.int .i64 0,.int .i64 0] 60 (0, 0)) /\ w6.heap[g5]? = some (.cells #[.nilIface] 33 (0, 0))) := ⟨(B6.out.block g4 (gl K5.out.1)).trans K5.out.1, (B6.out.block g5 (gl K5.out.2.1)).trans K5.out.2.1⟩
 have OW6 : Hid (w6.ownsRow w.heap.size 3 1 (.slice pa pn pc) pn (x.cm.ps.map iv)) := rown_bel OW.out (fun b hb => B6.out.block b (OW.out.lt b hb).2)
 have BW6 := bt BW B6
 clear x6 k7 K5 OW BW R5 E5 B6 H6
 have c5 : (w6.setRow g4 A).cell? ⟨g5, 0, none⟩ = some .nilIface := by rw [cell_setRow_other _ _ _ _ (show g5 ≠ g4 from Ne.symm L45.out.2.2.1)]; simp [World.cell?, K6.out.2]
 have k5 : (w6.setRow g4 A).heap[g5]? = some (.cells #[.nilIface] 33 (0, 0)) := (setRow_other _ _ _ _ (Ne.symm L45.out.2.2.1)).trans K6.out.2
 have f5 : (w6.setRow g4 A).frozen? ⟨g5, 0, none⟩ = false := fz k5 0
 go_wp2_with (refine wpList_load_row (by rfl) 60 (.tmp 7) (by rfl) g7 (by rfl) 60 A (0, 0) _ k7'.out Tryd.underlying60 rfl (info28 A2.out.1) ?_; refine wpList_store_row (by rfl) 60 (.tmp 4) (.tmp 19) (by rfl) g4 A (by rfl) (by rfl) 60 _ K6.out.1 (info28 A2.out.1) A2.out.1.symm A2.out.2 ?_)
 obtain ⟨w8, Hw8⟩ := nm ((w6.setRow g4 A).setCell ⟨g5, 0, none⟩ .nilIface)
 have h4 : w8.heap[g4]? = some (.cells A 60 (0, 0)) := by rw [<- Hw8.out]; exact (heap_setCell_other _ ⟨g5, 0, none⟩ g4 _ L45.out.2.2.1).trans (setRow_heap _ _ _ _ _ _ K6.out.1)
 have h5 : w8.heap[g5]? = some (.cells #[.nilIface] 33 (0, 0)) := by rw [<- Hw8.out, set_blk k5]; rfl
 have c8 : w8.cell? ⟨g5, 0, none⟩ = some .nilIface := by simp [World.cell?, h5]
 have B8 : Hid (Below w.heap.size w w8) := by
  rw [<- Hw8.out]
  exact (below_setRow BW6.out L45.out.2.2.2.1 A).setCell (show w.heap.size <= g5 from L45.out.2.2.2.2.1) _
 have O8 : Hid (w8.ownsRow w.heap.size 3 1 (.slice pa pn pc) pn (x.cm.ps.map iv)) := by
  rw [<- Hw8.out]
  refine rown_bel OW6.out (fun b hb => ?_)
  rw [ownBlock_slice] at hb
  have h := RGE.out b hb
  exact (heap_setCell_other _ ⟨g5, 0, none⟩ b _ (by show b ≠ g5; have := L45.out.2.1; omega)).trans (setRow_other _ _ _ _ (by have := L45.out.1; omega))
 try rw [Hw8.out]
 refine leaves_cons (f := 101) (args := #[.pointer (some ⟨g5, 0, none⟩)]) (by simp) (by simp [go_sem]) ?_
 refine (ctch_idle ⟨g5, 0, none⟩ _).mono ?_
 rintro e u' w'' ⟨rfl, rfl, rfl⟩
 simp only [Leaves, settle]
 refine ⟨_, res39 Tryd.results99 _ _ g4 g5 A .nilIface (by rfl) (by rfl) h4 A2.out.1 c8, ?_⟩
 refine .inr ⟨x, pa, pn, pc, ?_, by rw [A1.out], B8.out, O8.out, PN.out⟩
 rw [rdG_eq, hr.out, Option.bind_some]
 exact if_pos (by have h := hS.out.len; have h2 := hq.out; simp only at h2 ⊢; omega)
set_option maxHeartbeats 2000000 in
theorem whole_left {w : World} {a : Option Addr} {n c : Nat} {l : List Nat} {M : Nat -> Prop} {E : Nat -> Addr} {x : Nm} {q : Nat} (hS : Hid (Sln w a n l)) (hc : Hid (a = none -> c = 0)) (hE : Hid (Sent w M E)) (hM : M 1) (hr : Hid (rdK l 0 = some (x, q))) (hq : Hid (q < n)) :
  Calls Tryd.prog 99 #[.slice a n c, .func (.func 100) #[] #[]] w fun e w' => GtR w w' E l e := by
 have hmf : ∀ (fn : Fn) (first cap : Array Value) (w : World), (Instr.makeFunc fn first cap).run Tryd.prog w = .ok (.func fn first cap) w := fun _ _ _ _ => rfl
 obtain ⟨g4, Hg4⟩ := nm (w.heap.size)
 obtain ⟨g5, Hg5⟩ := nm (w.heap.size + 1)
 obtain ⟨w1, Hw1⟩ := nm ((w.alloc (.cells #[.int .i64 0,.int .i64 0,.int .i64 0,.int .i64 0,.string ⟨#[]⟩,.string ⟨#[]⟩,.int .i64 0,.int .i64 0,.int .i64 0,.int .i64 0,.int .i64 0,.int .i64 0,.int .i64 0,.string ⟨#[]⟩,.int .i64 0,.slice none 0 0,.int .i64 0,.int .i64 0] 60)).alloc (.cells #[.nilIface] 33))
 have B1 : Hid (Below w.heap.size w w1) := by rw [<- Hw1.out]; exact alloc2 w _ _
 have S1 : Hid (Sln w1 a n l) := hS.out.below B1.out
 have E1 : Hid (Sent w1 M E) := hE.out.below B1.out
 have K1 : Hid (w1.heap[g4]? = some (.cells #[.int .i64 0,.int .i64 0,.int .i64 0,.int .i64 0,.string ⟨#[]⟩,.string ⟨#[]⟩,.int .i64 0,.int .i64 0,.int .i64 0,.int .i64 0,.int .i64 0,.int .i64 0,.int .i64 0,.string ⟨#[]⟩,.int .i64 0,.slice none 0 0,.int .i64 0,.int .i64 0] 60 (0, 0)) /\ w1.heap[g5]? = some (.cells #[.nilIface] 33 (0, 0)) /\ w1.heap.size = g5 + 1) := by
  rw [<- Hw1.out, <- Hg4.out, <- Hg5.out]
  refine ⟨((alloc1 _ _).block w.heap.size (by simp)).trans (heap_alloc_new w _), ?_, by simp⟩
  have h := heap_alloc_new (w.alloc (.cells #[.int .i64 0,.int .i64 0,.int .i64 0,.int .i64 0,.string ⟨#[]⟩,.string ⟨#[]⟩,.int .i64 0,.int .i64 0,.int .i64 0,.int .i64 0,.int .i64 0,.int .i64 0,.int .i64 0,.string ⟨#[]⟩,.int .i64 0,.slice none 0 0,.int .i64 0,.int .i64 0] 60)) (.cells #[.nilIface] 33)
  rwa [show (w.alloc (.cells #[.int .i64 0,.int .i64 0,.int .i64 0,.int .i64 0,.string ⟨#[]⟩,.string ⟨#[]⟩,.int .i64 0,.int .i64 0,.int .i64 0,.int .i64 0,.int .i64 0,.int .i64 0,.int .i64 0,.string ⟨#[]⟩,.int .i64 0,.slice none 0 0,.int .i64 0,.int .i64 0] 60)).heap.size = w.heap.size + 1 by simp] at h
 go_enter_defers Tryd.func99, Tryd.ntmps99
 go_upto_region 2 with (fail)
 rw [Hw1.out, Hg5.out, Hg4.out]
 go_upto_region 3 with (go_at_call 49; refine (newReader_n S1 hc).mono ?_; rintro e w2 ⟨g, a2, c2, rfl, H2⟩)
 obtain ⟨g6, Hg6⟩ := nm (w2.heap.size)
 obtain ⟨w3, Hw3⟩ := nm (w2.alloc (.cells #[.pointer (some ⟨g, 0, none⟩)] 131))
 have b3 := al1 Hw3
 have B13 : Hid (Below w1.heap.size w1 w3) := H2.out.2.2.trans (b3.out.mono H2.out.2.2.size)
 have R3 : Hid (Rdr w3 g w1.heap.size a2 n c2 l 0) := H2.out.1.below b3.out
 have E3 : Hid (Sent w3 M E) := E1.out.below B13.out
 have k6 : Hid (w3.heap[g6]? = some (.cells #[.pointer (some ⟨g, 0, none⟩)] 131 (0, 0))) := by rw [<- Hw3.out, <- Hg6.out]; exact heap_alloc_new w2 _
 have x6 : w3.cell? ⟨g6, 0, none⟩ = some (.pointer (some ⟨g, 0, none⟩)) := by simp [World.cell?, k6.out]
 have K3 : Hid (w3.heap[g4]? = some (.cells #[.int .i64 0,.int .i64 0,.int .i64 0,.int .i64 0,.string ⟨#[]⟩,.string ⟨#[]⟩,.int .i64 0,.int .i64 0,.int .i64 0,.int .i64 0,.int .i64 0,.int .i64 0,.int .i64 0,.string ⟨#[]⟩,.int .i64 0,.slice none 0 0,.int .i64 0,.int .i64 0] 60 (0, 0)) /\ w3.heap[g5]? = some (.cells #[.nilIface] 33 (0, 0)) /\ g4 ≠ g /\ g5 ≠ g /\ g6 ≠ g /\ w.heap.size <= g) := by
  have h0 := H2.out.2.1
  have h1 := K1.out.2.2
  have h2 := Hg4.out
  have h3 := Hg5.out
  have h4 := Hg6.out
  have h5 := H2.out.1.lt
  exact ⟨(B13.out.block g4 (by omega)).trans K1.out.1, (B13.out.block g5 (by omega)).trans K1.out.2.1, by omega, by omega, by omega, by omega⟩
 have W3 : Hid (w.heap.size <= w3.heap.size) := Nat.le_trans B1.out.size B13.out.size
 have Bw3 := bt B1 B13
 rw [Hw3.out, Hg6.out]
 clear K1 b3 H2 S1 E1 B13 Hw3 Hw1
 go_upto_region 4 with first
  | (go_at_call 100; refine (cmdR_yes R3.out E3.out hM hr.out).mono ?_; rintro e w4 ⟨A, pa, pn, pc, rfl, H4⟩)
  | (refine wpList_store_row (by rfl) 60 (.tmp 7) (.tmp 14) (by rfl) w4.heap.size A (by rfl) (by rfl) 60 _ (heap_alloc_new w4 _) (info28 H4.out.2.1) H4.out.2.1.symm H4.out.2.2.1 ?_)
 obtain ⟨g7, Hg7⟩ := nm (w4.heap.size)
 rw [Hg7.out]
 obtain ⟨w5, Hw5⟩ := nm ((w4.alloc (.cells #[.int .i64 0,.int .i64 0,.int .i64 0,.int .i64 0,.string ⟨#[]⟩,.string ⟨#[]⟩,.int .i64 0,.int .i64 0,.int .i64 0,.int .i64 0,.int .i64 0,.int .i64 0,.int .i64 0,.string ⟨#[]⟩,.int .i64 0,.slice none 0 0,.int .i64 0,.int .i64 0] 60)).setRow g7 A)
 have B45 : Hid (Below w4.heap.size w4 w5) := by rw [<- Hw5.out, <- Hg7.out]; exact below_setRow (alloc1 w4 _) (Nat.le_refl _) A
 have k7 : Hid (w5.heap[g7]? = some (.cells A 60 (0, 0))) := by rw [<- Hw5.out, <- Hg7.out]; exact setRow_heap _ _ _ _ _ _ (heap_alloc_new w4 _)
 have R5 : Hid (Rdr w5 g w1.heap.size a2 n c2 l q) := H4.out.2.2.2.rdr.below B45.out
 have F5 : Hid (Wfr w3 w5 g none) := H4.out.2.2.2.fr.none_trans (wfr_below g B45.out)
 have E5 : Hid (Sent w5 M E) := sent_rdr E3.out R3.out R5.out F5.out
 have K5 : Hid (w5.heap[g4]? = some (.cells #[.int .i64 0,.int .i64 0,.int .i64 0,.int .i64 0,.string ⟨#[]⟩,.string ⟨#[]⟩,.int .i64 0,.int .i64 0,.int .i64 0,.int .i64 0,.int .i64 0,.int .i64 0,.int .i64 0,.string ⟨#[]⟩,.int .i64 0,.slice none 0 0,.int .i64 0,.int .i64 0] 60 (0, 0)) /\ w5.heap[g5]? = some (.cells #[.nilIface] 33 (0, 0)) /\ w5.heap[g6]? = some (.cells #[.pointer (some ⟨g, 0, none⟩)] 131 (0, 0))) := ⟨box_wfr K3.out.1 K3.out.2.2.1 F5.out, box_wfr K3.out.2.1 K3.out.2.2.2.1 F5.out, box_wfr k6.out K3.out.2.2.2.2.1 F5.out⟩
 have OW : Hid (w5.ownsRow w.heap.size 3 1 (.slice pa pn pc) pn (x.cm.ps.map iv)) := rown_mono (rown_bel H4.out.2.2.2.row (fun b hb => B45.out.block b (H4.out.2.2.2.row.lt b hb).2)) W3.out
 have PN : Hid (pn <= 16) := H4.out.2.2.2.ln
 have A1 : Hid (A = (encX ⟨x.cm, pa, pn, pc⟩).toArray) := H4.out.1
 have A2 : Hid (A.size = 18 /\ A.all (·.oneCell') = true) := ⟨H4.out.2.1, H4.out.2.2.1⟩
 have BW : Hid (Below w.heap.size w w5) := Wfr.below Bw3.out F5.out K3.out.2.2.2.2.2 (by simp [blkOf]) W3.out
 have RGE : Hid (∀ b, blkOf pa = some b -> w3.heap.size <= b) := fun b hb => (H4.out.2.2.2.row.lt b (by rw [ownBlock_slice]; exact hb)).1
 have L45 : Hid (g4 < w3.heap.size /\ g5 < w3.heap.size /\ g4 ≠ g5 /\ w.heap.size <= g4 /\ w.heap.size <= g5 /\ g4 ≠ g7 /\ g5 ≠ g7) := by
  have h1 := (gl K3.out.1)
  have h2 := (gl K3.out.2.1)
  have h3 := H4.out.2.2.2.fr.size
  have := Hg4.out
  have := Hg5.out
  have := Hg7.out
  exact ⟨h1, h2, by omega, by omega, by omega, by omega, by omega⟩
 rw [Hw5.out]
 clear x6 H4 K3 k6 Hw5 B45 Hg7 R3 E3 F5 Bw3
 have x6 : w5.cell? ⟨g6, 0, none⟩ = some (.pointer (some ⟨g, 0, none⟩)) := by simp [World.cell?, K5.out.2.2]
 go_wp2_with first
  | (go_at_call 51; refine (end_bad R5 E5 hM hq).mono ?_; rintro e w6 ⟨rfl, H6⟩)
  | (go_at_call 95; refine (need_bad _ _).mono ?_; rintro e w0 ⟨rfl, h0⟩; rw [h0]; clear h0)
 have B6 : Hid (Below w5.heap.size w5 w6) := by obtain ⟨j, hj⟩ := H6.out; rw [hj]; exact below_drewN (Below.refl _ _) j
 have K6 : Hid (w6.heap[g4]? = some (.cells #[.int .i64 0,.int .i64 0,.int .i64 0,.int .i64 0,.string ⟨#[]⟩,.string ⟨#[]⟩,.int .i64 0,.int .i64 0,.int .i64 0,.int .i64 0,.int .i64 0,.int .i64 0,.int .i64 0,.string ⟨#[]⟩,.int .i64 0,.slice none 0 0,.int .i64 0,.int .i64 0] 60 (0, 0)) /\ w6.heap[g5]? = some (.cells #[.nilIface] 33 (0, 0))) := ⟨(B6.out.block g4 (gl K5.out.1)).trans K5.out.1, (B6.out.block g5 (gl K5.out.2.1)).trans K5.out.2.1⟩
 have BW6 := bt BW B6
 refine leaves_cons (f := 101) (args := #[.pointer (some ⟨g5, 0, none⟩)]) (by simp) (by simp [go_sem]) ?_
 refine (ctch_bad ⟨g5, 0, none⟩ (E 1) .nilIface [] _ ?_ ?_).mono ?_
 . simp [World.cell?, K6.out.2]
 . exact fz K6.out.2 0
 rintro e u' w'' ⟨rfl, rfl, rfl⟩
 obtain ⟨w8, Hw8⟩ := nm (w6.setCell ⟨g5, 0, none⟩ (er (E 1)))
 have h4 : w8.heap[g4]? = some (.cells #[.int .i64 0,.int .i64 0,.int .i64 0,.int .i64 0,.string ⟨#[]⟩,.string ⟨#[]⟩,.int .i64 0,.int .i64 0,.int .i64 0,.int .i64 0,.int .i64 0,.int .i64 0,.int .i64 0,.string ⟨#[]⟩,.int .i64 0,.slice none 0 0,.int .i64 0,.int .i64 0] 60 (0, 0)) := by rw [<- Hw8.out]; exact (heap_setCell_other _ ⟨g5, 0, none⟩ g4 _ L45.out.2.2.1).trans K6.out.1
 have h5 : w8.heap[g5]? = some (.cells #[er (E 1)] 33 (0, 0)) := by rw [<- Hw8.out, set_blk K6.out.2]; rfl
 have c8 : w8.cell? ⟨g5, 0, none⟩ = some (er (E 1)) := by simp [World.cell?, h5]
 have B8 : Hid (Below w.heap.size w w8) := by
  rw [<- Hw8.out]
  exact BW6.out.setCell (show w.heap.size <= g5 from L45.out.2.2.2.2.1) _
 rw [Hw8.out]
 simp only [settle, List.dropWhile_nil]
 simp only [Leaves]
 refine ⟨_, res39 Tryd.results99 _ _ g4 g5 #[.int .i64 0,.int .i64 0,.int .i64 0,.int .i64 0,.string ⟨#[]⟩,.string ⟨#[]⟩,.int .i64 0,.int .i64 0,.int .i64 0,.int .i64 0,.int .i64 0,.int .i64 0,.int .i64 0,.string ⟨#[]⟩,.int .i64 0,.slice none 0 0,.int .i64 0,.int .i64 0] (er (E 1)) (by rfl) (by rfl) h4 rfl c8, ?_⟩
 refine .inl ⟨?_, rfl, B8.out⟩
 rw [rdG_eq, hr.out, Option.bind_some]
 exact if_neg (by have h := hS.out.len; have h2 := hq.out; simp only at h2 ⊢; omega)
theorem whole_n {w : World} {a : Option Addr} {n c : Nat} {l : List Nat} {M : Nat -> Prop} {E : Nat -> Addr} (hS : Hid (Sln w a n l)) (hc : Hid (a = none -> c = 0)) (hE : Hid (Sent w M E)) (hM : M 1) :
  Calls Tryd.prog 99 #[.slice a n c, .func (.func 100) #[] #[]] w fun e w' => GtR w w' E l e := by
 rcases opt_cases (rdK l 0) with h | ⟨⟨x, q⟩, h⟩
 . exact whole_none hS hc hE hM h
 . have hl : ∀ y ∈ l, y < 256 := hS.out.lt
   have h1 : q <= n := by
    unfold rdK at h
    simp only [Option.bind_eq_some_iff] at h
    obtain ⟨⟨y, q'⟩, h2, h3⟩ := h
    simp only at h3
    split at h3
    . cases h3
      obtain ⟨h4, h5, _⟩ := rdC_back hl h2
      rw [List.drop_zero] at h4
      have h6 := congrArg List.length h4
      rw [List.length_append] at h6
      have := hS.out.len
      omega
    . cases h3
   by_cases e : q = n
   . exact whole_yes hS hc hE hM h e
   . exact whole_left hS hc hE hM h (show Hid (q < n) from (by show q < n; omega))
set_option maxHeartbeats 2000000 in
theorem get_n {w : World} {a : Option Addr} {n c : Nat} {l : List Nat} {M : Nat -> Prop} {E : Nat -> Addr} (hS : Hid (Sln w a n l)) (hc : Hid (a = none -> c = 0)) (hE : Hid (Sent w M E)) (hM : M 1) :
  Calls Tryd.prog 97 #[.slice a n c] w fun e w' => GtR w w' E l e := by
 obtain ⟨g2, Hg2⟩ := nm (w.heap.size)
 obtain ⟨w1, Hw1⟩ := nm (w.alloc (.cells #[.int .i64 0,.int .i64 0,.int .i64 0,.int .i64 0,.string ⟨#[]⟩,.string ⟨#[]⟩,.int .i64 0,.int .i64 0,.int .i64 0,.int .i64 0,.int .i64 0,.int .i64 0,.int .i64 0,.string ⟨#[]⟩,.int .i64 0,.slice none 0 0,.int .i64 0,.int .i64 0] 60))
 have B1 := al1 Hw1
 have S1 : Hid (Sln w1 a n l) := hS.out.below B1.out
 have E1 : Hid (Sent w1 M E) := hE.out.below B1.out
 have K1 : Hid (w1.heap[g2]? = some (.cells #[.int .i64 0,.int .i64 0,.int .i64 0,.int .i64 0,.string ⟨#[]⟩,.string ⟨#[]⟩,.int .i64 0,.int .i64 0,.int .i64 0,.int .i64 0,.int .i64 0,.int .i64 0,.int .i64 0,.string ⟨#[]⟩,.int .i64 0,.slice none 0 0,.int .i64 0,.int .i64 0] 60 (0, 0)) /\ w1.heap.size = g2 + 1) := by
  rw [<- Hw1.out, <- Hg2.out]
  exact ⟨heap_alloc_new w _, by simp⟩
 obtain ⟨T, HT⟩ : ∃ T : World -> Ending -> Prop, Hid (T = fun w' e => GtR w1 w' E l e) := ⟨_, rfl⟩
 have CW : Hid (Calls Tryd.prog 99 #[.slice a n c, .func (.func 100) #[] #[]] w1 fun e w' => ∃ A v, e = .returned (.tuple #[.agg A, v]) /\ Hid (A.size = 18 /\ A.all (·.oneCell') = true /\ GtR w1 w' E l e)) := by
  refine (whole_n S1 hc E1 hM).mono ?_
  rintro e w' h
  rcases h with ⟨h1, h2, h3⟩ | ⟨x, pa, pn, pc, h1, h2, h3⟩
  . exact ⟨_, _, h2, rfl, all_oneCell_toArray (encX_one ⟨⟨0, 0, 0, 0, ⟨#[]⟩, ⟨#[]⟩, 0, 0, 0, 0, 0, 0, 0, ⟨#[]⟩, 0, [], 0, 0⟩, none, 0, 0⟩), .inl ⟨h1, h2, h3⟩⟩
  . exact ⟨_, _, h2, rfl, all_oneCell_toArray (encX_one _), .inr ⟨x, pa, pn, pc, h1, h2, h3⟩⟩
 go_enter Tryd.func97, Tryd.ntmps97
 go_upto_region 1 with (fail)
 rw [Hw1.out, Hg2.out]
 clear HT T
 go_wp2_with first
  | (go_at_call 99; refine CW.out.mono ?_; rintro e w2 ⟨A, v, rfl, H2⟩
     have K2 : Hid (w2.heap[g2]? = some (.cells #[.int .i64 0,.int .i64 0,.int .i64 0,.int .i64 0,.string ⟨#[]⟩,.string ⟨#[]⟩,.int .i64 0,.int .i64 0,.int .i64 0,.int .i64 0,.int .i64 0,.int .i64 0,.int .i64 0,.string ⟨#[]⟩,.int .i64 0,.slice none 0 0,.int .i64 0,.int .i64 0] 60 (0, 0)) /\ Below w1.heap.size w1 w2) := by
      have hb : Below w1.heap.size w1 w2 := by
       rcases H2.out.2.2 with ⟨_, _, h⟩ | ⟨_, _, _, _, _, _, h, _⟩ <;> exact h
      exact ⟨(hb.block g2 (by have := K1.out.2; omega)).trans K1.out.1, hb⟩)
  | (refine wpList_store_row (by rfl) 60 (.tmp 2) (.tmp 6) (by rfl) g2 A (by rfl) (by rfl) 60 _ K2.out.1 (info28 H2.out.1) H2.out.1.symm H2.out.2.1 ?_)
 refine bodyPost_ret (res15 Tryd.results97 _ _ g2 A v (by rfl) (by rfl) (setRow_heap _ _ _ _ _ _ K2.out.1) H2.out.1) rfl ?_
 have BB : Below w.heap.size w (w2.setRow g2 A) := below_setRow (B1.out.trans (K2.out.2.mono B1.out.size)) (by have := Hg2.out; omega) A
 rcases H2.out.2.2 with ⟨h1, h2, h3⟩ | ⟨x, pa, pn, pc, h1, h2, h3, h4, h5⟩
 . exact .inl ⟨h1, h2, BB⟩
 . refine .inr ⟨x, pa, pn, pc, h1, h2, BB, rown_mono (rown_bel h4 (fun b hb => setRow_other _ _ _ _ (by have := (h4.lt b hb).1; have := K1.out.2; omega))) B1.out.size, h5⟩
end Go.Proofs.YtppibcambhmomaaDoor
