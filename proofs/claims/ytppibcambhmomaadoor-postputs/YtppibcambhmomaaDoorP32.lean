import Derived.Test.YtppibcambhmomaaDoorPp
import Derived.Test.YtppibcambhmomaaDoorP31
import Derived.Test.YtppibcambhmomaaDoorP11
import Derived.Test.YtppibcambhmomaaDoorP30
import Derived.Test.YtppibcambhmomaaDoorP19
import Derived.Test.YtppibcambhmomaaDoorP28
import Derived.Test.YtppibcambhmomaaDoorP29
namespace Go.Proofs.YtppibcambhmomaaDoor
open Go.ChangeShapes Go.WideShapes Go.ChangeAt Go.RowKit
set_option maxRecDepth 20000
set_option linter.unusedVariables false
set_option linter.unusedSimpArgs false
theorem ctch83_bad (p x : Addr) (v0 : Value) (older : List PanicEntry) (w : World) (hc : w.cell? p = some v0) (hz : w.frozen? p = false) :
  CallsD Tryd.prog 94 #[.pointer (some p)] (.panicking ({ v := er x, recovered := false } :: older)) w fun e u' w' =>
   e = .returned (.tuple #[]) /\ u' = .panicking ({ v := er x, recovered := true } :: older) /\ w' = w.setCell p (er x) := by
 refine callsD_of_wpS Tryd.func94 rfl fun c₀ cs hu => ?_
 apply wpS_seq
 apply wpS_region
 simp [wpOpsS, go_sem, recoverD, hu, Tryd.ntmps94, Exit.thenS, ta_er]
 apply wpS_seq
 apply wpS_region
 simp [wpOpsS, go_sem, Exit.thenS]
 refine wpS_cond (t := true) (by simp [Act.eval, Array.replicate]) ?_
 simp only [if_true]
 apply wpS_region
 simp [wpOpsS, go_sem, hc, hz, bodyPostS, results, Tryd.results94, Array.replicate]
theorem ctch83_idle (p : Addr) (w : World) :
  CallsD Tryd.prog 94 #[.pointer (some p)] .returning w fun e u' w' => e = .returned (.tuple #[]) /\ u' = .returning /\ w' = w := by
 refine callsD_of_wpS Tryd.func94 rfl fun c₀ cs hu => ?_
 apply wpS_seq
 apply wpS_region
 simp [wpOpsS, go_sem, recoverD, hu, Tryd.ntmps94, Exit.thenS, ta_nil]
 apply wpS_seq
 apply wpS_region
 simp [wpOpsS, go_sem, Exit.thenS]
 refine wpS_cond (t := false) (by simp [Act.eval, Array.replicate]) ?_
 simp only [Bool.false_eq_true, if_false]
 refine wpS_of_wp (wp_skip ?_)
 cases c₀
 simp_all [bodyPostS, results, Tryd.results94]
def rdW (l : List Nat) : Option (List Nm) := (rdL l 0).bind fun r => if r.2 = l.length then some r.1 else none
theorem rdW_there {ys : List Nm} (hn : ys.length <= 4096) (hy : ∀ y ∈ ys, Nb y /\ frm y.cm = true) : rdW (wrL ys) = some ys := by
 unfold rdW
 rw [rdL_there hn hy, Option.bind_some]
 exact if_pos rfl
def RdR (w w' : World) (E : Nat -> Addr) (l : List Nat) (e : Ending) : Prop :=
 (rdW l = none /\ e = .returned (.tuple #[.slice none 0 0, er (E 1)]) /\ Below w.heap.size w w') ∨ (∃ ys la ln lc, rdW l = some ys /\ e = .returned (.tuple #[.slice la ln lc, .nilIface]) /\ Below w.heap.size w w' /\ ∃ Y, led Y = ys.map Nm.cm /\ Oc w' w.heap.size la ln lc Y)
theorem ledR_no {w : World} {g B : Nat} {M : Nat -> Prop} {a : Option Addr} {n c : Nat} {l : List Nat} {p : Nat} {E : Nat -> Addr} (hR : Rdr w g B a n c l p) (hE : Sent w M E) (hM : M 1) (hr : rdL l p = none) :
  Calls Tryd.prog 87 #[.agg #[.pointer (some ⟨g, 0, none⟩)]] w fun e w' => e = .panicked [{ v := er (E 1), recovered := false }] /\ Hid (Wfr w w' g none) := by
 refine (ledR_n hR hE hM).mono ?_
 rintro e w' (⟨_, h1, h2⟩ | ⟨ys, q, la, ln, lc, h, _⟩)
 . exact ⟨h1, h2⟩
 . rw [hr] at h; cases h
theorem ledR_yes {w : World} {g B : Nat} {M : Nat -> Prop} {a : Option Addr} {n c : Nat} {l : List Nat} {p : Nat} {E : Nat -> Addr} {ys : List Nm} {q : Nat} (hR : Rdr w g B a n c l p) (hE : Sent w M E) (hM : M 1) (hr : rdL l p = some (ys, q)) :
  Calls Tryd.prog 87 #[.agg #[.pointer (some ⟨g, 0, none⟩)]] w fun e w' => ∃ la ln lc, e = .returned (.slice la ln lc) /\ Hid (LdO w w' g B a n c l q ys la ln lc) := by
 refine (ledR_n hR hE hM).mono ?_
 rintro e w' (⟨h, _⟩ | ⟨zs, q', la, ln, lc, h, h1, h2⟩)
 . rw [hr] at h; cases h
 . rw [hr] at h
   cases h
   exact ⟨la, ln, lc, h1, h2⟩
theorem res52 {fn : Func} (h : fn.results = #[.tmp 4, .cell 5 33]) (tmps : Array Value) (w : World) (g5 : Nat) (x v : Value) (hp4 : tmps[4]?.getD undef = x) (hp5 : tmps[5]?.getD undef = .pointer (some ⟨g5, 0, none⟩)) (h5 : w.cell? ⟨g5, 0, none⟩ = some v) : (results fn tmps).run Tryd.prog w = .ok (.tuple #[x, v]) w := by
 have h5' : (loadVar 33 ⟨g5, 0, none⟩).run Tryd.prog w = .ok v w := by simp [go_sem, h5]
 simp [results, h, hp4, hp5, asAddr, h5']
set_option maxHeartbeats 2000000 in
theorem whole52_no {w : World} {a : Option Addr} {n c : Nat} {l : List Nat} {M : Nat -> Prop} {E : Nat -> Addr} (hS : Hid (Sln w a n l)) (hc : Hid (a = none -> c = 0)) (hE : Hid (Sent w M E)) (hM : M 1) (hr : Hid (rdL l 0 = none)) :
  Calls Tryd.prog 86 #[.slice a n c, .func (.func 87) #[] #[]] w fun e w' => RdR w w' E l e := by
 have hmf : ∀ (fn : Fn) (first cap : Array Value) (w : World), (Instr.makeFunc fn first cap).run Tryd.prog w = .ok (.func fn first cap) w := fun _ _ _ _ => rfl
 obtain ⟨g5, Hg5⟩ := nm (w.heap.size)
 obtain ⟨w1, Hw1⟩ := nm (w.alloc (.cells #[.nilIface] 33))
 have B1 := al1 Hw1
 have S1 : Hid (Sln w1 a n l) := hS.out.below B1.out
 have E1 : Hid (Sent w1 M E) := hE.out.below B1.out
 have K1 : Hid (w1.heap[g5]? = some (.cells #[.nilIface] 33 (0, 0)) /\ w1.heap.size = g5 + 1) := by
  rw [<- Hw1.out, <- Hg5.out]
  exact ⟨heap_alloc_new w _, by simp⟩
 go_enter_defers Tryd.func86, Tryd.ntmps86
 go_upto_region 2 with (fail)
 rw [Hw1.out, Hg5.out]
 go_upto_region 3 with (go_at_call 49; refine (newReader_n S1 hc).mono ?_; rintro e w2 ⟨g, a2, c2, rfl, H2⟩)
 obtain ⟨g6, Hg6⟩ := nm (w2.heap.size)
 obtain ⟨w3, Hw3⟩ := nm (w2.alloc (.cells #[.pointer (some ⟨g, 0, none⟩)] 131))
 have b3 := al1 Hw3
 have B13 : Hid (Below w1.heap.size w1 w3) := H2.out.2.2.trans (b3.out.mono H2.out.2.2.size)
 have R3 : Hid (Rdr w3 g w1.heap.size a2 n c2 l 0) := H2.out.1.below b3.out
 have E3 : Hid (Sent w3 M E) := E1.out.below B13.out
 have k6 : Hid (w3.heap[g6]? = some (.cells #[.pointer (some ⟨g, 0, none⟩)] 131 (0, 0))) := by rw [<- Hw3.out, <- Hg6.out]; exact heap_alloc_new w2 _
 have x6 : w3.cell? ⟨g6, 0, none⟩ = some (.pointer (some ⟨g, 0, none⟩)) := by simp [World.cell?, k6.out]
 have K3 : Hid (w3.heap[g5]? = some (.cells #[.nilIface] 33 (0, 0)) /\ g5 ≠ g /\ g6 ≠ g /\ w.heap.size <= g) := by
  have h0 := H2.out.2.1
  have h1 := K1.out.2
  have h3 := Hg5.out
  have h4 := Hg6.out
  have h5 := H2.out.1.lt
  exact ⟨(B13.out.block g5 (by omega)).trans K1.out.1, by omega, by omega, by omega⟩
 have W3 : Hid (w.heap.size <= w3.heap.size) := Nat.le_trans B1.out.size B13.out.size
 have Bw3 := bt B1 B13
 have G5 : Hid (w.heap.size <= g5 /\ g5 < w3.heap.size) := ⟨by have := Hg5.out; omega, (gl K3.out.1)⟩
 rw [Hw3.out, Hg6.out]
 clear K1 b3 H2 S1 E1 B13 Hw3 Hw1
 go_wp2_with (go_at_call 87; refine (ledR_no R3.out E3.out hM hr.out).mono ?_; rintro e w4 ⟨rfl, H4⟩)
 have K6 : Hid (w4.heap[g5]? = some (.cells #[.nilIface] 33 (0, 0))) := box_wfr K3.out.1 K3.out.2.1 H4.out
 have BW6 : Hid (Below w.heap.size w w4) := Wfr.below Bw3.out H4.out K3.out.2.2.2 (by simp [blkOf]) W3.out
 refine leaves_cons (f := 94) (args := #[.pointer (some ⟨g5, 0, none⟩)]) (by simp) (by simp [go_sem]) ?_
 refine (ctch83_bad ⟨g5, 0, none⟩ (E 1) .nilIface [] _ ?_ ?_).mono ?_
 . simp [World.cell?, K6.out]
 . exact fz K6.out 0
 rintro e u' w'' ⟨rfl, rfl, rfl⟩
 obtain ⟨w8, Hw8⟩ := nm (w4.setCell ⟨g5, 0, none⟩ (er (E 1)))
 have h5 : w8.heap[g5]? = some (.cells #[er (E 1)] 33 (0, 0)) := by rw [<- Hw8.out, set_blk K6.out]; rfl
 have c8 : w8.cell? ⟨g5, 0, none⟩ = some (er (E 1)) := by simp [World.cell?, h5]
 have B8 : Hid (Below w.heap.size w w8) := by
  rw [<- Hw8.out]
  exact BW6.out.setCell (show w.heap.size <= g5 from G5.out.1) _
 rw [Hw8.out]
 simp only [settle, List.dropWhile_nil]
 simp only [Leaves]
 refine ⟨_, res52 Tryd.results86 _ _ g5 (.slice none 0 0) (er (E 1)) (by rfl) (by rfl) c8, ?_⟩
 refine .inl ⟨?_, rfl, B8.out⟩
 unfold rdW
 rw [hr.out]
 rfl
set_option maxHeartbeats 2000000 in
theorem whole52_left {w : World} {a : Option Addr} {n c : Nat} {l : List Nat} {M : Nat -> Prop} {E : Nat -> Addr} {ys : List Nm} {q : Nat} (hS : Hid (Sln w a n l)) (hc : Hid (a = none -> c = 0)) (hE : Hid (Sent w M E)) (hM : M 1) (hr : Hid (rdL l 0 = some (ys, q))) (hq : Hid (q < n)) :
  Calls Tryd.prog 86 #[.slice a n c, .func (.func 87) #[] #[]] w fun e w' => RdR w w' E l e := by
 have hmf : ∀ (fn : Fn) (first cap : Array Value) (w : World), (Instr.makeFunc fn first cap).run Tryd.prog w = .ok (.func fn first cap) w := fun _ _ _ _ => rfl
 obtain ⟨g5, Hg5⟩ := nm (w.heap.size)
 obtain ⟨w1, Hw1⟩ := nm (w.alloc (.cells #[.nilIface] 33))
 have B1 := al1 Hw1
 have S1 : Hid (Sln w1 a n l) := hS.out.below B1.out
 have E1 : Hid (Sent w1 M E) := hE.out.below B1.out
 have K1 : Hid (w1.heap[g5]? = some (.cells #[.nilIface] 33 (0, 0)) /\ w1.heap.size = g5 + 1) := by
  rw [<- Hw1.out, <- Hg5.out]
  exact ⟨heap_alloc_new w _, by simp⟩
 go_enter_defers Tryd.func86, Tryd.ntmps86
 go_upto_region 2 with (fail)
 rw [Hw1.out, Hg5.out]
 go_upto_region 3 with (go_at_call 49; refine (newReader_n S1 hc).mono ?_; rintro e w2 ⟨g, a2, c2, rfl, H2⟩)
 obtain ⟨g6, Hg6⟩ := nm (w2.heap.size)
 obtain ⟨w3, Hw3⟩ := nm (w2.alloc (.cells #[.pointer (some ⟨g, 0, none⟩)] 131))
 have b3 := al1 Hw3
 have B13 : Hid (Below w1.heap.size w1 w3) := H2.out.2.2.trans (b3.out.mono H2.out.2.2.size)
 have R3 : Hid (Rdr w3 g w1.heap.size a2 n c2 l 0) := H2.out.1.below b3.out
 have E3 : Hid (Sent w3 M E) := E1.out.below B13.out
 have k6 : Hid (w3.heap[g6]? = some (.cells #[.pointer (some ⟨g, 0, none⟩)] 131 (0, 0))) := by rw [<- Hw3.out, <- Hg6.out]; exact heap_alloc_new w2 _
 have x6 : w3.cell? ⟨g6, 0, none⟩ = some (.pointer (some ⟨g, 0, none⟩)) := by simp [World.cell?, k6.out]
 have K3 : Hid (w3.heap[g5]? = some (.cells #[.nilIface] 33 (0, 0)) /\ g5 ≠ g /\ g6 ≠ g /\ w.heap.size <= g) := by
  have h0 := H2.out.2.1
  have h1 := K1.out.2
  have h3 := Hg5.out
  have h4 := Hg6.out
  have h5 := H2.out.1.lt
  exact ⟨(B13.out.block g5 (by omega)).trans K1.out.1, by omega, by omega, by omega⟩
 have W3 : Hid (w.heap.size <= w3.heap.size) := Nat.le_trans B1.out.size B13.out.size
 have Bw3 := bt B1 B13
 have G5 : Hid (w.heap.size <= g5 /\ g5 < w3.heap.size) := ⟨by have := Hg5.out; omega, (gl K3.out.1)⟩
 rw [Hw3.out, Hg6.out]
 clear K1 b3 H2 S1 E1 B13 Hw3 Hw1
 go_upto_region 4 with (go_at_call 87; refine (ledR_yes R3.out E3.out hM hr.out).mono ?_; rintro e w4 ⟨la, ln, lc, rfl, H4⟩)
 have R5 : Hid (Rdr w4 g w1.heap.size a2 n c2 l q) := H4.out.rdr
 have F5 : Hid (Wfr w3 w4 g none) := H4.out.fr
 have E5 : Hid (Sent w4 M E) := sent_rdr E3.out R3.out R5.out F5.out
 have K5 : Hid (w4.heap[g5]? = some (.cells #[.nilIface] 33 (0, 0)) /\ w4.heap[g6]? = some (.cells #[.pointer (some ⟨g, 0, none⟩)] 131 (0, 0))) := ⟨box_wfr K3.out.1 K3.out.2.1 F5.out, box_wfr k6.out K3.out.2.2.1 F5.out⟩
 have BW : Hid (Below w.heap.size w w4) := Wfr.below Bw3.out F5.out K3.out.2.2.2 (by simp [blkOf]) W3.out
 have OC : Hid (∃ Y, led Y = ys.map Nm.cm /\ Oc w4 w3.heap.size la ln lc Y) := H4.out.oc
 clear x6 H4 K3 k6 R3 E3 F5 Bw3
 have x6 : w4.cell? ⟨g6, 0, none⟩ = some (.pointer (some ⟨g, 0, none⟩)) := by simp [World.cell?, K5.out.2]
 go_wp2_with first
  | (go_at_call 51; refine (end_bad R5 E5 hM hq).mono ?_; rintro e w6 ⟨rfl, H6⟩)
  | (go_at_call 95; refine (need_bad _ _).mono ?_; rintro e w0 ⟨rfl, h0⟩; rw [h0]; clear h0)
 have B6 : Hid (Below w4.heap.size w4 w6) := by obtain ⟨j, hj⟩ := H6.out; rw [hj]; exact below_drewN (Below.refl _ _) j
 have K6 : Hid (w6.heap[g5]? = some (.cells #[.nilIface] 33 (0, 0))) := (B6.out.block g5 (gl K5.out.1)).trans K5.out.1
 have BW6 := bt BW B6
 refine leaves_cons (f := 94) (args := #[.pointer (some ⟨g5, 0, none⟩)]) (by simp) (by simp [go_sem]) ?_
 refine (ctch83_bad ⟨g5, 0, none⟩ (E 1) .nilIface [] _ ?_ ?_).mono ?_
 . simp [World.cell?, K6.out]
 . exact fz K6.out 0
 rintro e u' w'' ⟨rfl, rfl, rfl⟩
 obtain ⟨w8, Hw8⟩ := nm (w6.setCell ⟨g5, 0, none⟩ (er (E 1)))
 have h5 : w8.heap[g5]? = some (.cells #[er (E 1)] 33 (0, 0)) := by rw [<- Hw8.out, set_blk K6.out]; rfl
 have c8 : w8.cell? ⟨g5, 0, none⟩ = some (er (E 1)) := by simp [World.cell?, h5]
 have B8 : Hid (Below w.heap.size w w8) := by
  rw [<- Hw8.out]
  exact BW6.out.setCell (show w.heap.size <= g5 from G5.out.1) _
 rw [Hw8.out]
 simp only [settle, List.dropWhile_nil]
 simp only [Leaves]
 refine ⟨_, res52 Tryd.results86 _ _ g5 (.slice none 0 0) (er (E 1)) (by rfl) (by rfl) c8, ?_⟩
 refine .inl ⟨?_, rfl, B8.out⟩
 unfold rdW
 rw [hr.out, Option.bind_some]
 exact if_neg (by have h := hS.out.len; have h2 := hq.out; simp only at h2 ⊢; omega)
set_option maxHeartbeats 2000000 in
theorem whole52_yes {w : World} {a : Option Addr} {n c : Nat} {l : List Nat} {M : Nat -> Prop} {E : Nat -> Addr} {ys : List Nm} {q : Nat} (hS : Hid (Sln w a n l)) (hc : Hid (a = none -> c = 0)) (hE : Hid (Sent w M E)) (hM : M 1) (hr : Hid (rdL l 0 = some (ys, q))) (hq : Hid (q = n)) :
  Calls Tryd.prog 86 #[.slice a n c, .func (.func 87) #[] #[]] w fun e w' => RdR w w' E l e := by
 have hmf : ∀ (fn : Fn) (first cap : Array Value) (w : World), (Instr.makeFunc fn first cap).run Tryd.prog w = .ok (.func fn first cap) w := fun _ _ _ _ => rfl
 obtain ⟨g5, Hg5⟩ := nm (w.heap.size)
 obtain ⟨w1, Hw1⟩ := nm (w.alloc (.cells #[.nilIface] 33))
 have B1 := al1 Hw1
 have S1 : Hid (Sln w1 a n l) := hS.out.below B1.out
 have E1 : Hid (Sent w1 M E) := hE.out.below B1.out
 have K1 : Hid (w1.heap[g5]? = some (.cells #[.nilIface] 33 (0, 0)) /\ w1.heap.size = g5 + 1) := by
  rw [<- Hw1.out, <- Hg5.out]
  exact ⟨heap_alloc_new w _, by simp⟩
 go_enter_defers Tryd.func86, Tryd.ntmps86
 go_upto_region 2 with (fail)
 rw [Hw1.out, Hg5.out]
 go_upto_region 3 with (go_at_call 49; refine (newReader_n S1 hc).mono ?_; rintro e w2 ⟨g, a2, c2, rfl, H2⟩)
 obtain ⟨g6, Hg6⟩ := nm (w2.heap.size)
 obtain ⟨w3, Hw3⟩ := nm (w2.alloc (.cells #[.pointer (some ⟨g, 0, none⟩)] 131))
 have b3 := al1 Hw3
 have B13 : Hid (Below w1.heap.size w1 w3) := H2.out.2.2.trans (b3.out.mono H2.out.2.2.size)
 have R3 : Hid (Rdr w3 g w1.heap.size a2 n c2 l 0) := H2.out.1.below b3.out
 have E3 : Hid (Sent w3 M E) := E1.out.below B13.out
 have k6 : Hid (w3.heap[g6]? = some (.cells #[.pointer (some ⟨g, 0, none⟩)] 131 (0, 0))) := by rw [<- Hw3.out, <- Hg6.out]; exact heap_alloc_new w2 _
 have x6 : w3.cell? ⟨g6, 0, none⟩ = some (.pointer (some ⟨g, 0, none⟩)) := by simp [World.cell?, k6.out]
 have K3 : Hid (w3.heap[g5]? = some (.cells #[.nilIface] 33 (0, 0)) /\ g5 ≠ g /\ g6 ≠ g /\ w.heap.size <= g) := by
  have h0 := H2.out.2.1
  have h1 := K1.out.2
  have h3 := Hg5.out
  have h4 := Hg6.out
  have h5 := H2.out.1.lt
  exact ⟨(B13.out.block g5 (by omega)).trans K1.out.1, by omega, by omega, by omega⟩
 have W3 : Hid (w.heap.size <= w3.heap.size) := Nat.le_trans B1.out.size B13.out.size
 have Bw3 := bt B1 B13
 have G5 : Hid (w.heap.size <= g5 /\ g5 < w3.heap.size) := ⟨by have := Hg5.out; omega, (gl K3.out.1)⟩
 rw [Hw3.out, Hg6.out]
 clear K1 b3 H2 S1 E1 B13 Hw3 Hw1
 go_upto_region 4 with (go_at_call 87; refine (ledR_yes R3.out E3.out hM hr.out).mono ?_; rintro e w4 ⟨la, ln, lc, rfl, H4⟩)
 have R5 : Hid (Rdr w4 g w1.heap.size a2 n c2 l q) := H4.out.rdr
 have F5 : Hid (Wfr w3 w4 g none) := H4.out.fr
 have E5 : Hid (Sent w4 M E) := sent_rdr E3.out R3.out R5.out F5.out
 have K5 : Hid (w4.heap[g5]? = some (.cells #[.nilIface] 33 (0, 0)) /\ w4.heap[g6]? = some (.cells #[.pointer (some ⟨g, 0, none⟩)] 131 (0, 0))) := ⟨box_wfr K3.out.1 K3.out.2.1 F5.out, box_wfr k6.out K3.out.2.2.1 F5.out⟩
 have BW : Hid (Below w.heap.size w w4) := Wfr.below Bw3.out F5.out K3.out.2.2.2 (by simp [blkOf]) W3.out
 have OC : Hid (∃ Y, led Y = ys.map Nm.cm /\ Oc w4 w3.heap.size la ln lc Y) := H4.out.oc
 clear x6 H4 K3 k6 R3 E3 F5 Bw3
 have x6 : w4.cell? ⟨g6, 0, none⟩ = some (.pointer (some ⟨g, 0, none⟩)) := by simp [World.cell?, K5.out.2]
 go_upto_region 5 with first
  | (go_at_call 51; refine (end_ok R5 hq).mono ?_; rintro e w6 ⟨rfl, H6⟩)
  | (go_at_call 95; refine (need_ok _).mono ?_; rintro e w0 ⟨rfl, h0⟩; rw [h0]; clear h0)
 have B6 : Hid (Below w4.heap.size w4 w6) := by obtain ⟨j, hj⟩ := H6.out; rw [hj]; exact below_drewN (Below.refl _ _) j
 have K6 : Hid (w6.heap[g5]? = some (.cells #[.nilIface] 33 (0, 0))) := (B6.out.block g5 (gl K5.out.1)).trans K5.out.1
 have BW6 := bt BW B6
 have c5 : w6.cell? ⟨g5, 0, none⟩ = some .nilIface := by simp [World.cell?, K6.out]
 have f5 : w6.frozen? ⟨g5, 0, none⟩ = false := fz K6.out 0
 clear x6
 go_wp2
 obtain ⟨w8, Hw8⟩ := nm (w6.setCell ⟨g5, 0, none⟩ .nilIface)
 have h5 : w8.heap[g5]? = some (.cells #[.nilIface] 33 (0, 0)) := by rw [<- Hw8.out, set_blk K6.out]; rfl
 have c8 : w8.cell? ⟨g5, 0, none⟩ = some .nilIface := by simp [World.cell?, h5]
 have B8 : Hid (Below w.heap.size w w8) := by
  rw [<- Hw8.out]
  exact BW6.out.setCell (show w.heap.size <= g5 from G5.out.1) _
 have O8 : Hid (∃ Y, led Y = ys.map Nm.cm /\ Oc w8 w.heap.size la ln lc Y) := by
  obtain ⟨Y, h1, h2⟩ := OC.out
  refine ⟨Y, h1, ((h2.below B6.out).keep (fun k h3 h4 => ?_)).mono W3.out⟩
  rw [<- Hw8.out]
  exact heap_setCell_other _ ⟨g5, 0, none⟩ k _ (by show k ≠ g5; have := G5.out.2; omega)
 try rw [Hw8.out]
 refine leaves_cons (f := 94) (args := #[.pointer (some ⟨g5, 0, none⟩)]) (by simp) (by simp [go_sem]) ?_
 refine (ctch83_idle ⟨g5, 0, none⟩ _).mono ?_
 rintro e u' w'' ⟨rfl, rfl, rfl⟩
 simp only [Leaves, settle]
 refine ⟨_, res52 Tryd.results86 _ _ g5 (.slice la ln lc) .nilIface (by rfl) (by rfl) c8, ?_⟩
 refine .inr ⟨ys, la, ln, lc, ?_, rfl, B8.out, O8.out⟩
 unfold rdW
 rw [hr.out, Option.bind_some]
 exact if_pos (by have h := hS.out.len; have h2 := hq.out; simp only at h2 ⊢; omega)
theorem whole52_n {w : World} {a : Option Addr} {n c : Nat} {l : List Nat} {M : Nat -> Prop} {E : Nat -> Addr} (hS : Hid (Sln w a n l)) (hc : Hid (a = none -> c = 0)) (hE : Hid (Sent w M E)) (hM : M 1) :
  Calls Tryd.prog 86 #[.slice a n c, .func (.func 87) #[] #[]] w fun e w' => RdR w w' E l e := by
 rcases opt_cases (rdL l 0) with h | ⟨⟨ys, q⟩, h⟩
 . exact whole52_no hS hc hE hM h
 . have hl : ∀ y ∈ l, y < 256 := hS.out.lt
   have h1 : q <= n := by
    have h0 := h
    unfold rdL at h0
    simp only [Option.bind_eq_some_iff] at h0
    obtain ⟨⟨k, p1⟩, r1, r2⟩ := h0
    obtain ⟨a1, a2, a3⟩ := rn_back hl r1
    obtain ⟨b1, b2, b3, b4⟩ := rl_back hl _ _ _ _ r2
    simp only at *
    rw [List.drop_zero] at a1
    rw [b1] at a1
    have h6 := congrArg List.length a1
    simp only [List.length_append] at h6
    have := hS.out.len
    omega
   by_cases e : q = n
   . exact whole52_yes hS hc hE hM h e
   . exact whole52_left hS hc hE hM h (show Hid (q < n) from (by show q < n; omega))
def rdA (l : List Nat) : Option (List Nm) := if (opn l).2 = 0 then rdW (opn l).1 else none
set_option maxHeartbeats 2000000 in
theorem readA_yes {w : World} {a : Option Addr} {n c : Nat} {l : List Nat} {M : Nat -> Prop} {E : Nat -> Addr} {ys : List Nm} (hS : Hid (Sln w a n l)) (hc : Hid (a = none -> c = 0)) (hnc : n <= c) (hE : Hid (Sent w M E)) (hM1 : M 1) (hM7 : M 3) (ho : Hid ((opn l).2 = 0)) (hr : Hid (rdW (opn l).1 = some ys)) :
  Calls Tryd.prog 75 #[.slice a n c] w fun e w' => ∃ la ln lc, e = .returned (.tuple #[.slice la ln lc, .nilIface]) /\ Hid (Below w.heap.size w w' /\ ∃ Y, led Y = ys.map Nm.cm /\ Oc w' w.heap.size la ln lc Y) := by
 go_enter Tryd.func75, Tryd.ntmps75
 go_upto_region 2 with (go_at_call 23; refine (open_any hS hc hnc hE hM7 hM1).mono ?_; rintro e w2 ⟨a2, n2, c2, v, rfl, H2⟩)
 obtain ⟨rfl, hO, hB⟩ : v = .nilIface /\ Own w2 w.heap.size a2 n2 c2 (opn l).1 /\ Below w.heap.size w w2 := by
  have h := H2.out
  rw [ho.out] at h
  exact ⟨h.1, h.2.1, h.2.2⟩
 have O2 := show Hid (Own w2 w.heap.size a2 n2 c2 (opn l).1) from hO
 have B2 := show Hid (Below w.heap.size w w2) from hB
 clear hO hB H2
 have LN : Hid (n2 <= 140737488352256) := by
  have h1 := O2.out.len
  have h2 : (opn l).1.length <= l.length := by
   unfold opn
   split
   . exact Nat.zero_le _
   . split
     . simp only [List.length_take]; omega
     . exact Nat.zero_le _
  have h3 := hS.out.sli.2.1
  show _ <= _
  omega
 have S2 : Hid (Sln w2 a2 n2 (opn l).1) := O2.out.sln LN.out
 have Z2 : Hid (a2 = none -> c2 = 0) := O2.out.cap0
 have E2 : Hid (Sent w2 M E) := hE.out.below B2.out
 have CW : Hid (Calls Tryd.prog 86 #[.slice a2 n2 c2, .func (.func 87) #[] #[]] w2 fun e w' => ∃ la ln lc, e = .returned (.tuple #[.slice la ln lc, .nilIface]) /\ Hid (Below w2.heap.size w2 w' /\ ∃ Y, led Y = ys.map Nm.cm /\ Oc w' w2.heap.size la ln lc Y)) := by
  refine (whole52_n S2 Z2 E2 hM1).mono ?_
  rintro e w' (⟨h, _⟩ | ⟨zs, la, ln, lc, h, h1, h2, h3⟩)
  . rw [hr.out] at h; cases h
  . rw [hr.out] at h
    cases h
    exact ⟨la, ln, lc, h1, h2, h3⟩
 go_wp2_with (go_at_call 86; refine CW.out.mono ?_; rintro e w3 ⟨la, ln, lc, rfl, H3⟩)
 go_ret2
 obtain ⟨h1, Y, h2, h3⟩ := H3.out
 exact ⟨la, ln, lc, rfl, B2.out.trans (h1.mono B2.out.size), Y, h2, h3.mono B2.out.size⟩
theorem mapcm_inj : ∀ {a b : List Nm}, a.map Nm.cm = b.map Nm.cm -> a = b
 | [], [], _ => rfl
 | [], _ :: _, h => by simp at h
 | _ :: _, [], h => by simp at h
 | x :: a, y :: b, h => by
   simp only [List.map_cons, List.cons.injEq] at h
   rw [mapcm_inj h.2, cm_inj h.1]
theorem write_yes {w : World} {M : Nat -> Prop} {E : Nat -> Addr} {a : Option Addr} {n c : Nat} {X : List Cx} {ys : List Nm} (hE : Hid (Sent w M E)) (hM0 : M 0) (hC : Hid (Cms w 0 a n X)) (hn : n <= 4096) (hy : Hid (X.map Cx.cm = ys.map Nm.cm)) (ha : Hid (∀ y ∈ ys, Nb y /\ frm y.cm = true)) :
  Calls Tryd.prog 16 #[.slice a n c] w fun e w' => ∃ g N, e = .returned (.tuple #[.slice (some ⟨g, 0, none⟩) N N, .nilIface]) /\ Hid (Blk w' g (sealL (wrL ys)) /\ N = (wrL ys).length + 4 /\ Below w.heap.size w w') := by
 refine (write_n hE hM0 hC hn).mono ?_
 rintro e w' (⟨⟨x, hx, hf⟩, _⟩ | ⟨zs, g, N, h1, h2, h3, h4, h5, h6⟩)
 . have hm : x.cm ∈ X.map Cx.cm := List.mem_map.2 ⟨x, hx, rfl⟩
   rw [hy.out] at hm
   obtain ⟨y, hy, e⟩ := List.mem_map.1 hm
   rw [<- e, (ha.out y hy).2] at hf
   cases hf
 . obtain rfl := mapcm_inj (h1.symm.trans hy.out)
   exact ⟨g, N, h3, h4, h5, h6⟩
theorem refwrite_no {w : World} {a : Option Addr} {n c : Nat} {X : List Cx} (hC : Hid (Cms w 0 a n X)) (hn : n <= 4096) (hb : Hid (∃ x ∈ X, frm x.cm = false)) :
  Calls Tryd.prog 22 #[.slice a n c] w fun e w' => e = .returned (.tuple #[.slice none 0 0,.int .i64 18]) /\ Hid (Below w.heap.size w w') := by
 refine (refwrite_n hC hn).mono ?_
 rintro e w' (⟨_, h1, h2⟩ | ⟨ys, b, N, d, h1, h2, _⟩)
 . exact ⟨h1, h2⟩
 . obtain ⟨x, hx, hf⟩ := hb.out
   have hm : x.cm ∈ X.map Cx.cm := List.mem_map.2 ⟨x, hx, rfl⟩
   rw [h1] at hm
   obtain ⟨y, hy, e⟩ := List.mem_map.1 hm
   rw [<- e, (h2 y hy).2] at hf
   cases hf
theorem refwrite_yes {w : World} {a : Option Addr} {n c : Nat} {X : List Cx} {ys : List Nm} (hC : Hid (Cms w 0 a n X)) (hn : n <= 4096) (hy : Hid (X.map Cx.cm = ys.map Nm.cm)) (ha : Hid (∀ y ∈ ys, Nb y /\ frm y.cm = true)) :
  Calls Tryd.prog 22 #[.slice a n c] w fun e w' => ∃ b N d, e = .returned (.tuple #[.slice b N d,.int .i64 0]) /\ Hid (Own w' w.heap.size b N d (sealL (wrL ys)) /\ N <= 10000100 /\ Below w.heap.size w w') := by
 refine (refwrite_n hC hn).mono ?_
 rintro e w' (⟨⟨x, hx, hf⟩, _⟩ | ⟨zs, b, N, d, h1, h2, h3, h4, h5, h6⟩)
 . have hm : x.cm ∈ X.map Cx.cm := List.mem_map.2 ⟨x, hx, rfl⟩
   rw [hy.out] at hm
   obtain ⟨y, hy, e⟩ := List.mem_map.1 hm
   rw [<- e, (ha.out y hy).2] at hf
   cases hf
 . obtain rfl := mapcm_inj (h1.symm.trans hy.out)
   exact ⟨b, N, d, h3, h4, h5, h6⟩
theorem opn_seal (l : List Nat) : opn (sealL l) = (l, 0) := by
 have h4 : (sealL l).length = l.length + 4 := by unfold sealL; simp [be4]
 have ht : (sealL l).take ((sealL l).length - 4) = l := by rw [h4, Nat.add_sub_cancel]; unfold sealL; exact List.take_left
 rw [opn_ok (by omega) (by rw [ht]), ht]
theorem frm_all {X : List Cx} (h : ∀ x ∈ X, frm x.cm = true) : ∃ ys : List Nm, X.map Cx.cm = ys.map Nm.cm /\ ∀ y ∈ ys, Nb y /\ frm y.cm = true := by
 induction X with
 | nil => exact ⟨[], rfl, fun y hy => by cases hy⟩
 | cons x X ih =>
   obtain ⟨ys, h1, h2⟩ := ih (fun z hz => h z (List.mem_cons_of_mem _ hz))
   have hx := h x (List.mem_cons_self ..)
   obtain ⟨y, hy, hb⟩ := frm_nat hx
   refine ⟨y :: ys, by simp [h1, hy], fun z hz => ?_⟩
   rcases List.mem_cons.1 hz with rfl | hz
   . exact ⟨hb, by rw [<- hy]; exact hx⟩
   . exact h2 z hz
theorem Nlt.mono {y : Nmg} {a b : Nat} (h : Nlt y a) (hab : a <= b) : Nlt y b :=
 ⟨Nat.lt_of_lt_of_le h.K hab, Nat.lt_of_lt_of_le h.F hab, Nat.lt_of_lt_of_le h.T hab, Nat.lt_of_lt_of_le h.t0 hab, Nat.lt_of_lt_of_le h.t1 hab, Nat.lt_of_lt_of_le h.t2 hab, Nat.lt_of_lt_of_le h.b0 hab, Nat.lt_of_lt_of_le h.b1 hab, Nat.lt_of_lt_of_le h.a0 hab, Nat.lt_of_lt_of_le h.a1 hab, Nat.lt_of_lt_of_le h.B0 hab, Nat.lt_of_lt_of_le h.B1 hab, Nat.lt_of_lt_of_le h.B2 hab⟩
theorem mf_nat {x : Mc} {X : List Cx} (hl : x.ln = X.length) (h : mf x (led X) = true) : ∃ (y : Nmg) (ys : List Nm), x = y.mc x.la x.ln x.lc x.fa x.fn x.fc /\ Nlt y 1099511627777 /\ X.map Cx.cm = ys.map Nm.cm /\ (∀ z ∈ ys, Nb z /\ frm z.cm = true) /\ x.ln <= 4096 /\ x.fn <= 4096 := by
 obtain ⟨k, f, t, t0, t1, t2, p0, p1, q0, q1, la, ln, lc, u0, u1, u2, vk, fa, fn, fc⟩ := x
 unfold mf at h
 simp only [Bool.and_eq_true] at h
 obtain ⟨h1, h2, h3, h4, h5, h6, h7, h8, h9, h10⟩ := h
 have e1 : 1 <= k /\ k <= 9 := of_decide_eq_true h1
 have e2 : 0 <= f /\ f < 16 := of_decide_eq_true h2
 have e3 : 0 <= t /\ t < 16 := of_decide_eq_true h3
 have id : ∀ {a b c : Int}, gdI a b c = true -> (0 <= a /\ a <= 15) /\ (0 <= b /\ b <= 1099511627776) /\ (0 <= c /\ c <= 1099511627776) := fun {a b c} h => by
  unfold gdI tmT at h
  simp only [Bool.and_eq_true, decide_eq_true_eq] at h
  omega
 have lg : ∀ {a b : Int}, lgT a b = true -> (0 <= a /\ a <= 1099511627776) /\ (0 <= b /\ b <= 15) := fun {a b} h => by
  have h := of_decide_eq_true h
  omega
 have e4 := id h4
 have e5 : (0 <= p0 /\ p0 <= 1099511627776) /\ (0 <= p1 /\ p1 <= 15) := by
  rcases goz_or h5 with h | h
  . exact lg h
  . have := of_decide_eq_true h; omega
 have e6 : (0 <= q0 /\ q0 <= 1099511627776) /\ (0 <= q1 /\ q1 <= 15) := by
  rcases goz_or h6 with h | h
  . exact lg h
  . have := of_decide_eq_true h; omega
 have e7 : (0 <= u0 /\ u0 <= 15) /\ (0 <= u1 /\ u1 <= 1099511627776) /\ (0 <= u2 /\ u2 <= 1099511627776) := by
  rcases goz_or h7 with h | h
  . exact id h
  . have := of_decide_eq_true h; omega
 have e9 : fn <= 4096 := by
  rcases goz_or h9 with h | h
  . have : (fn : Int) <= 4096 := of_decide_eq_true h
    omega
  . have : (fn : Int) = 0 := of_decide_eq_true h
    omega
 have e10 : ln <= 4096 /\ ∀ z ∈ X, frm z.cm = true := by
  rcases goz_or h10 with h | h
  . simp only [ldT, Bool.and_eq_true, decide_eq_true_eq] at h
    exact ⟨h.1, fun z hz => List.all_eq_true.1 h.2 z.cm (List.mem_map.2 ⟨z, hz, rfl⟩)⟩
  . have h0 : (ln : Int) = 0 := of_decide_eq_true h
    have h0 : ln = 0 := by omega
    have hx : X = [] := List.length_eq_zero_iff.1 (by rw [<- hl]; exact h0)
    exact ⟨by omega, fun z hz => by rw [hx] at hz; cases hz⟩
 obtain ⟨ys, hy1, hy2⟩ := frm_all e10.2
 refine ⟨⟨k.toNat, f.toNat, t.toNat, t0.toNat, t1.toNat, t2.toNat, p0.toNat, p1.toNat, q0.toNat, q1.toNat, u0.toNat, u1.toNat, u2.toNat, vk⟩, ys, ?_, ?_, hy1, hy2, e10.1, e9⟩
 . unfold Nmg.mc
   simp only [Mc.mk.injEq, true_and, and_true]
   refine ⟨by omega, by omega, by omega, by omega, by omega, by omega, by omega, by omega, by omega, by omega, by omega, by omega, by omega⟩
 . refine ⟨?_, ?_, ?_, ?_, ?_, ?_, ?_, ?_, ?_, ?_, ?_, ?_, ?_⟩
   all_goals (show Int.toNat _ < _; omega)
set_option maxHeartbeats 2000000 in
theorem checkM_yes {w : World} {M : Nat -> Prop} {E : Nat -> Addr} {x : Mc} {X : List Cx} {A : Array Value} (hA : Hid (A = (encM x).toArray)) (hE : Hid (Sent w M E)) (hM0 : M 0) (hC : Hid (Cms w 0 x.la x.ln X)) (hF : Hid (mf x (led X) = true)) :
  Calls Tryd.prog 8 #[.agg A] w fun e w' => e = .returned .nilIface /\ Hid (Below w.heap.size w w') := by
 have a16 : A.size = 16 := encM_sz hA.out
 obtain ⟨g1, Hg1⟩ := nm (w.heap.size)
 obtain ⟨w1, Hw1⟩ := nm (w.alloc (.cells A 29))
 have B1 := al1 Hw1
 have k1 : Hid (w1.heap[g1]? = some (.cells A 29 (0, 0))) := by rw [<- Hw1.out, <- Hg1.out]; exact heap_alloc_new w _
 have E1 : Hid (Sent w1 M E) := hE.out.below B1.out
 have C1 : Hid (Cms w1 0 x.la x.ln X) := hC.out.below B1.out
 go_enter Tryd.func8, Tryd.ntmps8
 go_upto_region 1 with (fail)
 rw [Hw1.out, Hg1.out]
 go_wp2_with first
  | (refine wpList_load_row (by rfl) 29 (.tmp 1) (by rfl) g1 (by rfl) 29 A (0, 0) _ k1.out Tryd.underlying29 rfl (info29 a16) ?_)
  | (go_at_call 15; refine (inFormM_n hA E1 hM0 C1).mono ?_; rintro e w2 ⟨rfl, h2⟩; rw [hF.out])
 go_ret
 exact ⟨rfl, B1.out.trans (h2.out.mono B1.out.size)⟩
set_option maxHeartbeats 2000000 in
theorem checkM_no {w : World} {M : Nat -> Prop} {E : Nat -> Addr} {x : Mc} {X : List Cx} {A : Array Value} (hA : Hid (A = (encM x).toArray)) (hE : Hid (Sent w M E)) (hM0 : M 0) (hC : Hid (Cms w 0 x.la x.ln X)) (hF : Hid (mf x (led X) = false)) :
  Calls Tryd.prog 8 #[.agg A] w fun e w' => e = .returned (er (E 0)) /\ Hid (Below w.heap.size w w') := by
 have a16 : A.size = 16 := encM_sz hA.out
 obtain ⟨g1, Hg1⟩ := nm (w.heap.size)
 obtain ⟨w1, Hw1⟩ := nm (w.alloc (.cells A 29))
 have B1 := al1 Hw1
 have k1 : Hid (w1.heap[g1]? = some (.cells A 29 (0, 0))) := by rw [<- Hw1.out, <- Hg1.out]; exact heap_alloc_new w _
 have E1 : Hid (Sent w1 M E) := hE.out.below B1.out
 have C1 : Hid (Cms w1 0 x.la x.ln X) := hC.out.below B1.out
 go_enter Tryd.func8, Tryd.ntmps8
 go_upto_region 1 with (fail)
 rw [Hw1.out, Hg1.out]
 go_upto_region 2 with first
  | (refine wpList_load_row (by rfl) 29 (.tmp 1) (by rfl) g1 (by rfl) 29 A (0, 0) _ k1.out Tryd.underlying29 rfl (info29 a16) ?_)
  | (go_at_call 15; refine (inFormM_n hA E1 hM0 C1).mono ?_; rintro e w2 ⟨rfl, h2⟩; rw [hF.out])
 have B2 := bt B1 h2
 have ce : w2.cell? ⟨0, 0, none⟩ = some (er (E 0)) := (hE.out.below B2.out).c 0 hM0
 go_wp2
 go_ret
 exact ⟨rfl, B2.out⟩
set_option maxHeartbeats 2000000 in
theorem putM_no {w : World} {M : Nat -> Prop} {E : Nat -> Addr} {x : Mc} {X : List Cx} {A : Array Value} (hA : Hid (A = (encM x).toArray)) (hE : Hid (Sent w M E)) (hM0 : M 0) (hC : Hid (Cms w 0 x.la x.ln X)) (hF : Hid (mf x (led X) = false)) :
  Calls Tryd.prog 9 #[.agg A] w fun e w' => e = .returned (.tuple #[.slice none 0 0, er (E 0)]) /\ Hid (Below w.heap.size w w') := by
 have a16 : A.size = 16 := encM_sz hA.out
 obtain ⟨g1, Hg1⟩ := nm (w.heap.size)
 obtain ⟨w1, Hw1⟩ := nm (w.alloc (.cells A 29))
 have B1 := al1 Hw1
 have k1 : Hid (w1.heap[g1]? = some (.cells A 29 (0, 0))) := by rw [<- Hw1.out, <- Hg1.out]; exact heap_alloc_new w _
 have E1 : Hid (Sent w1 M E) := hE.out.below B1.out
 have C1 : Hid (Cms w1 0 x.la x.ln X) := hC.out.below B1.out
 go_enter Tryd.func9, Tryd.ntmps9
 go_upto_region 1 with (fail)
 rw [Hw1.out, Hg1.out]
 go_wp2_with first
  | (refine wpList_load_row (by rfl) 29 (.tmp 1) (by rfl) g1 (by rfl) 29 A (0, 0) _ k1.out Tryd.underlying29 rfl (info29 a16) ?_)
  | (go_at_call 8; refine (checkM_no hA E1 hM0 C1 hF).mono ?_; rintro e w2 ⟨rfl, h2⟩)
 go_ret2
 exact ⟨rfl, B1.out.trans (h2.out.mono B1.out.size)⟩
def pmL (y : Nmg) (ys : List Nm) (R : List Nat) : List Nat := sealL (mbL y (sealL (wrL ys)) R)
theorem nm_lt (y : Nm) : ∀ x ∈ y.by, x < 256 := by
 intro x hx
 simp only [Nm.by, cmdL, List.mem_append] at hx
 have ee : ∀ S : List Nat, ∀ z ∈ encs S, z < 256 := by
  intro S
  induction S with
  | nil => intro z hz; cases hz
  | cons s S ih =>
    intro z hz
    have e : encs (s :: S) = enc s ++ encs S := rfl
    rw [e] at hz
    rcases List.mem_append.1 hz with h | h
    . exact enc_bytes _ z h
    . exact ih z h
 simp only [or_assoc] at hx
 repeat' (first | exact enc_bytes _ x hx | exact bl_lt _ x hx | exact ee _ x hx | (rcases hx with hx | hx))
theorem wrL_lt {ys : List Nm} : ∀ x ∈ wrL ys, x < 256 := by
 intro x hx
 rcases List.mem_append.1 hx with h | h
 . exact enc_bytes _ x h
 . obtain ⟨y, hy, hx⟩ := List.mem_flatMap.1 h
   rcases List.mem_append.1 hx with h | h
   . exact enc_bytes _ x h
   . exact nm_lt y x h
set_option maxHeartbeats 4000000 in
theorem putM_yes {w : World} {M : Nat -> Prop} {E : Nat -> Addr} {x : Mc} {X : List Cx} {R : List Nat} {A : Array Value} {y : Nmg} {ys : List Nm} (hA : Hid (A = (encM x).toArray)) (hE : Hid (Sent w M E)) (hM0 : M 0) (hm : Hid (Ms w x X R)) (hF : Hid (mf x (led X) = true)) (hx : Hid (x = y.mc x.la x.ln x.lc x.fa x.fn x.fc)) (hy : Hid (Nlt y 1099511627777)) (hys : Hid (X.map Cx.cm = ys.map Nm.cm)) (hya : Hid (∀ z ∈ ys, Nb z /\ frm z.cm = true)) (hln : Hid (x.ln <= 4096)) (hfn : Hid (x.fn <= 4096)) :
  Calls Tryd.prog 9 #[.agg A] w fun e w' => ∃ g N, e = .returned (.tuple #[.slice (some ⟨g, 0, none⟩) N N, .nilIface]) /\ Hid (Blk w' g (pmL y ys R) /\ N = (pmL y ys R).length /\ N <= 60000000 /\ w.heap.size <= g /\ Below w.heap.size w w') := by
 have a16 : A.size = 16 := encM_sz hA.out
 obtain ⟨la, Hla⟩ := nm (x.la)
 obtain ⟨ln, Hln⟩ := nm (x.ln)
 obtain ⟨lc, Hlc⟩ := nm (x.lc)
 obtain ⟨fa, Hfa⟩ := nm (x.fa)
 obtain ⟨fn, Hfn⟩ := nm (x.fn)
 obtain ⟨fc, Hfc⟩ := nm (x.fc)
 have HX : Hid (x = y.mc la ln lc fa fn fc) := by rw [<- Hla.out, <- Hln.out, <- Hlc.out, <- Hfa.out, <- Hfn.out, <- Hfc.out]; exact hx.out
 have HAy : Hid (A = (encM (y.mc la ln lc fa fn fc)).toArray) := by rw [<- HX.out]; exact hA.out
 have hRz : Hid (fa = none -> fc = 0) := by rw [<- Hfa.out, <- Hfc.out]; exact hm.out.fz
 have hS : Hid (Sln w fa fn R) := by rw [<- Hfa.out, <- Hfn.out]; exact hm.out.fr
 have hC : Hid (Cms w 0 la ln X) := by rw [<- Hla.out, <- Hln.out]; exact hm.out.led
 have hCx : Hid (Cms w 0 x.la x.ln X) := hm.out.led
 have ln4 : ln <= 4096 := by rw [<- Hln.out]; exact hln.out
 have fn4 : fn <= 4096 := by rw [<- Hfn.out]; exact hfn.out
 have YL : Hid (ys.length <= 4096) := by
  have h := congrArg List.length hys.out
  simp only [List.length_map] at h
  have h2 := hC.out.len
  show _ <= _
  omega
 have WL : Hid ((wrL ys).length <= 10000000) := wrL_len hya.out YL.out
 have NY : Nlt y 9223372036854775808 := hy.out.mono (by omega)
 have LC : Hid (∀ z ∈ ys, Nb z /\ frm z.cm = true) := hya.out
 obtain ⟨g1, Hg1⟩ := nm (w.heap.size)
 obtain ⟨w1, Hw1⟩ := nm (w.alloc (.cells A 29))
 have B1 := al1 Hw1
 have k1 : Hid (w1.heap[g1]? = some (.cells A 29 (0, 0))) := by rw [<- Hw1.out, <- Hg1.out]; exact heap_alloc_new w _
 have E1 : Hid (Sent w1 M E) := hE.out.below B1.out
 have C1 : Hid (Cms w1 0 x.la x.ln X) := hCx.out.below B1.out
 go_enter Tryd.func9, Tryd.ntmps9
 go_upto_region 1 with (fail)
 rw [Hw1.out, Hg1.out]
 go_upto_region 4 with first
  | (refine wpList_load_row (by rfl) 29 (.tmp 1) (by rfl) g1 (by rfl) 29 A (0, 0) _ k1.out Tryd.underlying29 rfl (info29 a16) ?_)
  | (go_at_call 8; refine (checkM_yes hA E1 hM0 C1 hF).mono ?_; rintro e w2 ⟨rfl, h2⟩)
 have B2 := bt B1 h2
 have k2 := sh h2 k1
 have E2 : Hid (Sent w2 M E) := hE.out.below B2.out
 have C2 : Hid (Cms w2 0 la ln X) := hC.out.below B2.out
 clear h2 k1 E1 C1
 have x10 : w2.cell? ⟨g1, 10, none⟩ = some (.slice la ln lc) := by simp [World.cell?, k2.out, HAy.out, encM, Nmg.mc]
 go_upto_region 7 with (go_at_call 16; refine (write_yes E2 hM0 C2 ln4 hys LC).mono ?_; rintro e w3 ⟨g3, N3, rfl, h3⟩)
 clear x10
 have B3 : Hid (Below w.heap.size w w3) := B2.out.trans (h3.out.2.2.mono B2.out.size)
 have k3 : Hid (w3.heap[g1]? = some (.cells A 29 (0, 0))) := (h3.out.2.2.block g1 (gl k2.out)).trans k2.out
 have S3 : Hid (Sln w3 (some ⟨g3, 0, none⟩) N3 (sealL (wrL ys))) := by
  have h := h3.out.1.sln (seal_bytes wrL_lt) (by rw [seal_len]; have := WL.out; omega)
  rw [seal_len, <- h3.out.2.1] at h
  exact h
 have Z3 : Hid ((some ⟨g3, 0, none⟩ : Option Addr) = none -> N3 = 0) := fun h => by cases h
 have N3b : N3 <= 20000000 := by have := h3.out.2.1; have := WL.out; omega
 have R3 : Hid (Sln w3 fa fn R) := hS.out.below B3.out
 clear h3 k2 C2 E2
 go_upto_region 10 with first
  | (refine wpList_load_row (by rfl) 29 (.tmp 1) (by rfl) g1 (by rfl) 29 A (0, 0) _ k3.out Tryd.underlying29 rfl (info29 a16) ?_)
  | (go_at_call 17; refine (written_n HAy NY S3 Z3 N3b R3 hRz fn4).mono ?_; rintro e w4 ⟨a4, n4, c4, rfl, h4⟩)
 have B4 : Hid (Below w.heap.size w w4) := B3.out.trans (h4.out.2.1.mono B3.out.size)
 have S4 : Hid (Sln w4 a4 n4 (mbL y (sealL (wrL ys)) R)) := h4.out.1.sln (by have := h4.out.2.2; omega)
 have Z4 : Hid (a4 = none -> c4 = 0) := h4.out.1.cap0
 go_wp2_with (go_at_call 18; refine (seal_n S4 Z4).mono ?_; rintro e w5 ⟨g5, N5, rfl, h5⟩)
 go_ret2
 refine ⟨g5, N5, rfl, h5.out.2.2.1, ?_, ?_, ?_, B4.out.trans (h5.out.2.2.2.mono B4.out.size)⟩
 . rw [h5.out.1, S4.out.len, pmL, seal_len]
 . have := h5.out.1; have := h4.out.2.2; omega
 . rw [h5.out.2.1]; exact B4.out.size
def smB (x : Mc) (X : List Cm) (L : List Nat) (x' : Mc) (X' : List Cm) (L' : List Nat) : Bool :=
 decide (x.K = x'.K) && (decide (x.F = x'.F) && (decide (x.T = x'.T) && (decide (x.t0 = x'.t0 /\ x.t1 = x'.t1 /\ x.t2 = x'.t2) && (decide (x.b0 = x'.b0 /\ x.b1 = x'.b1) && (decide (x.a0 = x'.a0 /\ x.a1 = x'.a1) && (decide (x.B0 = x'.B0 /\ x.B1 = x'.B1 /\ x.B2 = x'.B2) && (decide (x.ok = x'.ok) && (decide (L = L') && decide (X = X')))))))))
theorem spell_injM {L L' : List Nat} (h : ∀ y ∈ L, y < 256) (h' : ∀ y ∈ L', y < 256) : decide (spell L = spell L') = decide (L = L') := by
 apply decide_eq_decide.2
 constructor
 . intro e
   rw [<- bl_spell h, <- bl_spell h', e]
 . intro e
   rw [e]
set_option maxHeartbeats 16000000 in
theorem sameM_n {w : World} {x x' : Mc} {X X' : List Cx} {L L' : List Nat} {A A' : Array Value} (hA : Hid (A = (encM x).toArray)) (hA' : Hid (A' = (encM x').toArray)) (hm : Hid (Ms w x X L)) (hm' : Hid (Ms w x' X' L')) :
  Calls Tryd.prog 10 #[.agg A, .agg A'] w fun e w' => e = .returned (.bool (smB x (led X) L x' (led X') L')) /\ Hid (Below w.heap.size w w') := by
 obtain ⟨k, f, t, t0, t1, t2, p0, p1, q0, q1, la, ln, lc, u0, u1, u2, vk, fa, fn, fc⟩ := x
 obtain ⟨k', f', t', t0', t1', t2', p0', p1', q0', q1', la', ln', lc', u0', u1', u2', vk', fa', fn', fc'⟩ := x'
 obtain ⟨z3, Z3⟩ := nm (decide (t0 = t0' /\ t1 = t1' /\ t2 = t2'))
 obtain ⟨z4, Z4⟩ := nm (decide (p0 = p0' /\ p1 = p1'))
 obtain ⟨z5, Z5⟩ := nm (decide (q0 = q0' /\ q1 = q1'))
 obtain ⟨z6, Z6⟩ := nm (decide (u0 = u0' /\ u1 = u1' /\ u2 = u2'))
 obtain ⟨z8, Z8⟩ := nm (decide (L = L'))
 obtain ⟨z9, Z9⟩ := nm (decide (led X = led X'))
 have EV : Hid (smB ⟨k, f, t, t0, t1, t2, p0, p1, q0, q1, la, ln, lc, u0, u1, u2, vk, fa, fn, fc⟩ (led X) L ⟨k', f', t', t0', t1', t2', p0', p1', q0', q1', la', ln', lc', u0', u1', u2', vk', fa', fn', fc'⟩ (led X') L' = (decide (k = k') && (decide (f = f') && (decide (t = t') && (z3 && (z4 && (z5 && (z6 && (decide (vk = vk') && (z8 && z9)))))))))) := by
  show _ = _
  unfold smB
  simp only
  rw [Z3.out, Z4.out, Z5.out, Z6.out, Z8.out, Z9.out]
 obtain ⟨vv, HVV⟩ := nm (smB ⟨k, f, t, t0, t1, t2, p0, p1, q0, q1, la, ln, lc, u0, u1, u2, vk, fa, fn, fc⟩ (led X) L ⟨k', f', t', t0', t1', t2', p0', p1', q0', q1', la', ln', lc', u0', u1', u2', vk', fa', fn', fc'⟩ (led X') L')
 rw [HVV.out] at EV ⊢
 clear HVV
 have S1 : Hid (Sln w fa fn L) := hm.out.fr
 have S1' : Hid (Sln w fa' fn' L') := hm'.out.fr
 have C1 : Hid (Cms w 0 la ln X) := hm.out.led
 have C1' : Hid (Cms w 0 la' ln' X') := hm'.out.led
 have E3 : ∀ w, (Op.equalIn 10000 23 (idv t0 t1 t2) (idv t0' t1' t2')).run Tryd.prog w = .ok z3 w := fun w => by rw [eqId, Z3.out]
 have E4 : ∀ w, (Op.equalIn 10000 25 (bal p0 p1) (bal p0' p1')).run Tryd.prog w = .ok z4 w := fun w => by rw [eqBal, Z4.out]
 have E5 : ∀ w, (Op.equalIn 10000 25 (bal q0 q1) (bal q0' q1')).run Tryd.prog w = .ok z5 w := fun w => by rw [eqBal, Z5.out]
 have E6 : ∀ w, (Op.equalIn 10000 23 (idv u0 u1 u2) (idv u0' u1' u2')).run Tryd.prog w = .ok z6 w := fun w => by rw [eqId, Z6.out]
 have E8 : ∀ w, (Op.equalIn 10000 9 (.string (spell L)) (.string (spell L'))).run Tryd.prog w = .ok z8 w := fun w => by rw [eqS, spell_injM S1.out.lt S1'.out.lt, Z8.out]
 have D8 : ((spell L).toList == (spell L').toList) = z8 := (spell_beq S1.out.lt S1'.out.lt).trans Z8.out
 clear Z3 Z4 Z5 Z6 Z8 hm hm'
 obtain ⟨g1, Hg1⟩ := nm (w.heap.size)
 obtain ⟨g2, Hg2⟩ := nm (w.heap.size + 1)
 have G2 : Hid (g1 + 1 = g2) := by rw [<- Hg1.out]; exact Hg2.out
 obtain ⟨w1, Hw1⟩ := nm ((w.alloc (.cells A 29)).alloc (.cells A' 29))
 have B1 : Hid (Below w.heap.size w w1) := by rw [<- Hw1.out]; exact alloc2 w _ _
 have h1 : Hid (w1.heap[g1]? = some (.cells A 29 (0, 0))) := by
  rw [<- Hw1.out, <- Hg1.out]
  exact ((alloc1 _ _).block w.heap.size (by simp)).trans (heap_alloc_new w _)
 have h2 : Hid (w1.heap[g2]? = some (.cells A' 29 (0, 0))) := by
  rw [<- Hw1.out, <- Hg2.out]
  show _ = _
  have h := heap_alloc_new (w.alloc (.cells A 29)) (.cells A' 29)
  simpa using h
 have cv1 : (convert 27 9 (.slice fa fn fc)).run Tryd.prog w1 = .ok (.string (spell L)) w1 := conv_n (S1.out.below B1.out)
 have cv2 : (convert 27 9 (.slice fa' fn' fc')).run Tryd.prog w1 = .ok (.string (spell L')) w1 := conv_n (S1'.out.below B1.out)
 have D1 : Hid (Cms w1 0 la ln X) := C1.out.below B1.out
 have D1' : Hid (Cms w1 0 la' ln' X') := C1'.out.below B1.out
 have x0 : w1.cell? ⟨g1, 0, none⟩ = some (.int .i64 k) := by simp [World.cell?, h1.out, hA.out, encM]
 have y0 : w1.cell? ⟨g2, 0, none⟩ = some (.int .i64 k') := by simp [World.cell?, h2.out, hA'.out, encM]
 have x1 : w1.cell? ⟨g1, 1, none⟩ = some (.int .i64 f) := by simp [World.cell?, h1.out, hA.out, encM]
 have y1 : w1.cell? ⟨g2, 1, none⟩ = some (.int .i64 f') := by simp [World.cell?, h2.out, hA'.out, encM]
 have x2 : w1.cell? ⟨g1, 2, none⟩ = some (.int .i64 t) := by simp [World.cell?, h1.out, hA.out, encM]
 have y2 : w1.cell? ⟨g2, 2, none⟩ = some (.int .i64 t') := by simp [World.cell?, h2.out, hA'.out, encM]
 have x3 : w1.cell? ⟨g1, 3, none⟩ = some (.int .i64 t0) := by simp [World.cell?, h1.out, hA.out, encM]
 have y3 : w1.cell? ⟨g2, 3, none⟩ = some (.int .i64 t0') := by simp [World.cell?, h2.out, hA'.out, encM]
 have x4 : w1.cell? ⟨g1, 4, none⟩ = some (.int .i64 t1) := by simp [World.cell?, h1.out, hA.out, encM]
 have y4 : w1.cell? ⟨g2, 4, none⟩ = some (.int .i64 t1') := by simp [World.cell?, h2.out, hA'.out, encM]
 have x5 : w1.cell? ⟨g1, 5, none⟩ = some (.int .i64 t2) := by simp [World.cell?, h1.out, hA.out, encM]
 have y5 : w1.cell? ⟨g2, 5, none⟩ = some (.int .i64 t2') := by simp [World.cell?, h2.out, hA'.out, encM]
 have x6 : w1.cell? ⟨g1, 6, none⟩ = some (.int .i64 p0) := by simp [World.cell?, h1.out, hA.out, encM]
 have y6 : w1.cell? ⟨g2, 6, none⟩ = some (.int .i64 p0') := by simp [World.cell?, h2.out, hA'.out, encM]
 have x7 : w1.cell? ⟨g1, 7, none⟩ = some (.int .i64 p1) := by simp [World.cell?, h1.out, hA.out, encM]
 have y7 : w1.cell? ⟨g2, 7, none⟩ = some (.int .i64 p1') := by simp [World.cell?, h2.out, hA'.out, encM]
 have x8 : w1.cell? ⟨g1, 8, none⟩ = some (.int .i64 q0) := by simp [World.cell?, h1.out, hA.out, encM]
 have y8 : w1.cell? ⟨g2, 8, none⟩ = some (.int .i64 q0') := by simp [World.cell?, h2.out, hA'.out, encM]
 have x9 : w1.cell? ⟨g1, 9, none⟩ = some (.int .i64 q1) := by simp [World.cell?, h1.out, hA.out, encM]
 have y9 : w1.cell? ⟨g2, 9, none⟩ = some (.int .i64 q1') := by simp [World.cell?, h2.out, hA'.out, encM]
 have x10 : w1.cell? ⟨g1, 10, none⟩ = some (.slice la ln lc) := by simp [World.cell?, h1.out, hA.out, encM]
 have y10 : w1.cell? ⟨g2, 10, none⟩ = some (.slice la' ln' lc') := by simp [World.cell?, h2.out, hA'.out, encM]
 have x11 : w1.cell? ⟨g1, 11, none⟩ = some (.int .i64 u0) := by simp [World.cell?, h1.out, hA.out, encM]
 have y11 : w1.cell? ⟨g2, 11, none⟩ = some (.int .i64 u0') := by simp [World.cell?, h2.out, hA'.out, encM]
 have x12 : w1.cell? ⟨g1, 12, none⟩ = some (.int .i64 u1) := by simp [World.cell?, h1.out, hA.out, encM]
 have y12 : w1.cell? ⟨g2, 12, none⟩ = some (.int .i64 u1') := by simp [World.cell?, h2.out, hA'.out, encM]
 have x13 : w1.cell? ⟨g1, 13, none⟩ = some (.int .i64 u2) := by simp [World.cell?, h1.out, hA.out, encM]
 have y13 : w1.cell? ⟨g2, 13, none⟩ = some (.int .i64 u2') := by simp [World.cell?, h2.out, hA'.out, encM]
 have x14 : w1.cell? ⟨g1, 14, none⟩ = some (.bool vk) := by simp [World.cell?, h1.out, hA.out, encM]
 have y14 : w1.cell? ⟨g2, 14, none⟩ = some (.bool vk') := by simp [World.cell?, h2.out, hA'.out, encM]
 have x15 : w1.cell? ⟨g1, 15, none⟩ = some (.slice fa fn fc) := by simp [World.cell?, h1.out, hA.out, encM]
 have y15 : w1.cell? ⟨g2, 15, none⟩ = some (.slice fa' fn' fc') := by simp [World.cell?, h2.out, hA'.out, encM]
 clear S1 S1' C1 C1' h1 h2 hA hA' Hg2
 by_cases e0 : k = k'
 rotate_left
 . skip
   have FV : Hid (vv = false) := by rw [EV.out]; show _ = _; simp [e0]
   rw [FV.out]
   clear EV FV
   go_enter Tryd.func10, Tryd.ntmps10
   go_upto_region 1 with (fail)
   rw [Hw1.out, Hg1.out, G2.out]
   go_wp2
   go_ret
   exact ⟨rfl, B1.out⟩
 subst e0
 by_cases e1 : f = f'
 rotate_left
 . skip
   have FV : Hid (vv = false) := by rw [EV.out]; show _ = _; simp [e1]
   rw [FV.out]
   clear EV FV
   go_enter Tryd.func10, Tryd.ntmps10
   go_upto_region 1 with (fail)
   rw [Hw1.out, Hg1.out, G2.out]
   go_wp2
   go_ret
   exact ⟨rfl, B1.out⟩
 subst e1
 by_cases e2 : t = t'
 rotate_left
 . skip
   have FV : Hid (vv = false) := by rw [EV.out]; show _ = _; simp [e2]
   rw [FV.out]
   clear EV FV
   go_enter Tryd.func10, Tryd.ntmps10
   go_upto_region 1 with (fail)
   rw [Hw1.out, Hg1.out, G2.out]
   go_wp2
   go_ret
   exact ⟨rfl, B1.out⟩
 subst e2
 cases z3 with
 | false =>
   have FV : Hid (vv = false) := by rw [EV.out]; show _ = _; simp []
   rw [FV.out]
   clear EV FV
   go_enter Tryd.func10, Tryd.ntmps10
   go_upto_region 1 with (fail)
   rw [Hw1.out, Hg1.out, G2.out]
   go_wp2
   go_ret
   exact ⟨rfl, B1.out⟩
 | true =>
   cases z4 with
   | false =>
     have FV : Hid (vv = false) := by rw [EV.out]; show _ = _; simp []
     rw [FV.out]
     clear EV FV
     go_enter Tryd.func10, Tryd.ntmps10
     go_upto_region 1 with (fail)
     rw [Hw1.out, Hg1.out, G2.out]
     go_wp2
     go_ret
     exact ⟨rfl, B1.out⟩
   | true =>
     cases z5 with
     | false =>
       have FV : Hid (vv = false) := by rw [EV.out]; show _ = _; simp []
       rw [FV.out]
       clear EV FV
       go_enter Tryd.func10, Tryd.ntmps10
       go_upto_region 1 with (fail)
       rw [Hw1.out, Hg1.out, G2.out]
       go_wp2
       go_ret
       exact ⟨rfl, B1.out⟩
     | true =>
       cases z6 with
       | false =>
         have FV : Hid (vv = false) := by rw [EV.out]; show _ = _; simp []
         rw [FV.out]
         clear EV FV
         go_enter Tryd.func10, Tryd.ntmps10
         go_upto_region 1 with (fail)
         rw [Hw1.out, Hg1.out, G2.out]
         go_wp2
         go_ret
         exact ⟨rfl, B1.out⟩
       | true =>
         by_cases e7 : vk = vk'
         rotate_left
         . skip
           have e7b : (vk == vk') = false := by simpa using e7
           have FV : Hid (vv = false) := by rw [EV.out]; show _ = _; simp [e7]
           rw [FV.out]
           clear EV FV
           go_enter Tryd.func10, Tryd.ntmps10
           go_upto_region 1 with (fail)
           rw [Hw1.out, Hg1.out, G2.out]
           go_wp2
           go_ret
           exact ⟨rfl, B1.out⟩
         subst e7
         cases z8 with
         | false =>
           have FV : Hid (vv = false) := by rw [EV.out]; show _ = _; simp []
           rw [FV.out]
           clear EV FV
           go_enter Tryd.func10, Tryd.ntmps10
           go_upto_region 1 with (fail)
           rw [Hw1.out, Hg1.out, G2.out]
           go_wp2
           go_ret
           exact ⟨rfl, B1.out⟩
         | true =>
           have FV : Hid (vv = z9) := by rw [EV.out]; show _ = _; simp
           rw [FV.out]
           clear EV FV
           go_enter Tryd.func10, Tryd.ntmps10
           go_upto_region 1 with (fail)
           rw [Hw1.out, Hg1.out, G2.out]
           go_wp2_with (go_at_call 19; refine (same_n D1 D1').mono ?_; rintro e w2 ⟨rfl, h2⟩; rw [Z9.out])
           go_ret
           exact ⟨rfl, B1.out.trans (h2.out.mono B1.out.size)⟩
end Go.Proofs.YtppibcambhmomaaDoor
