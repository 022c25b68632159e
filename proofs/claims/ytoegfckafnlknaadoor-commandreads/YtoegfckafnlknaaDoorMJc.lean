import Derived.Test.YtoegfckafnlknaaDoorMJa
import Derived.Test.YtoegfckafnlknaaDoorMXa
/- Jc -/
/- A ledger read whole (f52), Read (f24). -/
namespace Go.Proofs.YtoegfckafnlknaaDoor
open Go.ChangeShapes Go.WideShapes Go.ChangeAt Go.RowKit
set_option maxRecDepth 20000
set_option linter.unusedVariables false
set_option linter.unusedSimpArgs false
theorem ctch83_bad (p x : Addr) (v0 : Value) (older : List PanicEntry) (w : World) (hc : w.cell? p = some v0) (hz : w.frozen? p = false) :
    CallsD Tryd.prog 83 #[.pointer (some p)] (.panicking ({ v := er x, recovered := false } :: older)) w fun e u' w' =>
      e = .returned (.tuple #[]) ∧ u' = .panicking ({ v := er x, recovered := true } :: older) ∧ w' = w.setCell p (er x) := by
  refine callsD_of_wpS Tryd.func83 rfl fun c₀ cs hu => ?_
  apply wpS_seq
  apply wpS_region
  simp [wpOpsS, go_sem, recoverD, hu, Tryd.ntmps83, Exit.thenS, ta_er]
  apply wpS_seq
  apply wpS_region
  simp [wpOpsS, go_sem, Exit.thenS]
  refine wpS_cond (t := true) (by simp [Act.eval, Array.replicate]) ?_
  simp only [if_true]
  apply wpS_region
  simp [wpOpsS, go_sem, hc, hz, bodyPostS, results, Tryd.results83, Array.replicate]
theorem ctch83_idle (p : Addr) (w : World) :
    CallsD Tryd.prog 83 #[.pointer (some p)] .returning w fun e u' w' => e = .returned (.tuple #[]) ∧ u' = .returning ∧ w' = w := by
  refine callsD_of_wpS Tryd.func83 rfl fun c₀ cs hu => ?_
  apply wpS_seq
  apply wpS_region
  simp [wpOpsS, go_sem, recoverD, hu, Tryd.ntmps83, Exit.thenS, ta_nil]
  apply wpS_seq
  apply wpS_region
  simp [wpOpsS, go_sem, Exit.thenS]
  refine wpS_cond (t := false) (by simp [Act.eval, Array.replicate]) ?_
  simp only [Bool.false_eq_true, if_false]
  refine wpS_of_wp (wp_skip ?_)
  cases c₀
  simp_all [bodyPostS, results, Tryd.results83]
/- what is read whole -/
def rdW (l : List Nat) : Option (List Nm) := (rdL l 0).bind fun r => if r.2 = l.length then some r.1 else none
theorem rdW_back {l : List Nat} {ys : List Nm} (hl : ∀ x ∈ l, x < 256) (h : rdW l = some ys) : wrL ys = l ∧ ys.length ≤ 4096 ∧ (∀ y ∈ ys, Nb y ∧ frm y.cm = true) := by
  unfold rdW at h
  simp only [Option.bind_eq_some_iff] at h
  obtain ⟨⟨zs, q⟩, h1, h2⟩ := h
  simp only at h2
  split at h2
  · rename_i hq
    cases h2
    rw [hq] at h1
    exact rdL_back hl h1
  · cases h2
def RdR (w w' : World) (E : Nat → Addr) (l : List Nat) (e : Ending) : Prop :=
  (rdW l = none ∧ e = .returned (.tuple #[.slice none 0 0, er (E 1)]) ∧ Below w.heap.size w w') ∨ (∃ ys la ln lc, rdW l = some ys ∧ e = .returned (.tuple #[.slice la ln lc, .nilIface]) ∧ Below w.heap.size w w' ∧ ∃ Y, led Y = ys.map Nm.cm ∧ Oc w' w.heap.size la ln lc Y)
theorem ledR_no {w : World} {g B : Nat} {M : Nat → Prop} {a : Option Addr} {n c : Nat} {l : List Nat} {p : Nat} {E : Nat → Addr} (hR : Rdr w g B a n c l p) (hE : Sent w M E) (hM : M 1) (hr : rdL l p = none) :
    Calls Tryd.prog 53 #[.agg #[.pointer (some ⟨g, 0, none⟩)]] w fun e w' => e = .panicked [{ v := er (E 1), recovered := false }] ∧ Hid (Wfr w w' g none) := by
  refine (ledR_n hR hE hM).mono ?_
  rintro e w' (⟨_, h1, h2⟩ | ⟨ys, q, la, ln, lc, h, _⟩)
  · exact ⟨h1, h2⟩
  · rw [hr] at h; cases h
theorem ledR_yes {w : World} {g B : Nat} {M : Nat → Prop} {a : Option Addr} {n c : Nat} {l : List Nat} {p : Nat} {E : Nat → Addr} {ys : List Nm} {q : Nat} (hR : Rdr w g B a n c l p) (hE : Sent w M E) (hM : M 1) (hr : rdL l p = some (ys, q)) :
    Calls Tryd.prog 53 #[.agg #[.pointer (some ⟨g, 0, none⟩)]] w fun e w' => ∃ la ln lc, e = .returned (.slice la ln lc) ∧ Hid (LdO w w' g B a n c l q ys la ln lc) := by
  refine (ledR_n hR hE hM).mono ?_
  rintro e w' (⟨h, _⟩ | ⟨zs, q', la, ln, lc, h, h1, h2⟩)
  · rw [hr] at h; cases h
  · rw [hr] at h
    cases h
    exact ⟨la, ln, lc, h1, h2⟩
theorem res52 {fn : Func} (h : fn.results = #[.tmp 4, .cell 5 33]) (tmps : Array Value) (w : World) (g5 : Nat) (x v : Value) (hp4 : tmps[4]?.getD undef = x) (hp5 : tmps[5]?.getD undef = .pointer (some ⟨g5, 0, none⟩)) (h5 : w.cell? ⟨g5, 0, none⟩ = some v) : (results fn tmps).run Tryd.prog w = .ok (.tuple #[x, v]) w := by
  have h5' : (loadVar 33 ⟨g5, 0, none⟩).run Tryd.prog w = .ok v w := by simp [go_sem, h5]
  simp [results, h, hp4, hp5, asAddr, h5']
set_option maxHeartbeats 2000000 in
theorem whole52_no {w : World} {a : Option Addr} {n c : Nat} {l : List Nat} {M : Nat → Prop} {E : Nat → Addr} (hS : Hid (Sln w a n l)) (hc : Hid (a = none → c = 0)) (hE : Hid (Sent w M E)) (hM : M 1) (hr : Hid (rdL l 0 = none)) :
    Calls Tryd.prog 52 #[.slice a n c, .func (.func 53) #[] #[]] w fun e w' => RdR w w' E l e := by
  have hmf : ∀ (fn : Fn) (first cap : Array Value) (w : World), (Instr.makeFunc fn first cap).run Tryd.prog w = .ok (.func fn first cap) w := fun _ _ _ _ => rfl
  obtain ⟨g5, Hg5⟩ : ∃ g, Hid (w.heap.size = g) := ⟨_, rfl⟩
  obtain ⟨w1, Hw1⟩ : ∃ w1, Hid (w.alloc (.cells #[.nilIface] 33) = w1) := ⟨_, rfl⟩
  have B1 : Hid (Below w.heap.size w w1) := by rw [← Hw1.out]; exact alloc1 w _
  have S1 : Hid (Sln w1 a n l) := hS.out.below B1.out
  have E1 : Hid (Sent w1 M E) := hE.out.below B1.out
  have K1 : Hid (w1.heap[g5]? = some (.cells #[.nilIface] 33 (0, 0)) ∧ w1.heap.size = g5 + 1) := by
    rw [← Hw1.out, ← Hg5.out]
    exact ⟨heap_alloc_new w _, by simp⟩
  go_enter_defers Tryd.func52, Tryd.ntmps52
  go_upto_region 2 with (fail)
  rw [Hw1.out, Hg5.out]
  go_upto_region 3 with (go_at_call 72; refine (newReader_n S1 hc).mono ?_; rintro e w2 ⟨g, a2, c2, rfl, H2⟩)
  obtain ⟨g6, Hg6⟩ : ∃ g, Hid (w2.heap.size = g) := ⟨_, rfl⟩
  obtain ⟨w3, Hw3⟩ : ∃ w3, Hid (w2.alloc (.cells #[.pointer (some ⟨g, 0, none⟩)] 75) = w3) := ⟨_, rfl⟩
  have b3 : Hid (Below w2.heap.size w2 w3) := by rw [← Hw3.out]; exact alloc1 w2 _
  have B13 : Hid (Below w1.heap.size w1 w3) := H2.out.2.2.trans (b3.out.mono H2.out.2.2.size)
  have R3 : Hid (Rdr w3 g w1.heap.size a2 n c2 l 0) := H2.out.1.below b3.out
  have E3 : Hid (Sent w3 M E) := E1.out.below B13.out
  have k6 : Hid (w3.heap[g6]? = some (.cells #[.pointer (some ⟨g, 0, none⟩)] 75 (0, 0))) := by rw [← Hw3.out, ← Hg6.out]; exact heap_alloc_new w2 _
  have x6 : w3.cell? ⟨g6, 0, none⟩ = some (.pointer (some ⟨g, 0, none⟩)) := by simp [World.cell?, k6.out]
  have K3 : Hid (w3.heap[g5]? = some (.cells #[.nilIface] 33 (0, 0)) ∧ g5 ≠ g ∧ g6 ≠ g ∧ w.heap.size ≤ g) := by
    have h0 := H2.out.2.1
    have h1 := K1.out.2
    have h3 := Hg5.out
    have h4 := Hg6.out
    have h5 := H2.out.1.lt
    exact ⟨(B13.out.block g5 (by omega)).trans K1.out.1, by omega, by omega, by omega⟩
  have W3 : Hid (w.heap.size ≤ w3.heap.size) := Nat.le_trans B1.out.size B13.out.size
  have Bw3 : Hid (Below w.heap.size w w3) := B1.out.trans (B13.out.mono B1.out.size)
  have G5 : Hid (w.heap.size ≤ g5 ∧ g5 < w3.heap.size) := ⟨by have := Hg5.out; omega, (Array.getElem?_eq_some_iff.1 K3.out.1).1⟩
  rw [Hw3.out, Hg6.out]
  clear K1 b3 H2 S1 E1 B13 Hw3 Hw1
  go_wp2_with (go_at_call 53; refine (ledR_no R3.out E3.out hM hr.out).mono ?_; rintro e w4 ⟨rfl, H4⟩)
  have K6 : Hid (w4.heap[g5]? = some (.cells #[.nilIface] 33 (0, 0))) := box_wfr K3.out.1 K3.out.2.1 H4.out
  have BW6 : Hid (Below w.heap.size w w4) := Wfr.below Bw3.out H4.out K3.out.2.2.2 (by simp [blkOf]) W3.out
  refine leaves_cons (f := 83) (args := #[.pointer (some ⟨g5, 0, none⟩)]) (by simp) (by simp [go_sem]) ?_
  refine (ctch83_bad ⟨g5, 0, none⟩ (E 1) .nilIface [] _ ?_ ?_).mono ?_
  · simp [World.cell?, K6.out]
  · exact fz K6.out 0
  rintro e u' w'' ⟨rfl, rfl, rfl⟩
  obtain ⟨w8, Hw8⟩ : ∃ w8, Hid (w4.setCell ⟨g5, 0, none⟩ (er (E 1)) = w8) := ⟨_, rfl⟩
  have h5 : w8.heap[g5]? = some (.cells #[er (E 1)] 33 (0, 0)) := by rw [← Hw8.out, set_blk K6.out]; rfl
  have c8 : w8.cell? ⟨g5, 0, none⟩ = some (er (E 1)) := by simp [World.cell?, h5]
  have B8 : Hid (Below w.heap.size w w8) := by
    rw [← Hw8.out]
    exact BW6.out.setCell (show w.heap.size ≤ g5 from G5.out.1) _
  rw [Hw8.out]
  simp only [settle, List.dropWhile_nil]
  simp only [Leaves]
  refine ⟨_, res52 Tryd.results52 _ _ g5 (.slice none 0 0) (er (E 1)) (by rfl) (by rfl) c8, ?_⟩
  refine .inl ⟨?_, rfl, B8.out⟩
  unfold rdW
  rw [hr.out]
  rfl
set_option maxHeartbeats 2000000 in
theorem whole52_left {w : World} {a : Option Addr} {n c : Nat} {l : List Nat} {M : Nat → Prop} {E : Nat → Addr} {ys : List Nm} {q : Nat} (hS : Hid (Sln w a n l)) (hc : Hid (a = none → c = 0)) (hE : Hid (Sent w M E)) (hM : M 1) (hr : Hid (rdL l 0 = some (ys, q))) (hq : Hid (q < n)) :
    Calls Tryd.prog 52 #[.slice a n c, .func (.func 53) #[] #[]] w fun e w' => RdR w w' E l e := by
  have hmf : ∀ (fn : Fn) (first cap : Array Value) (w : World), (Instr.makeFunc fn first cap).run Tryd.prog w = .ok (.func fn first cap) w := fun _ _ _ _ => rfl
  obtain ⟨g5, Hg5⟩ : ∃ g, Hid (w.heap.size = g) := ⟨_, rfl⟩
  obtain ⟨w1, Hw1⟩ : ∃ w1, Hid (w.alloc (.cells #[.nilIface] 33) = w1) := ⟨_, rfl⟩
  have B1 : Hid (Below w.heap.size w w1) := by rw [← Hw1.out]; exact alloc1 w _
  have S1 : Hid (Sln w1 a n l) := hS.out.below B1.out
  have E1 : Hid (Sent w1 M E) := hE.out.below B1.out
  have K1 : Hid (w1.heap[g5]? = some (.cells #[.nilIface] 33 (0, 0)) ∧ w1.heap.size = g5 + 1) := by
    rw [← Hw1.out, ← Hg5.out]
    exact ⟨heap_alloc_new w _, by simp⟩
  go_enter_defers Tryd.func52, Tryd.ntmps52
  go_upto_region 2 with (fail)
  rw [Hw1.out, Hg5.out]
  go_upto_region 3 with (go_at_call 72; refine (newReader_n S1 hc).mono ?_; rintro e w2 ⟨g, a2, c2, rfl, H2⟩)
  obtain ⟨g6, Hg6⟩ : ∃ g, Hid (w2.heap.size = g) := ⟨_, rfl⟩
  obtain ⟨w3, Hw3⟩ : ∃ w3, Hid (w2.alloc (.cells #[.pointer (some ⟨g, 0, none⟩)] 75) = w3) := ⟨_, rfl⟩
  have b3 : Hid (Below w2.heap.size w2 w3) := by rw [← Hw3.out]; exact alloc1 w2 _
  have B13 : Hid (Below w1.heap.size w1 w3) := H2.out.2.2.trans (b3.out.mono H2.out.2.2.size)
  have R3 : Hid (Rdr w3 g w1.heap.size a2 n c2 l 0) := H2.out.1.below b3.out
  have E3 : Hid (Sent w3 M E) := E1.out.below B13.out
  have k6 : Hid (w3.heap[g6]? = some (.cells #[.pointer (some ⟨g, 0, none⟩)] 75 (0, 0))) := by rw [← Hw3.out, ← Hg6.out]; exact heap_alloc_new w2 _
  have x6 : w3.cell? ⟨g6, 0, none⟩ = some (.pointer (some ⟨g, 0, none⟩)) := by simp [World.cell?, k6.out]
  have K3 : Hid (w3.heap[g5]? = some (.cells #[.nilIface] 33 (0, 0)) ∧ g5 ≠ g ∧ g6 ≠ g ∧ w.heap.size ≤ g) := by
    have h0 := H2.out.2.1
    have h1 := K1.out.2
    have h3 := Hg5.out
    have h4 := Hg6.out
    have h5 := H2.out.1.lt
    exact ⟨(B13.out.block g5 (by omega)).trans K1.out.1, by omega, by omega, by omega⟩
  have W3 : Hid (w.heap.size ≤ w3.heap.size) := Nat.le_trans B1.out.size B13.out.size
  have Bw3 : Hid (Below w.heap.size w w3) := B1.out.trans (B13.out.mono B1.out.size)
  have G5 : Hid (w.heap.size ≤ g5 ∧ g5 < w3.heap.size) := ⟨by have := Hg5.out; omega, (Array.getElem?_eq_some_iff.1 K3.out.1).1⟩
  rw [Hw3.out, Hg6.out]
  clear K1 b3 H2 S1 E1 B13 Hw3 Hw1
  go_upto_region 4 with (go_at_call 53; refine (ledR_yes R3.out E3.out hM hr.out).mono ?_; rintro e w4 ⟨la, ln, lc, rfl, H4⟩)
  have R5 : Hid (Rdr w4 g w1.heap.size a2 n c2 l q) := H4.out.rdr
  have F5 : Hid (Wfr w3 w4 g none) := H4.out.fr
  have E5 : Hid (Sent w4 M E) := sent_rdr E3.out R3.out R5.out F5.out
  have K5 : Hid (w4.heap[g5]? = some (.cells #[.nilIface] 33 (0, 0)) ∧ w4.heap[g6]? = some (.cells #[.pointer (some ⟨g, 0, none⟩)] 75 (0, 0))) := ⟨box_wfr K3.out.1 K3.out.2.1 F5.out, box_wfr k6.out K3.out.2.2.1 F5.out⟩
  have BW : Hid (Below w.heap.size w w4) := Wfr.below Bw3.out F5.out K3.out.2.2.2 (by simp [blkOf]) W3.out
  have OC : Hid (∃ Y, led Y = ys.map Nm.cm ∧ Oc w4 w3.heap.size la ln lc Y) := H4.out.oc
  clear x6 H4 K3 k6 R3 E3 F5 Bw3
  have x6 : w4.cell? ⟨g6, 0, none⟩ = some (.pointer (some ⟨g, 0, none⟩)) := by simp [World.cell?, K5.out.2]
  go_wp2_with first
    | (go_at_call 74; refine (end_bad R5 E5 hM hq).mono ?_; rintro e w6 ⟨rfl, H6⟩)
    | (go_at_call 73; refine (need_bad _ _).mono ?_; rintro e w0 ⟨rfl, h0⟩; rw [h0]; clear h0)
  have B6 : Hid (Below w4.heap.size w4 w6) := by obtain ⟨j, hj⟩ := H6.out; rw [hj]; exact below_drewN (Below.refl _ _) j
  have K6 : Hid (w6.heap[g5]? = some (.cells #[.nilIface] 33 (0, 0))) := (B6.out.block g5 (Array.getElem?_eq_some_iff.1 K5.out.1).1).trans K5.out.1
  have BW6 : Hid (Below w.heap.size w w6) := BW.out.trans (B6.out.mono BW.out.size)
  refine leaves_cons (f := 83) (args := #[.pointer (some ⟨g5, 0, none⟩)]) (by simp) (by simp [go_sem]) ?_
  refine (ctch83_bad ⟨g5, 0, none⟩ (E 1) .nilIface [] _ ?_ ?_).mono ?_
  · simp [World.cell?, K6.out]
  · exact fz K6.out 0
  rintro e u' w'' ⟨rfl, rfl, rfl⟩
  obtain ⟨w8, Hw8⟩ : ∃ w8, Hid (w6.setCell ⟨g5, 0, none⟩ (er (E 1)) = w8) := ⟨_, rfl⟩
  have h5 : w8.heap[g5]? = some (.cells #[er (E 1)] 33 (0, 0)) := by rw [← Hw8.out, set_blk K6.out]; rfl
  have c8 : w8.cell? ⟨g5, 0, none⟩ = some (er (E 1)) := by simp [World.cell?, h5]
  have B8 : Hid (Below w.heap.size w w8) := by
    rw [← Hw8.out]
    exact BW6.out.setCell (show w.heap.size ≤ g5 from G5.out.1) _
  rw [Hw8.out]
  simp only [settle, List.dropWhile_nil]
  simp only [Leaves]
  refine ⟨_, res52 Tryd.results52 _ _ g5 (.slice none 0 0) (er (E 1)) (by rfl) (by rfl) c8, ?_⟩
  refine .inl ⟨?_, rfl, B8.out⟩
  unfold rdW
  rw [hr.out, Option.bind_some]
  exact if_neg (by have h := hS.out.len; have h2 := hq.out; simp only at h2 ⊢; omega)
set_option maxHeartbeats 2000000 in
theorem whole52_yes {w : World} {a : Option Addr} {n c : Nat} {l : List Nat} {M : Nat → Prop} {E : Nat → Addr} {ys : List Nm} {q : Nat} (hS : Hid (Sln w a n l)) (hc : Hid (a = none → c = 0)) (hE : Hid (Sent w M E)) (hM : M 1) (hr : Hid (rdL l 0 = some (ys, q))) (hq : Hid (q = n)) :
    Calls Tryd.prog 52 #[.slice a n c, .func (.func 53) #[] #[]] w fun e w' => RdR w w' E l e := by
  have hmf : ∀ (fn : Fn) (first cap : Array Value) (w : World), (Instr.makeFunc fn first cap).run Tryd.prog w = .ok (.func fn first cap) w := fun _ _ _ _ => rfl
  obtain ⟨g5, Hg5⟩ : ∃ g, Hid (w.heap.size = g) := ⟨_, rfl⟩
  obtain ⟨w1, Hw1⟩ : ∃ w1, Hid (w.alloc (.cells #[.nilIface] 33) = w1) := ⟨_, rfl⟩
  have B1 : Hid (Below w.heap.size w w1) := by rw [← Hw1.out]; exact alloc1 w _
  have S1 : Hid (Sln w1 a n l) := hS.out.below B1.out
  have E1 : Hid (Sent w1 M E) := hE.out.below B1.out
  have K1 : Hid (w1.heap[g5]? = some (.cells #[.nilIface] 33 (0, 0)) ∧ w1.heap.size = g5 + 1) := by
    rw [← Hw1.out, ← Hg5.out]
    exact ⟨heap_alloc_new w _, by simp⟩
  go_enter_defers Tryd.func52, Tryd.ntmps52
  go_upto_region 2 with (fail)
  rw [Hw1.out, Hg5.out]
  go_upto_region 3 with (go_at_call 72; refine (newReader_n S1 hc).mono ?_; rintro e w2 ⟨g, a2, c2, rfl, H2⟩)
  obtain ⟨g6, Hg6⟩ : ∃ g, Hid (w2.heap.size = g) := ⟨_, rfl⟩
  obtain ⟨w3, Hw3⟩ : ∃ w3, Hid (w2.alloc (.cells #[.pointer (some ⟨g, 0, none⟩)] 75) = w3) := ⟨_, rfl⟩
  have b3 : Hid (Below w2.heap.size w2 w3) := by rw [← Hw3.out]; exact alloc1 w2 _
  have B13 : Hid (Below w1.heap.size w1 w3) := H2.out.2.2.trans (b3.out.mono H2.out.2.2.size)
  have R3 : Hid (Rdr w3 g w1.heap.size a2 n c2 l 0) := H2.out.1.below b3.out
  have E3 : Hid (Sent w3 M E) := E1.out.below B13.out
  have k6 : Hid (w3.heap[g6]? = some (.cells #[.pointer (some ⟨g, 0, none⟩)] 75 (0, 0))) := by rw [← Hw3.out, ← Hg6.out]; exact heap_alloc_new w2 _
  have x6 : w3.cell? ⟨g6, 0, none⟩ = some (.pointer (some ⟨g, 0, none⟩)) := by simp [World.cell?, k6.out]
  have K3 : Hid (w3.heap[g5]? = some (.cells #[.nilIface] 33 (0, 0)) ∧ g5 ≠ g ∧ g6 ≠ g ∧ w.heap.size ≤ g) := by
    have h0 := H2.out.2.1
    have h1 := K1.out.2
    have h3 := Hg5.out
    have h4 := Hg6.out
    have h5 := H2.out.1.lt
    exact ⟨(B13.out.block g5 (by omega)).trans K1.out.1, by omega, by omega, by omega⟩
  have W3 : Hid (w.heap.size ≤ w3.heap.size) := Nat.le_trans B1.out.size B13.out.size
  have Bw3 : Hid (Below w.heap.size w w3) := B1.out.trans (B13.out.mono B1.out.size)
  have G5 : Hid (w.heap.size ≤ g5 ∧ g5 < w3.heap.size) := ⟨by have := Hg5.out; omega, (Array.getElem?_eq_some_iff.1 K3.out.1).1⟩
  rw [Hw3.out, Hg6.out]
  clear K1 b3 H2 S1 E1 B13 Hw3 Hw1
  go_upto_region 4 with (go_at_call 53; refine (ledR_yes R3.out E3.out hM hr.out).mono ?_; rintro e w4 ⟨la, ln, lc, rfl, H4⟩)
  have R5 : Hid (Rdr w4 g w1.heap.size a2 n c2 l q) := H4.out.rdr
  have F5 : Hid (Wfr w3 w4 g none) := H4.out.fr
  have E5 : Hid (Sent w4 M E) := sent_rdr E3.out R3.out R5.out F5.out
  have K5 : Hid (w4.heap[g5]? = some (.cells #[.nilIface] 33 (0, 0)) ∧ w4.heap[g6]? = some (.cells #[.pointer (some ⟨g, 0, none⟩)] 75 (0, 0))) := ⟨box_wfr K3.out.1 K3.out.2.1 F5.out, box_wfr k6.out K3.out.2.2.1 F5.out⟩
  have BW : Hid (Below w.heap.size w w4) := Wfr.below Bw3.out F5.out K3.out.2.2.2 (by simp [blkOf]) W3.out
  have OC : Hid (∃ Y, led Y = ys.map Nm.cm ∧ Oc w4 w3.heap.size la ln lc Y) := H4.out.oc
  clear x6 H4 K3 k6 R3 E3 F5 Bw3
  have x6 : w4.cell? ⟨g6, 0, none⟩ = some (.pointer (some ⟨g, 0, none⟩)) := by simp [World.cell?, K5.out.2]
  go_upto_region 5 with first
    | (go_at_call 74; refine (end_ok R5 hq).mono ?_; rintro e w6 ⟨rfl, H6⟩)
    | (go_at_call 73; refine (need_ok _).mono ?_; rintro e w0 ⟨rfl, h0⟩; rw [h0]; clear h0)
  have B6 : Hid (Below w4.heap.size w4 w6) := by obtain ⟨j, hj⟩ := H6.out; rw [hj]; exact below_drewN (Below.refl _ _) j
  have K6 : Hid (w6.heap[g5]? = some (.cells #[.nilIface] 33 (0, 0))) := (B6.out.block g5 (Array.getElem?_eq_some_iff.1 K5.out.1).1).trans K5.out.1
  have BW6 : Hid (Below w.heap.size w w6) := BW.out.trans (B6.out.mono BW.out.size)
  have c5 : w6.cell? ⟨g5, 0, none⟩ = some .nilIface := by simp [World.cell?, K6.out]
  have f5 : w6.frozen? ⟨g5, 0, none⟩ = false := fz K6.out 0
  clear x6
  go_wp2
  obtain ⟨w8, Hw8⟩ : ∃ w8, Hid (w6.setCell ⟨g5, 0, none⟩ .nilIface = w8) := ⟨_, rfl⟩
  have h5 : w8.heap[g5]? = some (.cells #[.nilIface] 33 (0, 0)) := by rw [← Hw8.out, set_blk K6.out]; rfl
  have c8 : w8.cell? ⟨g5, 0, none⟩ = some .nilIface := by simp [World.cell?, h5]
  have B8 : Hid (Below w.heap.size w w8) := by
    rw [← Hw8.out]
    exact BW6.out.setCell (show w.heap.size ≤ g5 from G5.out.1) _
  have O8 : Hid (∃ Y, led Y = ys.map Nm.cm ∧ Oc w8 w.heap.size la ln lc Y) := by
    obtain ⟨Y, h1, h2⟩ := OC.out
    refine ⟨Y, h1, ((h2.below B6.out).keep (fun k h3 h4 => ?_)).mono W3.out⟩
    rw [← Hw8.out]
    exact heap_setCell_other _ ⟨g5, 0, none⟩ k _ (by show k ≠ g5; have := G5.out.2; omega)
  try rw [Hw8.out]
  refine leaves_cons (f := 83) (args := #[.pointer (some ⟨g5, 0, none⟩)]) (by simp) (by simp [go_sem]) ?_
  refine (ctch83_idle ⟨g5, 0, none⟩ _).mono ?_
  rintro e u' w'' ⟨rfl, rfl, rfl⟩
  simp only [Leaves, settle]
  refine ⟨_, res52 Tryd.results52 _ _ g5 (.slice la ln lc) .nilIface (by rfl) (by rfl) c8, ?_⟩
  refine .inr ⟨ys, la, ln, lc, ?_, rfl, B8.out, O8.out⟩
  unfold rdW
  rw [hr.out, Option.bind_some]
  exact if_pos (by have h := hS.out.len; have h2 := hq.out; simp only at h2 ⊢; omega)
theorem whole52_n {w : World} {a : Option Addr} {n c : Nat} {l : List Nat} {M : Nat → Prop} {E : Nat → Addr} (hS : Hid (Sln w a n l)) (hc : Hid (a = none → c = 0)) (hE : Hid (Sent w M E)) (hM : M 1) :
    Calls Tryd.prog 52 #[.slice a n c, .func (.func 53) #[] #[]] w fun e w' => RdR w w' E l e := by
  rcases opt_cases (rdL l 0) with h | ⟨⟨ys, q⟩, h⟩
  · exact whole52_no hS hc hE hM h
  · have hl : ∀ y ∈ l, y < 256 := hS.out.lt
    have h1 : q ≤ n := by
      have h0 := h
      unfold rdL at h0
      simp only [Option.bind_eq_some_iff] at h0
      obtain ⟨⟨k, p1⟩, r1, r2⟩ := h0
      obtain ⟨a1, a2, a3⟩ := rn_back hl r1
      obtain ⟨b1, b2, b3, b4⟩ := rl_back hl _ _ _ _ r2
      simp only at *
      rw [List.drop_zero] at a1
      rw [b1] at a1
      have h6 := congrArg List.length a1
      simp only [List.length_append] at h6
      have := hS.out.len
      omega
    by_cases e : q = n
    · exact whole52_yes hS hc hE hM h e
    · exact whole52_left hS hc hE hM h (show Hid (q < n) from (by show q < n; omega))
/- Read -/
def rdA (l : List Nat) : Option (List Nm) := if (opn l).2 = 0 then rdW (opn l).1 else none
set_option maxHeartbeats 2000000 in
theorem readA_yes {w : World} {a : Option Addr} {n c : Nat} {l : List Nat} {M : Nat → Prop} {E : Nat → Addr} {ys : List Nm} (hS : Hid (Sln w a n l)) (hc : Hid (a = none → c = 0)) (hnc : n ≤ c) (hE : Hid (Sent w M E)) (hM1 : M 1) (hM7 : M 7) (ho : Hid ((opn l).2 = 0)) (hr : Hid (rdW (opn l).1 = some ys)) :
    Calls Tryd.prog 24 #[.slice a n c] w fun e w' => ∃ la ln lc, e = .returned (.tuple #[.slice la ln lc, .nilIface]) ∧ Hid (Below w.heap.size w w' ∧ ∃ Y, led Y = ys.map Nm.cm ∧ Oc w' w.heap.size la ln lc Y) := by
  go_enter Tryd.func24, Tryd.ntmps24
  go_upto_region 2 with (go_at_call 51; refine (open_any hS hc hnc hE hM7 hM1).mono ?_; rintro e w2 ⟨a2, n2, c2, v, rfl, H2⟩)
  obtain ⟨rfl, hO, hB⟩ : v = .nilIface ∧ Own w2 w.heap.size a2 n2 c2 (opn l).1 ∧ Below w.heap.size w w2 := by
    have h := H2.out
    rw [ho.out] at h
    exact ⟨h.1, h.2.1, h.2.2⟩
  have O2 := show Hid (Own w2 w.heap.size a2 n2 c2 (opn l).1) from hO
  have B2 := show Hid (Below w.heap.size w w2) from hB
  clear hO hB H2
  have LN : Hid (n2 ≤ 140737488352256) := by
    have h1 := O2.out.len
    have h2 : (opn l).1.length ≤ l.length := by
      unfold opn
      split
      · exact Nat.zero_le _
      · split
        · simp only [List.length_take]; omega
        · exact Nat.zero_le _
    have h3 := hS.out.sli.2.1
    show _ ≤ _
    omega
  have S2 : Hid (Sln w2 a2 n2 (opn l).1) := O2.out.sln LN.out
  have Z2 : Hid (a2 = none → c2 = 0) := O2.out.cap0
  have E2 : Hid (Sent w2 M E) := hE.out.below B2.out
  have CW : Hid (Calls Tryd.prog 52 #[.slice a2 n2 c2, .func (.func 53) #[] #[]] w2 fun e w' => ∃ la ln lc, e = .returned (.tuple #[.slice la ln lc, .nilIface]) ∧ Hid (Below w2.heap.size w2 w' ∧ ∃ Y, led Y = ys.map Nm.cm ∧ Oc w' w2.heap.size la ln lc Y)) := by
    refine (whole52_n S2 Z2 E2 hM1).mono ?_
    rintro e w' (⟨h, _⟩ | ⟨zs, la, ln, lc, h, h1, h2, h3⟩)
    · rw [hr.out] at h; cases h
    · rw [hr.out] at h
      cases h
      exact ⟨la, ln, lc, h1, h2, h3⟩
  go_wp2_with (go_at_call 52; refine CW.out.mono ?_; rintro e w3 ⟨la, ln, lc, rfl, H3⟩)
  go_ret2
  obtain ⟨h1, Y, h2, h3⟩ := H3.out
  exact ⟨la, ln, lc, rfl, B2.out.trans (h1.mono B2.out.size), Y, h2, h3.mono B2.out.size⟩
end Go.Proofs.YtoegfckafnlknaaDoor
