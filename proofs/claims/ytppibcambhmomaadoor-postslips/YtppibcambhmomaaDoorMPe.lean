/- What a message in form is made of; Check and Put of package post. -/
import Derived.Test.YtppibcambhmomaaDoorMh
import Derived.Test.YtppibcambhmomaaDoorMPb
import Derived.Test.YtppibcambhmomaaDoorMPd
import Derived.Test.YtppibcambhmomaaDoorMKa
namespace Go.Proofs.YtppibcambhmomaaDoor
open Go.ChangeShapes Go.WideShapes Go.ChangeAt Go.RowKit
set_option maxRecDepth 20000
set_option linter.unusedVariables false
set_option linter.unusedSimpArgs false
theorem Nlt.mono {y : Nmg} {a b : Nat} (h : Nlt y a) (hab : a ≤ b) : Nlt y b :=
  ⟨Nat.lt_of_lt_of_le h.K hab, Nat.lt_of_lt_of_le h.F hab, Nat.lt_of_lt_of_le h.T hab, Nat.lt_of_lt_of_le h.t0 hab, Nat.lt_of_lt_of_le h.t1 hab, Nat.lt_of_lt_of_le h.t2 hab, Nat.lt_of_lt_of_le h.b0 hab, Nat.lt_of_lt_of_le h.b1 hab, Nat.lt_of_lt_of_le h.a0 hab, Nat.lt_of_lt_of_le h.a1 hab, Nat.lt_of_lt_of_le h.B0 hab, Nat.lt_of_lt_of_le h.B1 hab, Nat.lt_of_lt_of_le h.B2 hab⟩
theorem mf_nat {x : Mc} {X : List Cx} (hl : x.ln = X.length) (h : mf x (led X) = true) : ∃ (y : Nmg) (ys : List Nm), x = y.mc x.la x.ln x.lc x.fa x.fn x.fc ∧ Nlt y 1099511627777 ∧ X.map Cx.cm = ys.map Nm.cm ∧ (∀ z ∈ ys, Nb z ∧ frm z.cm = true) ∧ x.ln ≤ 4096 ∧ x.fn ≤ 4096 := by
  obtain ⟨k, f, t, t0, t1, t2, p0, p1, q0, q1, la, ln, lc, u0, u1, u2, vk, fa, fn, fc⟩ := x
  unfold mf at h
  simp only [Bool.and_eq_true] at h
  obtain ⟨h1, h2, h3, h4, h5, h6, h7, h8, h9, h10⟩ := h
  have e1 : 1 ≤ k ∧ k ≤ 9 := of_decide_eq_true h1
  have e2 : 0 ≤ f ∧ f < 16 := of_decide_eq_true h2
  have e3 : 0 ≤ t ∧ t < 16 := of_decide_eq_true h3
  have id : ∀ {a b c : Int}, gdI a b c = true → (0 ≤ a ∧ a ≤ 15) ∧ (0 ≤ b ∧ b ≤ 1099511627776) ∧ (0 ≤ c ∧ c ≤ 1099511627776) := fun {a b c} h => by
    unfold gdI tmT at h
    simp only [Bool.and_eq_true, decide_eq_true_eq] at h
    omega
  have lg : ∀ {a b : Int}, lgT a b = true → (0 ≤ a ∧ a ≤ 1099511627776) ∧ (0 ≤ b ∧ b ≤ 15) := fun {a b} h => by
    have h := of_decide_eq_true h
    omega
  have e4 := id h4
  have e5 : (0 ≤ p0 ∧ p0 ≤ 1099511627776) ∧ (0 ≤ p1 ∧ p1 ≤ 15) := by
    rcases goz_or h5 with h | h
    · exact lg h
    · have := of_decide_eq_true h; omega
  have e6 : (0 ≤ q0 ∧ q0 ≤ 1099511627776) ∧ (0 ≤ q1 ∧ q1 ≤ 15) := by
    rcases goz_or h6 with h | h
    · exact lg h
    · have := of_decide_eq_true h; omega
  have e7 : (0 ≤ u0 ∧ u0 ≤ 15) ∧ (0 ≤ u1 ∧ u1 ≤ 1099511627776) ∧ (0 ≤ u2 ∧ u2 ≤ 1099511627776) := by
    rcases goz_or h7 with h | h
    · exact id h
    · have := of_decide_eq_true h; omega
  have e9 : fn ≤ 4096 := by
    rcases goz_or h9 with h | h
    · have : (fn : Int) ≤ 4096 := of_decide_eq_true h
      omega
    · have : (fn : Int) = 0 := of_decide_eq_true h
      omega
  have e10 : ln ≤ 4096 ∧ ∀ z ∈ X, frm z.cm = true := by
    rcases goz_or h10 with h | h
    · simp only [ldT, Bool.and_eq_true, decide_eq_true_eq] at h
      exact ⟨h.1, fun z hz => List.all_eq_true.1 h.2 z.cm (List.mem_map.2 ⟨z, hz, rfl⟩)⟩
    · have h0 : (ln : Int) = 0 := of_decide_eq_true h
      have h0 : ln = 0 := by omega
      have hx : X = [] := List.length_eq_zero_iff.1 (by rw [← hl]; exact h0)
      exact ⟨by omega, fun z hz => by rw [hx] at hz; cases hz⟩
  obtain ⟨ys, hy1, hy2⟩ := frm_all e10.2
  refine ⟨⟨k.toNat, f.toNat, t.toNat, t0.toNat, t1.toNat, t2.toNat, p0.toNat, p1.toNat, q0.toNat, q1.toNat, u0.toNat, u1.toNat, u2.toNat, vk⟩, ys, ?_, ?_, hy1, hy2, e10.1, e9⟩
  · unfold Nmg.mc
    simp only [Mc.mk.injEq, true_and, and_true]
    refine ⟨by omega, by omega, by omega, by omega, by omega, by omega, by omega, by omega, by omega, by omega, by omega, by omega, by omega⟩
  · refine ⟨?_, ?_, ?_, ?_, ?_, ?_, ?_, ?_, ?_, ?_, ?_, ?_, ?_⟩
    all_goals (show Int.toNat _ < _; omega)
set_option maxHeartbeats 2000000 in
theorem checkM_yes {w : World} {M : Nat → Prop} {E : Nat → Addr} {x : Mc} {X : List Cx} {A : Array Value} (hA : Hid (A = (encM x).toArray)) (hE : Hid (Sent w M E)) (hM0 : M 0) (hC : Hid (Cms w 0 x.la x.ln X)) (hF : Hid (mf x (led X) = true)) :
    Calls Tryd.prog 8 #[.agg A] w fun e w' => e = .returned .nilIface ∧ Hid (Below w.heap.size w w') := by
  have a16 : A.size = 16 := encM_sz hA.out
  obtain ⟨g1, Hg1⟩ : ∃ g, Hid (w.heap.size = g) := ⟨_, rfl⟩
  obtain ⟨w1, Hw1⟩ : ∃ w1, Hid (w.alloc (.cells A 29) = w1) := ⟨_, rfl⟩
  have B1 : Hid (Below w.heap.size w w1) := by rw [← Hw1.out]; exact alloc1 w _
  have k1 : Hid (w1.heap[g1]? = some (.cells A 29 (0, 0))) := by rw [← Hw1.out, ← Hg1.out]; exact heap_alloc_new w _
  have E1 : Hid (Sent w1 M E) := hE.out.below B1.out
  have C1 : Hid (Cms w1 0 x.la x.ln X) := hC.out.below B1.out
  go_enter Tryd.func8, Tryd.ntmps8
  go_upto_region 1 with (fail)
  rw [Hw1.out, Hg1.out]
  go_wp2_with first
    | (refine wpList_load_row (by rfl) 29 (.tmp 1) (by rfl) g1 (by rfl) 29 A (0, 0) _ k1.out Tryd.underlying29 rfl (info29 a16) ?_)
    | (go_at_call 15; refine (inFormM_n hA E1 hM0 C1).mono ?_; rintro e w2 ⟨rfl, h2⟩; rw [hF.out])
  go_ret
  exact ⟨rfl, B1.out.trans (h2.out.mono B1.out.size)⟩
set_option maxHeartbeats 2000000 in
theorem checkM_no {w : World} {M : Nat → Prop} {E : Nat → Addr} {x : Mc} {X : List Cx} {A : Array Value} (hA : Hid (A = (encM x).toArray)) (hE : Hid (Sent w M E)) (hM0 : M 0) (hC : Hid (Cms w 0 x.la x.ln X)) (hF : Hid (mf x (led X) = false)) :
    Calls Tryd.prog 8 #[.agg A] w fun e w' => e = .returned (er (E 0)) ∧ Hid (Below w.heap.size w w') := by
  have a16 : A.size = 16 := encM_sz hA.out
  obtain ⟨g1, Hg1⟩ : ∃ g, Hid (w.heap.size = g) := ⟨_, rfl⟩
  obtain ⟨w1, Hw1⟩ : ∃ w1, Hid (w.alloc (.cells A 29) = w1) := ⟨_, rfl⟩
  have B1 : Hid (Below w.heap.size w w1) := by rw [← Hw1.out]; exact alloc1 w _
  have k1 : Hid (w1.heap[g1]? = some (.cells A 29 (0, 0))) := by rw [← Hw1.out, ← Hg1.out]; exact heap_alloc_new w _
  have E1 : Hid (Sent w1 M E) := hE.out.below B1.out
  have C1 : Hid (Cms w1 0 x.la x.ln X) := hC.out.below B1.out
  go_enter Tryd.func8, Tryd.ntmps8
  go_upto_region 1 with (fail)
  rw [Hw1.out, Hg1.out]
  go_upto_region 2 with first
    | (refine wpList_load_row (by rfl) 29 (.tmp 1) (by rfl) g1 (by rfl) 29 A (0, 0) _ k1.out Tryd.underlying29 rfl (info29 a16) ?_)
    | (go_at_call 15; refine (inFormM_n hA E1 hM0 C1).mono ?_; rintro e w2 ⟨rfl, h2⟩; rw [hF.out])
  have B2 : Hid (Below w.heap.size w w2) := B1.out.trans (h2.out.mono B1.out.size)
  have ce : w2.cell? ⟨0, 0, none⟩ = some (er (E 0)) := (hE.out.below B2.out).c 0 hM0
  go_wp2
  go_ret
  exact ⟨rfl, B2.out⟩
set_option maxHeartbeats 2000000 in
theorem putM_no {w : World} {M : Nat → Prop} {E : Nat → Addr} {x : Mc} {X : List Cx} {A : Array Value} (hA : Hid (A = (encM x).toArray)) (hE : Hid (Sent w M E)) (hM0 : M 0) (hC : Hid (Cms w 0 x.la x.ln X)) (hF : Hid (mf x (led X) = false)) :
    Calls Tryd.prog 9 #[.agg A] w fun e w' => e = .returned (.tuple #[.slice none 0 0, er (E 0)]) ∧ Hid (Below w.heap.size w w') := by
  have a16 : A.size = 16 := encM_sz hA.out
  obtain ⟨g1, Hg1⟩ : ∃ g, Hid (w.heap.size = g) := ⟨_, rfl⟩
  obtain ⟨w1, Hw1⟩ : ∃ w1, Hid (w.alloc (.cells A 29) = w1) := ⟨_, rfl⟩
  have B1 : Hid (Below w.heap.size w w1) := by rw [← Hw1.out]; exact alloc1 w _
  have k1 : Hid (w1.heap[g1]? = some (.cells A 29 (0, 0))) := by rw [← Hw1.out, ← Hg1.out]; exact heap_alloc_new w _
  have E1 : Hid (Sent w1 M E) := hE.out.below B1.out
  have C1 : Hid (Cms w1 0 x.la x.ln X) := hC.out.below B1.out
  go_enter Tryd.func9, Tryd.ntmps9
  go_upto_region 1 with (fail)
  rw [Hw1.out, Hg1.out]
  go_wp2_with first
    | (refine wpList_load_row (by rfl) 29 (.tmp 1) (by rfl) g1 (by rfl) 29 A (0, 0) _ k1.out Tryd.underlying29 rfl (info29 a16) ?_)
    | (go_at_call 8; refine (checkM_no hA E1 hM0 C1 hF).mono ?_; rintro e w2 ⟨rfl, h2⟩)
  go_ret2
  exact ⟨rfl, B1.out.trans (h2.out.mono B1.out.size)⟩
/- the bytes of a message in form -/
def pmL (y : Nmg) (ys : List Nm) (R : List Nat) : List Nat := sealL (mbL y (sealL (wrL ys)) R)
theorem nm_lt (y : Nm) : ∀ x ∈ y.by, x < 256 := by
  intro x hx
  simp only [Nm.by, cmdL, List.mem_append] at hx
  have ee : ∀ S : List Nat, ∀ z ∈ encs S, z < 256 := by
    intro S
    induction S with
    | nil => intro z hz; cases hz
    | cons s S ih =>
      intro z hz
      have e : encs (s :: S) = enc s ++ encs S := rfl
      rw [e] at hz
      rcases List.mem_append.1 hz with h | h
      · exact enc_bytes _ z h
      · exact ih z h
  simp only [or_assoc] at hx
  repeat' (first | exact enc_bytes _ x hx | exact bl_lt _ x hx | exact ee _ x hx | (rcases hx with hx | hx))
theorem wrL_lt {ys : List Nm} : ∀ x ∈ wrL ys, x < 256 := by
  intro x hx
  rcases List.mem_append.1 hx with h | h
  · exact enc_bytes _ x h
  · obtain ⟨y, hy, hx⟩ := List.mem_flatMap.1 h
    rcases List.mem_append.1 hx with h | h
    · exact enc_bytes _ x h
    · exact nm_lt y x h
set_option maxHeartbeats 4000000 in
theorem putM_yes {w : World} {M : Nat → Prop} {E : Nat → Addr} {x : Mc} {X : List Cx} {R : List Nat} {A : Array Value} {y : Nmg} {ys : List Nm} (hA : Hid (A = (encM x).toArray)) (hE : Hid (Sent w M E)) (hM0 : M 0) (hm : Hid (Ms w x X R)) (hF : Hid (mf x (led X) = true)) (hx : Hid (x = y.mc x.la x.ln x.lc x.fa x.fn x.fc)) (hy : Hid (Nlt y 1099511627777)) (hys : Hid (X.map Cx.cm = ys.map Nm.cm)) (hya : Hid (∀ z ∈ ys, Nb z ∧ frm z.cm = true)) (hln : Hid (x.ln ≤ 4096)) (hfn : Hid (x.fn ≤ 4096)) :
    Calls Tryd.prog 9 #[.agg A] w fun e w' => ∃ g N, e = .returned (.tuple #[.slice (some ⟨g, 0, none⟩) N N, .nilIface]) ∧ Hid (Blk w' g (pmL y ys R) ∧ N = (pmL y ys R).length ∧ N ≤ 60000000 ∧ w.heap.size ≤ g ∧ Below w.heap.size w w') := by
  have a16 : A.size = 16 := encM_sz hA.out
  obtain ⟨la, Hla⟩ : ∃ v, Hid (x.la = v) := ⟨_, rfl⟩
  obtain ⟨ln, Hln⟩ : ∃ v, Hid (x.ln = v) := ⟨_, rfl⟩
  obtain ⟨lc, Hlc⟩ : ∃ v, Hid (x.lc = v) := ⟨_, rfl⟩
  obtain ⟨fa, Hfa⟩ : ∃ v, Hid (x.fa = v) := ⟨_, rfl⟩
  obtain ⟨fn, Hfn⟩ : ∃ v, Hid (x.fn = v) := ⟨_, rfl⟩
  obtain ⟨fc, Hfc⟩ : ∃ v, Hid (x.fc = v) := ⟨_, rfl⟩
  have HX : Hid (x = y.mc la ln lc fa fn fc) := by rw [← Hla.out, ← Hln.out, ← Hlc.out, ← Hfa.out, ← Hfn.out, ← Hfc.out]; exact hx.out
  have HAy : Hid (A = (encM (y.mc la ln lc fa fn fc)).toArray) := by rw [← HX.out]; exact hA.out
  have hRz : Hid (fa = none → fc = 0) := by rw [← Hfa.out, ← Hfc.out]; exact hm.out.fz
  have hS : Hid (Sln w fa fn R) := by rw [← Hfa.out, ← Hfn.out]; exact hm.out.fr
  have hC : Hid (Cms w 0 la ln X) := by rw [← Hla.out, ← Hln.out]; exact hm.out.led
  have hCx : Hid (Cms w 0 x.la x.ln X) := hm.out.led
  have ln4 : ln ≤ 4096 := by rw [← Hln.out]; exact hln.out
  have fn4 : fn ≤ 4096 := by rw [← Hfn.out]; exact hfn.out
  have YL : Hid (ys.length ≤ 4096) := by
    have h := congrArg List.length hys.out
    simp only [List.length_map] at h
    have h2 := hC.out.len
    show _ ≤ _
    omega
  have WL : Hid ((wrL ys).length ≤ 10000000) := wrL_len hya.out YL.out
  have NY : Nlt y 9223372036854775808 := hy.out.mono (by omega)
  have LC : Hid (∀ z ∈ ys, Nb z ∧ frm z.cm = true) := hya.out
  obtain ⟨g1, Hg1⟩ : ∃ g, Hid (w.heap.size = g) := ⟨_, rfl⟩
  obtain ⟨w1, Hw1⟩ : ∃ w1, Hid (w.alloc (.cells A 29) = w1) := ⟨_, rfl⟩
  have B1 : Hid (Below w.heap.size w w1) := by rw [← Hw1.out]; exact alloc1 w _
  have k1 : Hid (w1.heap[g1]? = some (.cells A 29 (0, 0))) := by rw [← Hw1.out, ← Hg1.out]; exact heap_alloc_new w _
  have E1 : Hid (Sent w1 M E) := hE.out.below B1.out
  have C1 : Hid (Cms w1 0 x.la x.ln X) := hCx.out.below B1.out
  go_enter Tryd.func9, Tryd.ntmps9
  go_upto_region 1 with (fail)
  rw [Hw1.out, Hg1.out]
  go_upto_region 4 with first
    | (refine wpList_load_row (by rfl) 29 (.tmp 1) (by rfl) g1 (by rfl) 29 A (0, 0) _ k1.out Tryd.underlying29 rfl (info29 a16) ?_)
    | (go_at_call 8; refine (checkM_yes hA E1 hM0 C1 hF).mono ?_; rintro e w2 ⟨rfl, h2⟩)
  have B2 : Hid (Below w.heap.size w w2) := B1.out.trans (h2.out.mono B1.out.size)
  have k2 : Hid (w2.heap[g1]? = some (.cells A 29 (0, 0))) := (h2.out.block g1 (Array.getElem?_eq_some_iff.1 k1.out).1).trans k1.out
  have E2 : Hid (Sent w2 M E) := hE.out.below B2.out
  have C2 : Hid (Cms w2 0 la ln X) := hC.out.below B2.out
  clear h2 k1 E1 C1
  have x10 : w2.cell? ⟨g1, 10, none⟩ = some (.slice la ln lc) := by simp [World.cell?, k2.out, HAy.out, encM, Nmg.mc]
  go_upto_region 7 with (go_at_call 16; refine (write_yes E2 hM0 C2 ln4 hys LC).mono ?_; rintro e w3 ⟨g3, N3, rfl, h3⟩)
  clear x10
  have B3 : Hid (Below w.heap.size w w3) := B2.out.trans (h3.out.2.2.mono B2.out.size)
  have k3 : Hid (w3.heap[g1]? = some (.cells A 29 (0, 0))) := (h3.out.2.2.block g1 (Array.getElem?_eq_some_iff.1 k2.out).1).trans k2.out
  have S3 : Hid (Sln w3 (some ⟨g3, 0, none⟩) N3 (sealL (wrL ys))) := by
    have h := h3.out.1.sln (seal_bytes wrL_lt) (by rw [seal_len]; have := WL.out; omega)
    rw [seal_len, ← h3.out.2.1] at h
    exact h
  have Z3 : Hid ((some ⟨g3, 0, none⟩ : Option Addr) = none → N3 = 0) := fun h => by cases h
  have N3b : N3 ≤ 20000000 := by have := h3.out.2.1; have := WL.out; omega
  have R3 : Hid (Sln w3 fa fn R) := hS.out.below B3.out
  clear h3 k2 C2 E2
  go_upto_region 10 with first
    | (refine wpList_load_row (by rfl) 29 (.tmp 1) (by rfl) g1 (by rfl) 29 A (0, 0) _ k3.out Tryd.underlying29 rfl (info29 a16) ?_)
    | (go_at_call 17; refine (written_n HAy NY S3 Z3 N3b R3 hRz fn4).mono ?_; rintro e w4 ⟨a4, n4, c4, rfl, h4⟩)
  have B4 : Hid (Below w.heap.size w w4) := B3.out.trans (h4.out.2.1.mono B3.out.size)
  have S4 : Hid (Sln w4 a4 n4 (mbL y (sealL (wrL ys)) R)) := h4.out.1.sln (by have := h4.out.2.2; omega)
  have Z4 : Hid (a4 = none → c4 = 0) := h4.out.1.cap0
  go_wp2_with (go_at_call 18; refine (seal_n S4 Z4).mono ?_; rintro e w5 ⟨g5, N5, rfl, h5⟩)
  go_ret2
  refine ⟨g5, N5, rfl, h5.out.2.2.1, ?_, ?_, ?_, B4.out.trans (h5.out.2.2.2.mono B4.out.size)⟩
  · rw [h5.out.1, S4.out.len, pmL, seal_len]
  · have := h5.out.1; have := h4.out.2.2; omega
  · rw [h5.out.2.1]; exact B4.out.size
end Go.Proofs.YtppibcambhmomaaDoor
