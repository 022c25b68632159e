/- The law PostSlips walked: it returns true, and changes nothing that was there. -/
import Derived.Test.YtppibcambhmomaaDoorMh
import Derived.Test.YtppibcambhmomaaDoorMQi
import Derived.Test.YtppibcambhmomaaDoorMVa
namespace Go.Proofs.YtppibcambhmomaaDoor
open Go.ChangeShapes Go.WideShapes Go.ChangeAt Go.RowKit
set_option maxRecDepth 20000
set_option linter.unusedVariables false
set_option linter.unusedSimpArgs false
theorem opn_badK {l : List Nat} (h : sealL (l.take (l.length - 4)) ≠ l) : (opn l).2 = 5 ∨ (opn l).2 = 6 := by
  rcases opn_err l with h0 | h0 | h0
  · exfalso
    unfold opn at h0
    split at h0
    · cases h0
    · cases h0
  · exact .inl h0
  · exact .inr h0
theorem pmL_lt {y : Nmg} {ys : List Nm} {R : List Nat} (hR : ∀ x ∈ R, x < 256) : ∀ x ∈ mbL y (sealL (wrL ys)) R, x < 256 := by
  intro x hx
  simp only [mbL, List.mem_append] at hx
  simp only [or_assoc] at hx
  have hS := seal_bytes (l := wrL ys) wrL_lt
  repeat' (first | exact enc_bytes _ x hx | exact hS x hx | exact hR x hx | (rcases hx with hx | hx))
set_option maxHeartbeats 8000000 in
theorem slipsM_n {w : World} {M : Nat → Prop} {E : Nat → Addr} {x : Mc} {X : List Cx} {R : List Nat} {A : Array Value} {z : Int} {tb : Nat} (hA : Hid (A = (encM x).toArray)) (hm : Hid (Ms w x X R)) (wx : (Lit.int .i64 z).wf = true) (hto : tb < 256) (hE : Hid (Sent w M E)) (hM0 : M 0) (hM1 : M 1) (hM3 : M 3) :
    Calls Tryd.prog 4 #[.agg A,.int .i64 z, .int .u8 (tb : Int)] w fun e w' => e = .returned (.bool true) ∧ Hid (Below w.heap.size w w') := by
  have bx := bounds_i64 wx
  have a16 : A.size = 16 := encM_sz hA.out
  obtain ⟨g1, Hg1⟩ : ∃ g, Hid (w.heap.size = g) := ⟨_, rfl⟩
  obtain ⟨w0, Hw0⟩ : ∃ w1, Hid (w.alloc (.cells A 29) = w1) := ⟨_, rfl⟩
  have B0 : Hid (Below w.heap.size w w0) := by rw [← Hw0.out]; exact alloc1 w _
  have k0 : Hid (w0.heap[g1]? = some (.cells A 29 (0, 0))) := by rw [← Hw0.out, ← Hg1.out]; exact heap_alloc_new w _
  have E0 : Hid (Sent w0 M E) := hE.out.below B0.out
  go_enter Tryd.func4, Tryd.ntmps4
  go_upto_region 1 with (fail)
  rw [Hw0.out, Hg1.out]
  go_upto_region 3 with (go_at_call 6; refine (aliveM_n E0 hM0).mono ?_; rintro e w1 ⟨rfl, h1⟩)
  have B1 : Hid (Below w.heap.size w w1) := B0.out.trans (h1.out.mono B0.out.size)
  have k1 : Hid (w1.heap[g1]? = some (.cells A 29 (0, 0))) := (h1.out.block g1 (Array.getElem?_eq_some_iff.1 k0.out).1).trans k0.out
  have E1 : Hid (Sent w1 M E) := hE.out.below B1.out
  have M1 : Hid (Ms w1 x X R) := hm.out.below B1.out
  have C1 : Hid (Cms w1 0 x.la x.ln X) := M1.out.led
  clear h1 k0 E0 B0
  rcases Bool.eq_false_or_eq_true (mf x (led X)) with hf | hf
  rotate_left
  · have HF : Hid (mf x (led X) = false) := hf
    clear hf
    go_upto_region 5 with first
      | (refine wpList_load_row (by rfl) 29 (.tmp 3) (by rfl) g1 (by rfl) 29 A (0, 0) _ k1.out Tryd.underlying29 rfl (info29 a16) ?_)
      | (go_at_call 9; refine (putM_no hA E1 hM0 C1 HF).mono ?_; rintro e w2 ⟨rfl, h2⟩)
    have k2 : Hid (w2.heap[g1]? = some (.cells A 29 (0, 0))) := (h2.out.block g1 (Array.getElem?_eq_some_iff.1 k1.out).1).trans k1.out
    have M2 : Hid (Ms w2 x X R) := M1.out.below h2.out
    have B2 : Hid (Below w.heap.size w w2) := B1.out.trans (h2.out.mono B1.out.size)
    go_wp2_with first
      | (refine wpList_load_row (by rfl) 29 (.tmp 3) (by rfl) g1 (by rfl) 29 A (0, 0) _ k2.out Tryd.underlying29 rfl (info29 a16) ?_)
      | (go_at_call 11; refine (inFmM_n hA M2).mono ?_; rintro e w3 ⟨rfl, h3⟩; rw [HF.out])
    go_ret
    exact ⟨rfl, B2.out.trans (h3.out.mono B2.out.size)⟩
  have HF : Hid (mf x (led X) = true) := hf
  obtain ⟨y, ys, hx, hy, hys, hya, hln, hfn⟩ := mf_nat hm.out.led.len hf
  have PM := putM_yes hA E1 hM0 M1 HF (hidI hx) (hidI hy) (hidI hys) (hidI hya) (hidI hln) (hidI hfn)
  have HPM := hidI PM
  clear hf hx hy hys hya hln hfn PM
  obtain ⟨l, Hl⟩ : ∃ l, Hid (mbL y (sealL (wrL ys)) R = l) := ⟨_, rfl⟩
  have LB : Hid (∀ x ∈ l, x < 256) := by rw [← Hl.out]; exact pmL_lt hm.out.flt
  have PL : Hid (pmL y ys R = sealL l) := by rw [← Hl.out]; exact hidI rfl
  rw [PL.out] at HPM
  clear PL Hl
  go_upto_region 6 with first
    | (refine wpList_load_row (by rfl) 29 (.tmp 3) (by rfl) g1 (by rfl) 29 A (0, 0) _ k1.out Tryd.underlying29 rfl (info29 a16) ?_)
    | (go_at_call 9; refine HPM.out.mono ?_; rintro e w2 ⟨g, N, rfl, H2⟩)
  have hN4 : 4 ≤ N := by have h := H2.out.2.1; rw [seal_len] at h; omega
  obtain ⟨t, r, e1, t1, t2, e2, hr⟩ := pick_place z N (by omega)
  have B2 : Hid (Below w.heap.size w w2) := B1.out.trans (H2.out.2.2.2.2.mono B1.out.size)
  have G2 : Hid (w.heap.size ≤ g) := Nat.le_trans B1.out.size H2.out.2.2.2.1
  have K2 : Hid (Blk w2 g (sealL l)) := H2.out.1
  have L2 : Hid ((sealL l).length = N) := H2.out.2.1.symm
  have NB : Hid (N ≤ 60000000) := H2.out.2.2.1
  clear H2 HPM
  obtain ⟨v, Hv⟩ : ∃ v, Hid ((sealL l).getD r 0 = v) := ⟨_, rfl⟩
  have hv : v < 256 := by rw [← Hv.out]; exact getD_lt (seal_bytes LB.out) r
  have c1 : w2.cell? ⟨g, r, none⟩ = some (.int .u8 (v : Int)) := by rw [← Hv.out]; exact K2.out.cell (by rw [L2.out]; exact hr)
  have f1 : w2.frozen? ⟨g, r, none⟩ = false := K2.out.frozen r
  have ir : (r : Int) < (N : Int) := by omega
  have N0 : ¬ ((N : Int) = 0) := by omega
  have N0' : ¬ (N = 0) := by omega
  have NBi : (N : Int) ≤ 60000000 := by have := NB.out; omega
  by_cases hvt : v = tb
  · subst hvt
    go_wp2
    go_ret
    exact ⟨rfl, B2.out⟩
  · obtain ⟨w3, W3⟩ : ∃ w3, Hid (w2.setCell ⟨g, r, none⟩ (.int .u8 (tb : Int)) = w3) := ⟨_, rfl⟩
    have K3 : Hid (Blk w3 g ((sealL l).set r tb)) := by rw [← W3.out]; exact K2.out.set r tb
    have B3 : Hid (Below w.heap.size w w3) := by rw [← W3.out]; exact ((Oth.refl g w2).setCell r _).below B2.out G2.out
    have L3 : Hid (((sealL l).set r tb).length = N) := by rw [List.length_set]; exact L2.out
    have T3 : Hid (∀ y ∈ (sealL l).set r tb, y < 256) := by
      intro y hy
      rcases List.mem_or_eq_of_mem_set hy with h1 | h1
      · exact seal_bytes LB.out y h1
      · omega
    have S3 : Hid (Sln w3 (some ⟨g, 0, none⟩) N ((sealL l).set r tb)) := by
      have := K3.out.sln T3.out (by rw [L3.out]; have := NB.out; omega)
      rw [L3.out] at this
      exact this
    have BAD := opn_badK (seal_slip LB.out (i := r) (tb := tb) (by rw [L2.out]; exact hr) hto (by rw [Hv.out]; exact hvt))
    obtain ⟨k, hk⟩ : ∃ k, Hid ((opn ((sealL l).set r tb)).2 = k) := ⟨_, rfl⟩
    rw [hk.out] at BAD
    have HK : Hid (k = 5 ∨ k = 6) := BAD
    have ER : Hid (∃ p, erv E k = er p) := by
      rcases HK.out with rfl | rfl
      · exact ⟨E 1, rfl⟩
      · exact ⟨E 3, rfl⟩
    obtain ⟨p, hp⟩ := ER.out
    have HP := hidI hp
    clear BAD hp ER
    have E3 : Hid (Sent w3 M E) := hE.out.below B3.out
    have Z3 : Hid ((some ⟨g, 0, none⟩ : Option Addr) = none → N = 0) := fun h => by cases h
    have vt : ¬ ((v : Int) = (tb : Int)) := by omega
    have W3' : w2.setCell ⟨g, r, none⟩ (.int .u8 (tb : Int)) = w3 := W3.out
    clear W3 L2 K2
    go_wp2_with first
      | (go_at_call 12; (try rw [W3']); refine (getM_err S3 Z3 (Nat.le_refl _) E3 hM1 hM3 hk HK).mono ?_; rintro e w4 ⟨rfl, B4⟩; rw [HP.out])
    go_ret
    exact ⟨rfl, B3.out.trans (B4.out.mono B3.out.size)⟩
theorem slipsM_any {w : World} {M : Nat → Prop} {E : Nat → Addr} {x : Mc} {X : List Cx} {R : List Nat} {A : Array Value} {z t : Int} (hA : Hid (A = (encM x).toArray)) (hm : Hid (Ms w x X R)) (wx : (Lit.int .i64 z).wf = true) (wz : (Lit.int .u8 t).wf = true) (hE : Hid (Sent w M E)) (hM0 : M 0) (hM1 : M 1) (hM3 : M 3) :
    Calls Tryd.prog 4 #[.agg A,.int .i64 z, .int .u8 t] w fun e w' => e = .returned (.bool true) ∧ Hid (Below w.heap.size w w') := by
  have bz := bounds_u8 wz
  obtain ⟨t, rfl⟩ : ∃ s : Nat, t = (s : Int) := ⟨t.toNat, by omega⟩
  exact slipsM_n hA hm wx (by omega) hE hM0 hM1 hM3
end Go.Proofs.YtppibcambhmomaaDoor
