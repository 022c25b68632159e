/- The document's questions, kind by kind, come to the program's. -/
import Derived.Test.YtppibcambhmomaaDoorMh
import Derived.Test.YtppibcambhmomaaDoorMCo
namespace Go.Proofs.YtppibcambhmomaaDoor
set_option maxRecDepth 20000
set_option linter.unusedVariables false
set_option linter.unusedSimpArgs false
theorem tmT_iff (x : Int) : tmT x = true ↔ 0 ≤ x ∧ x ≤ 1099511627776 := by simp [tmT]
theorem gdI_iff (a b c : Int) : gdI a b c = true ↔ (0 ≤ a ∧ a < 16) ∧ (0 ≤ b ∧ b ≤ 1099511627776) ∧ (0 ≤ c ∧ c ≤ 1099511627776) := by simp [gdI, tmT]
theorem ptP_iff (x : Int) : ptP x = true ↔ 1 ≤ x ∧ x ≤ 16 := by simp [ptP]
theorem goz_t (g z : Bool) : goz true g z = g := rfl
theorem goz_f (g z : Bool) : goz false g z = z := rfl
theorem fr1 {i0 i1 i2 : Int} {bu ke : ByteArray} {u0 u1 u2 b0 b1 b2 sz : Int} {et : ByteArray} {pt : Int} {ps : List Int} {pn : Nat} {tm dy : Int} (HG : gdI i0 i1 i2 = true) (hl : pn = ps.length) : (gdN bu && (tmT tm && (tmT dy && (gdI u0 u1 u2 && (decide (bu = bu) && (decide (⟨#[]⟩ = ke) && (decide (0 = u0 ∧ 0 = u1 ∧ 0 = u2) && (decide ((0 = b0 ∧ 0 = b1 ∧ 0 = b2) ∧ 0 = sz ∧ ⟨#[]⟩ = et) && (decide (0 = pt) && (decide (tm = tm) && (decide (0 = dy) && decide (((0 : Nat) : Int) = (pn : Int))))))))))))) = frm ⟨1, i0, i1, i2, bu, ke, u0, u1, u2, b0, b1, b2, sz, et, pt, ps, tm, dy⟩ := by
  have e0 : kOk 1 = true := rfl
  have eB : fB 1 = true := rfl
  have eK : fK 1 = false := rfl
  have eU : fU 1 = false := rfl
  have eP : fP 1 = false := rfl
  have eT : fT 1 = false := rfl
  have eS : fS 1 = false := rfl
  have eM : fM 1 = true := rfl
  have eD : fD 1 = false := rfl
  unfold frm
  simp only []
  rw [e0, eB, eK, eU, eP, eT, eS, eM, eD, HG]
  simp only [goz_t, goz_f, Bool.true_and]
  rw [Bool.eq_iff_iff]
  simp only [Bool.and_eq_true, decide_eq_true_eq, tmT_iff, gdI_iff, ptP_iff, true_and, and_true, eq_self_iff_true]
  subst hl
  constructor
  · intro h
    repeat' (first | (refine And.intro ?_ ?_))
    all_goals first | exact h.1 | omega | (simp_all; done) | (simp_all; omega) | grind
  · intro h
    repeat' (first | (refine And.intro ?_ ?_))
    all_goals first | exact h.1 | omega | (simp_all; done) | (simp_all; omega) | grind
theorem fr2 {i0 i1 i2 : Int} {bu ke : ByteArray} {u0 u1 u2 b0 b1 b2 sz : Int} {et : ByteArray} {pt : Int} {ps : List Int} {pn : Nat} {tm dy : Int} (HG : gdI i0 i1 i2 = true) (hl : pn = ps.length) : (gdN bu && (tmT tm && (tmT dy && (gdI u0 u1 u2 && (decide (bu = bu) && (decide (⟨#[]⟩ = ke) && (decide (0 = u0 ∧ 0 = u1 ∧ 0 = u2) && (decide ((0 = b0 ∧ 0 = b1 ∧ 0 = b2) ∧ 0 = sz ∧ ⟨#[]⟩ = et) && (decide (0 = pt) && (decide (0 = tm) && (decide (0 = dy) && decide (((0 : Nat) : Int) = (pn : Int))))))))))))) = frm ⟨2, i0, i1, i2, bu, ke, u0, u1, u2, b0, b1, b2, sz, et, pt, ps, tm, dy⟩ := by
  have e0 : kOk 2 = true := rfl
  have eB : fB 2 = true := rfl
  have eK : fK 2 = false := rfl
  have eU : fU 2 = false := rfl
  have eP : fP 2 = false := rfl
  have eT : fT 2 = false := rfl
  have eS : fS 2 = false := rfl
  have eM : fM 2 = false := rfl
  have eD : fD 2 = false := rfl
  unfold frm
  simp only []
  rw [e0, eB, eK, eU, eP, eT, eS, eM, eD, HG]
  simp only [goz_t, goz_f, Bool.true_and]
  rw [Bool.eq_iff_iff]
  simp only [Bool.and_eq_true, decide_eq_true_eq, tmT_iff, gdI_iff, ptP_iff, true_and, and_true, eq_self_iff_true]
  subst hl
  constructor
  · intro h
    repeat' (first | (refine And.intro ?_ ?_))
    all_goals first | exact h.1 | omega | (simp_all; done) | (simp_all; omega) | grind
  · intro h
    repeat' (first | (refine And.intro ?_ ?_))
    all_goals first | exact h.1 | omega | (simp_all; done) | (simp_all; omega) | grind
theorem fr3 {i0 i1 i2 : Int} {bu ke : ByteArray} {u0 u1 u2 b0 b1 b2 sz : Int} {et : ByteArray} {pt : Int} {ps : List Int} {pn : Nat} {tm dy : Int} (HG : gdI i0 i1 i2 = true) (hl : pn = ps.length) : ((((gdN bu && gdK ke) && gdP b0 b1 b2 sz et) && decide (b0 = i0 ∧ b1 = i1 ∧ b2 = i2)) && (tmT tm && (tmT dy && (gdI u0 u1 u2 && (decide (bu = bu) && (decide (ke = ke) && (decide (0 = u0 ∧ 0 = u1 ∧ 0 = u2) && (decide ((b0 = b0 ∧ b1 = b1 ∧ b2 = b2) ∧ sz = sz ∧ et = et) && (decide (0 = pt) && (decide (tm = tm) && (decide (0 = dy) && decide (((0 : Nat) : Int) = (pn : Int))))))))))))) = frm ⟨3, i0, i1, i2, bu, ke, u0, u1, u2, b0, b1, b2, sz, et, pt, ps, tm, dy⟩ := by
  have e0 : kOk 3 = true := rfl
  have eB : fB 3 = true := rfl
  have eK : fK 3 = true := rfl
  have eU : fU 3 = false := rfl
  have eP : fP 3 = true := rfl
  have eT : fT 3 = false := rfl
  have eS : fS 3 = false := rfl
  have eM : fM 3 = true := rfl
  have eD : fD 3 = false := rfl
  unfold frm
  simp only []
  rw [e0, eB, eK, eU, eP, eT, eS, eM, eD, HG]
  simp only [goz_t, goz_f, Bool.true_and]
  rw [Bool.eq_iff_iff]
  simp only [Bool.and_eq_true, decide_eq_true_eq, tmT_iff, gdI_iff, ptP_iff, true_and, and_true, eq_self_iff_true]
  subst hl
  constructor
  · intro h
    repeat' (first | (refine And.intro ?_ ?_))
    all_goals first | exact h.1 | omega | (simp_all; done) | (simp_all; omega) | grind
  · intro h
    repeat' (first | (refine And.intro ?_ ?_))
    all_goals first | exact h.1 | omega | (simp_all; done) | (simp_all; omega) | grind
theorem fr4 {i0 i1 i2 : Int} {bu ke : ByteArray} {u0 u1 u2 b0 b1 b2 sz : Int} {et : ByteArray} {pt : Int} {ps : List Int} {pn : Nat} {tm dy : Int} (HG : gdI i0 i1 i2 = true) (hl : pn = ps.length) : ((gdN bu && gdK ke) && (tmT tm && (tmT dy && (gdI u0 u1 u2 && (decide (bu = bu) && (decide (ke = ke) && (decide (0 = u0 ∧ 0 = u1 ∧ 0 = u2) && (decide ((0 = b0 ∧ 0 = b1 ∧ 0 = b2) ∧ 0 = sz ∧ ⟨#[]⟩ = et) && (decide (0 = pt) && (decide (0 = tm) && (decide (0 = dy) && decide (((0 : Nat) : Int) = (pn : Int))))))))))))) = frm ⟨4, i0, i1, i2, bu, ke, u0, u1, u2, b0, b1, b2, sz, et, pt, ps, tm, dy⟩ := by
  have e0 : kOk 4 = true := rfl
  have eB : fB 4 = true := rfl
  have eK : fK 4 = true := rfl
  have eU : fU 4 = false := rfl
  have eP : fP 4 = false := rfl
  have eT : fT 4 = false := rfl
  have eS : fS 4 = false := rfl
  have eM : fM 4 = false := rfl
  have eD : fD 4 = false := rfl
  unfold frm
  simp only []
  rw [e0, eB, eK, eU, eP, eT, eS, eM, eD, HG]
  simp only [goz_t, goz_f, Bool.true_and]
  rw [Bool.eq_iff_iff]
  simp only [Bool.and_eq_true, decide_eq_true_eq, tmT_iff, gdI_iff, ptP_iff, true_and, and_true, eq_self_iff_true]
  subst hl
  constructor
  · intro h
    repeat' (first | (refine And.intro ?_ ?_))
    all_goals first | exact h.1 | omega | (simp_all; done) | (simp_all; omega) | grind
  · intro h
    repeat' (first | (refine And.intro ?_ ?_))
    all_goals first | exact h.1 | omega | (simp_all; done) | (simp_all; omega) | grind
theorem fr5 {i0 i1 i2 : Int} {bu ke : ByteArray} {u0 u1 u2 b0 b1 b2 sz : Int} {et : ByteArray} {pt : Int} {ps : List Int} {pn : Nat} {tm dy : Int} (HG : gdI i0 i1 i2 = true) (hl : pn = ps.length) : ((gdN bu && gdK ke) && (tmT tm && (tmT dy && (gdI u0 u1 u2 && (decide (bu = bu) && (decide (ke = ke) && (decide (0 = u0 ∧ 0 = u1 ∧ 0 = u2) && (decide ((0 = b0 ∧ 0 = b1 ∧ 0 = b2) ∧ 0 = sz ∧ ⟨#[]⟩ = et) && (decide (0 = pt) && (decide (0 = tm) && (decide (0 = dy) && decide (((0 : Nat) : Int) = (pn : Int))))))))))))) = frm ⟨5, i0, i1, i2, bu, ke, u0, u1, u2, b0, b1, b2, sz, et, pt, ps, tm, dy⟩ := by
  have e0 : kOk 5 = true := rfl
  have eB : fB 5 = true := rfl
  have eK : fK 5 = true := rfl
  have eU : fU 5 = false := rfl
  have eP : fP 5 = false := rfl
  have eT : fT 5 = false := rfl
  have eS : fS 5 = false := rfl
  have eM : fM 5 = false := rfl
  have eD : fD 5 = false := rfl
  unfold frm
  simp only []
  rw [e0, eB, eK, eU, eP, eT, eS, eM, eD, HG]
  simp only [goz_t, goz_f, Bool.true_and]
  rw [Bool.eq_iff_iff]
  simp only [Bool.and_eq_true, decide_eq_true_eq, tmT_iff, gdI_iff, ptP_iff, true_and, and_true, eq_self_iff_true]
  subst hl
  constructor
  · intro h
    repeat' (first | (refine And.intro ?_ ?_))
    all_goals first | exact h.1 | omega | (simp_all; done) | (simp_all; omega) | grind
  · intro h
    repeat' (first | (refine And.intro ?_ ?_))
    all_goals first | exact h.1 | omega | (simp_all; done) | (simp_all; omega) | grind
theorem fr6 {i0 i1 i2 : Int} {bu ke : ByteArray} {u0 u1 u2 b0 b1 b2 sz : Int} {et : ByteArray} {pt : Int} {ps : List Int} {pn : Nat} {tm dy : Int} (HG : gdI i0 i1 i2 = true) (hl : pn = ps.length) : (((((gdN bu && gdK ke) && gdP b0 b1 b2 sz et) && decide (b0 = i0 ∧ b1 = i1 ∧ b2 = i2)) && ptP pt) && (tmT tm && (tmT dy && (gdI u0 u1 u2 && (decide (bu = bu) && (decide (ke = ke) && (decide (u0 = u0 ∧ u1 = u1 ∧ u2 = u2) && (decide ((b0 = b0 ∧ b1 = b1 ∧ b2 = b2) ∧ sz = sz ∧ et = et) && (decide (pt = pt) && (decide (0 = tm) && (decide (0 = dy) && decide (((0 : Nat) : Int) = (pn : Int))))))))))))) = frm ⟨6, i0, i1, i2, bu, ke, u0, u1, u2, b0, b1, b2, sz, et, pt, ps, tm, dy⟩ := by
  have e0 : kOk 6 = true := rfl
  have eB : fB 6 = true := rfl
  have eK : fK 6 = true := rfl
  have eU : fU 6 = true := rfl
  have eP : fP 6 = true := rfl
  have eT : fT 6 = true := rfl
  have eS : fS 6 = false := rfl
  have eM : fM 6 = false := rfl
  have eD : fD 6 = false := rfl
  unfold frm
  simp only []
  rw [e0, eB, eK, eU, eP, eT, eS, eM, eD, HG]
  simp only [goz_t, goz_f, Bool.true_and]
  rw [Bool.eq_iff_iff]
  simp only [Bool.and_eq_true, decide_eq_true_eq, tmT_iff, gdI_iff, ptP_iff, true_and, and_true, eq_self_iff_true]
  subst hl
  constructor
  · intro h
    repeat' (first | (refine And.intro ?_ ?_))
    all_goals first | exact h.1 | omega | (simp_all; done) | (simp_all; omega) | grind
  · intro h
    repeat' (first | (refine And.intro ?_ ?_))
    all_goals first | exact h.1 | omega | (simp_all; done) | (simp_all; omega) | grind
theorem fr7 {i0 i1 i2 : Int} {bu ke : ByteArray} {u0 u1 u2 b0 b1 b2 sz : Int} {et : ByteArray} {pt : Int} {ps : List Int} {pn : Nat} {tm dy : Int} (HG : gdI i0 i1 i2 = true) (hl : pn = ps.length) : (((gdN bu && gdK ke) && gdS ps) && (tmT tm && (tmT dy && (gdI u0 u1 u2 && (decide (bu = bu) && (decide (ke = ke) && (decide (u0 = u0 ∧ u1 = u1 ∧ u2 = u2) && (decide ((0 = b0 ∧ 0 = b1 ∧ 0 = b2) ∧ 0 = sz ∧ ⟨#[]⟩ = et) && (decide (0 = pt) && (decide (tm = tm) && (decide (0 = dy) && decide (((pn : Nat) : Int) = (pn : Int))))))))))))) = frm ⟨7, i0, i1, i2, bu, ke, u0, u1, u2, b0, b1, b2, sz, et, pt, ps, tm, dy⟩ := by
  have e0 : kOk 7 = true := rfl
  have eB : fB 7 = true := rfl
  have eK : fK 7 = true := rfl
  have eU : fU 7 = true := rfl
  have eP : fP 7 = false := rfl
  have eT : fT 7 = false := rfl
  have eS : fS 7 = true := rfl
  have eM : fM 7 = true := rfl
  have eD : fD 7 = false := rfl
  unfold frm
  simp only []
  rw [e0, eB, eK, eU, eP, eT, eS, eM, eD, HG]
  simp only [goz_t, goz_f, Bool.true_and]
  rw [Bool.eq_iff_iff]
  simp only [Bool.and_eq_true, decide_eq_true_eq, tmT_iff, gdI_iff, ptP_iff, true_and, and_true, eq_self_iff_true]
  subst hl
  constructor
  · intro h
    repeat' (first | (refine And.intro ?_ ?_))
    all_goals first | exact h.1 | omega | (simp_all; done) | (simp_all; omega) | grind
  · intro h
    repeat' (first | (refine And.intro ?_ ?_))
    all_goals first | exact h.1 | omega | (simp_all; done) | (simp_all; omega) | grind
theorem fr8 {i0 i1 i2 : Int} {bu ke : ByteArray} {u0 u1 u2 b0 b1 b2 sz : Int} {et : ByteArray} {pt : Int} {ps : List Int} {pn : Nat} {tm dy : Int} (HG : gdI i0 i1 i2 = true) (hl : pn = ps.length) : ((gdN bu && gdK ke) && (tmT tm && (tmT dy && (gdI u0 u1 u2 && (decide (bu = bu) && (decide (ke = ke) && (decide (u0 = u0 ∧ u1 = u1 ∧ u2 = u2) && (decide ((0 = b0 ∧ 0 = b1 ∧ 0 = b2) ∧ 0 = sz ∧ ⟨#[]⟩ = et) && (decide (0 = pt) && (decide (0 = tm) && (decide (0 = dy) && decide (((0 : Nat) : Int) = (pn : Int))))))))))))) = frm ⟨8, i0, i1, i2, bu, ke, u0, u1, u2, b0, b1, b2, sz, et, pt, ps, tm, dy⟩ := by
  have e0 : kOk 8 = true := rfl
  have eB : fB 8 = true := rfl
  have eK : fK 8 = true := rfl
  have eU : fU 8 = true := rfl
  have eP : fP 8 = false := rfl
  have eT : fT 8 = false := rfl
  have eS : fS 8 = false := rfl
  have eM : fM 8 = false := rfl
  have eD : fD 8 = false := rfl
  unfold frm
  simp only []
  rw [e0, eB, eK, eU, eP, eT, eS, eM, eD, HG]
  simp only [goz_t, goz_f, Bool.true_and]
  rw [Bool.eq_iff_iff]
  simp only [Bool.and_eq_true, decide_eq_true_eq, tmT_iff, gdI_iff, ptP_iff, true_and, and_true, eq_self_iff_true]
  subst hl
  constructor
  · intro h
    repeat' (first | (refine And.intro ?_ ?_))
    all_goals first | exact h.1 | omega | (simp_all; done) | (simp_all; omega) | grind
  · intro h
    repeat' (first | (refine And.intro ?_ ?_))
    all_goals first | exact h.1 | omega | (simp_all; done) | (simp_all; omega) | grind
theorem fr9 {i0 i1 i2 : Int} {bu ke : ByteArray} {u0 u1 u2 b0 b1 b2 sz : Int} {et : ByteArray} {pt : Int} {ps : List Int} {pn : Nat} {tm dy : Int} (HG : gdI i0 i1 i2 = true) (hl : pn = ps.length) : (gdN bu && (tmT tm && (tmT dy && (gdI u0 u1 u2 && (decide (bu = bu) && (decide (⟨#[]⟩ = ke) && (decide (0 = u0 ∧ 0 = u1 ∧ 0 = u2) && (decide ((0 = b0 ∧ 0 = b1 ∧ 0 = b2) ∧ 0 = sz ∧ ⟨#[]⟩ = et) && (decide (0 = pt) && (decide (0 = tm) && (decide (dy = dy) && decide (((0 : Nat) : Int) = (pn : Int))))))))))))) = frm ⟨9, i0, i1, i2, bu, ke, u0, u1, u2, b0, b1, b2, sz, et, pt, ps, tm, dy⟩ := by
  have e0 : kOk 9 = true := rfl
  have eB : fB 9 = true := rfl
  have eK : fK 9 = false := rfl
  have eU : fU 9 = false := rfl
  have eP : fP 9 = false := rfl
  have eT : fT 9 = false := rfl
  have eS : fS 9 = false := rfl
  have eM : fM 9 = false := rfl
  have eD : fD 9 = true := rfl
  unfold frm
  simp only []
  rw [e0, eB, eK, eU, eP, eT, eS, eM, eD, HG]
  simp only [goz_t, goz_f, Bool.true_and]
  rw [Bool.eq_iff_iff]
  simp only [Bool.and_eq_true, decide_eq_true_eq, tmT_iff, gdI_iff, ptP_iff, true_and, and_true, eq_self_iff_true]
  subst hl
  constructor
  · intro h
    repeat' (first | (refine And.intro ?_ ?_))
    all_goals first | exact h.1 | omega | (simp_all; done) | (simp_all; omega) | grind
  · intro h
    repeat' (first | (refine And.intro ?_ ?_))
    all_goals first | exact h.1 | omega | (simp_all; done) | (simp_all; omega) | grind
theorem fr10 {i0 i1 i2 : Int} {bu ke : ByteArray} {u0 u1 u2 b0 b1 b2 sz : Int} {et : ByteArray} {pt : Int} {ps : List Int} {pn : Nat} {tm dy : Int} (HG : gdI i0 i1 i2 = true) (hl : pn = ps.length) : (true && (tmT tm && (tmT dy && (gdI u0 u1 u2 && (decide (⟨#[]⟩ = bu) && (decide (⟨#[]⟩ = ke) && (decide (0 = u0 ∧ 0 = u1 ∧ 0 = u2) && (decide ((0 = b0 ∧ 0 = b1 ∧ 0 = b2) ∧ 0 = sz ∧ ⟨#[]⟩ = et) && (decide (0 = pt) && (decide (tm = tm) && (decide (0 = dy) && decide (((0 : Nat) : Int) = (pn : Int))))))))))))) = frm ⟨10, i0, i1, i2, bu, ke, u0, u1, u2, b0, b1, b2, sz, et, pt, ps, tm, dy⟩ := by
  have e0 : kOk 10 = true := rfl
  have eB : fB 10 = false := rfl
  have eK : fK 10 = false := rfl
  have eU : fU 10 = false := rfl
  have eP : fP 10 = false := rfl
  have eT : fT 10 = false := rfl
  have eS : fS 10 = false := rfl
  have eM : fM 10 = true := rfl
  have eD : fD 10 = false := rfl
  unfold frm
  simp only []
  rw [e0, eB, eK, eU, eP, eT, eS, eM, eD, HG]
  simp only [goz_t, goz_f, Bool.true_and]
  rw [Bool.eq_iff_iff]
  simp only [Bool.and_eq_true, decide_eq_true_eq, tmT_iff, gdI_iff, ptP_iff, true_and, and_true, eq_self_iff_true]
  subst hl
  constructor
  · intro h
    repeat' (first | (refine And.intro ?_ ?_))
    all_goals first | exact h.1 | omega | (simp_all; done) | (simp_all; omega) | grind
  · intro h
    repeat' (first | (refine And.intro ?_ ?_))
    all_goals first | exact h.1 | omega | (simp_all; done) | (simp_all; omega) | grind
theorem fr11 {i0 i1 i2 : Int} {bu ke : ByteArray} {u0 u1 u2 b0 b1 b2 sz : Int} {et : ByteArray} {pt : Int} {ps : List Int} {pn : Nat} {tm dy : Int} (HG : gdI i0 i1 i2 = true) (hl : pn = ps.length) : (true && (tmT tm && (tmT dy && (gdI u0 u1 u2 && (decide (⟨#[]⟩ = bu) && (decide (⟨#[]⟩ = ke) && (decide (0 = u0 ∧ 0 = u1 ∧ 0 = u2) && (decide ((0 = b0 ∧ 0 = b1 ∧ 0 = b2) ∧ 0 = sz ∧ ⟨#[]⟩ = et) && (decide (0 = pt) && (decide (0 = tm) && (decide (0 = dy) && decide (((0 : Nat) : Int) = (pn : Int))))))))))))) = frm ⟨11, i0, i1, i2, bu, ke, u0, u1, u2, b0, b1, b2, sz, et, pt, ps, tm, dy⟩ := by
  have e0 : kOk 11 = true := rfl
  have eB : fB 11 = false := rfl
  have eK : fK 11 = false := rfl
  have eU : fU 11 = false := rfl
  have eP : fP 11 = false := rfl
  have eT : fT 11 = false := rfl
  have eS : fS 11 = false := rfl
  have eM : fM 11 = false := rfl
  have eD : fD 11 = false := rfl
  unfold frm
  simp only []
  rw [e0, eB, eK, eU, eP, eT, eS, eM, eD, HG]
  simp only [goz_t, goz_f, Bool.true_and]
  rw [Bool.eq_iff_iff]
  simp only [Bool.and_eq_true, decide_eq_true_eq, tmT_iff, gdI_iff, ptP_iff, true_and, and_true, eq_self_iff_true]
  subst hl
  constructor
  · intro h
    repeat' (first | (refine And.intro ?_ ?_))
    all_goals first | exact h.1 | omega | (simp_all; done) | (simp_all; omega) | grind
  · intro h
    repeat' (first | (refine And.intro ?_ ?_))
    all_goals first | exact h.1 | omega | (simp_all; done) | (simp_all; omega) | grind
end Go.Proofs.YtppibcambhmomaaDoor
namespace Go.Proofs.YtppibcambhmomaaDoor
open Go.ChangeShapes Go.WideShapes Go.ChangeAt Go.RowKit
set_option maxRecDepth 20000
set_option linter.unusedVariables false
theorem tw_set {w W : World} {g1 g3 : Nat} {A Z : Array Value} (h : Tw w W g1 g3 A Z) (hne : g1 ≠ g3) (hB : w.heap.size ≤ g3) (j : Nat) (v : Value) : Tw w (W.setCell ⟨g3, j, none⟩ v) g1 g3 A (Z.setIfInBounds j v) :=
  ⟨(Below.heap_setCell _ _ _ _ hne).trans h.h1, set_blk h.h3 j v, h.bel.trans ((Ch.set W g3 j v).toBelow h.bel.size (fun q hq e => by have e2 : q = g3 := e; omega))⟩
theorem Tw.fz {w W : World} {g1 g3 : Nat} {A Z : Array Value} (h : Tw w W g1 g3 A Z) (i : Nat) : W.frozen? ⟨g3, i, none⟩ = false := by simp [World.frozen?, h.h3]
end Go.Proofs.YtppibcambhmomaaDoor
namespace Go.Proofs.YtppibcambhmomaaDoor
open Go.ChangeShapes Go.WideShapes Go.ChangeAt Go.RowKit
noncomputable def opsIn (n : Nat) : Array Oper := match Tryd.f45.body with
  | some c => match regIn n c with
    | some o => o
    | none => #[]
  | none => #[]
noncomputable def ops23 : Array Oper := opsIn 23
noncomputable def ops26 : Array Oper := opsIn 26
noncomputable def ops29 : Array Oper := opsIn 29
/- the command stays -/
structure Kc (W : World) (g1 : Nat) (A : Array Value) : Prop where
  h : W.heap[g1]? = some (.cells A 60 (0, 0))
theorem Kc.c {W : World} {g1 : Nat} {A : Array Value} (h : Kc W g1 A) (j : Nat) (v : Value) (hv : A[j]? = some v) : W.cell? ⟨g1, j, none⟩ = some v := by simp [World.cell?, h.h, hv]
theorem Kc.set {W : World} {g1 g3 : Nat} {A : Array Value} (h : Kc W g1 A) (hne : g1 ≠ g3) (j : Nat) (v : Value) : Kc (W.setCell ⟨g3, j, none⟩ v) g1 A := ⟨(Below.heap_setCell _ _ _ _ hne).trans h.h⟩
end Go.Proofs.YtppibcambhmomaaDoor
