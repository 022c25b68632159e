import Derived.Test.YtppibcambhmomaaDoorPp
import Derived.Test.YtppibcambhmomaaDoorP19
namespace Go.Proofs.YtppibcambhmomaaDoor
open Go.ChangeShapes Go.WideShapes Go.ChangeAt Go.RowKit
set_option maxRecDepth 20000
set_option linter.unusedVariables false
set_option linter.unusedSimpArgs false
set_option maxHeartbeats 4000000 in
theorem refPiece_n (a b c s : Int) (t : ByteArray) (ht : t.size <= 281474976710656) (w : World) : Calls Tryd.prog 60 #[.agg #[.int .i64 a,.int .i64 b,.int .i64 c,.int .i64 s,.string t]] w fun e w' => e = .returned (.bool (gdP a b c s t)) /\ Hid (Below w.heap.size w w') := by
 obtain ⟨n, Hn⟩ := nm (t.size)
 have hs0 : (t.size : Int) <= 281474976710656 := by omega
 rw [Hn.out] at ht
 obtain ⟨g, Hg⟩ := nm (w.heap.size)
 obtain ⟨w1, Hw1⟩ := nm (w.alloc (.cells #[.int .i64 a,.int .i64 b,.int .i64 c,.int .i64 s,.string t] 58))
 have b1 := al1 Hw1
 have k1 : Hid (w1.heap[g]? = some (.cells #[.int .i64 a,.int .i64 b,.int .i64 c,.int .i64 s,.string t] 58 (0, 0))) := by rw [<- Hw1.out, <- Hg.out]; exact heap_alloc_new w _
 have c0 : w1.cell? ⟨g, 0, none⟩ = some (.int .i64 a) := by simp [World.cell?, k1.out]
 have c1 : w1.cell? ⟨g, 1, none⟩ = some (.int .i64 b) := by simp [World.cell?, k1.out]
 have c2 : w1.cell? ⟨g, 2, none⟩ = some (.int .i64 c) := by simp [World.cell?, k1.out]
 obtain ⟨w2, Hw2⟩ := nm (w1.alloc (.cells #[.int .i64 a,.int .i64 b,.int .i64 c] 23))
 have b2 := al1 Hw2
 have k2 : w2.heap[g]? = some (.cells #[.int .i64 a,.int .i64 b,.int .i64 c,.int .i64 s,.string t] 58 (0, 0)) := (b2.out.block g (gl k1.out)).trans k1.out
 have d3 : w2.cell? ⟨g, 3, none⟩ = some (.int .i64 s) := by simp [World.cell?, k2]
 have d4 : w2.cell? ⟨g, 4, none⟩ = some (.string t) := by simp [World.cell?, k2]
 have BB := bt b1 b2
 clear k2 b1 b2
 obtain ⟨t0, H0⟩ := nm (gdI a b c)
 obtain ⟨st, Hst⟩ := nm ((t0 && (decide (0 <= s /\ s <= 1024) && decide (t.size = 64))))
 have PE : Hid (gdP a b c s t = (st && evB dgB t n)) := by
  show gdP a b c s t = _
  unfold gdP gdE
  rw [<- Hst.out, H0.out, <- Hn.out]
  cases t0 <;> cases decide (0 <= s /\ s <= 1024) <;> cases decide (t.size = 64) <;> rfl
 have HH := Hst.out
 rcases (show t0 = false ∨ (t0 = true /\ ¬ (0 <= s)) ∨ (t0 = true /\ 0 <= s /\ ¬ (s <= 1024)) ∨ (t0 = true /\ 0 <= s /\ s <= 1024 /\ ¬ ((t.size : Int) = 64)) ∨ (t0 = true /\ 0 <= s /\ s <= 1024 /\ (t.size : Int) = 64) by cases t0 <;> simp <;> omega) with rfl | ⟨rfl, h1⟩ | ⟨rfl, h1, h2⟩ | ⟨rfl, h1, h2, h3⟩ | ⟨rfl, h1, h2, h3⟩
 all_goals
  first
   | (have S0 : Hid (false = st) := by rw [<- HH]; rfl)
   | (have S0 : Hid (false = st) := by rw [<- HH, decide_eq_false (p := 0 <= s /\ s <= 1024) (by omega)]; rfl)
   | (have S0 : Hid (false = st) := by
       have h4 : ¬ (t.size = 64) := by omega
       show false = st
       rw [<- HH]
       simp [h4])
   | (have S0 : Hid (true = st) := by rw [<- HH, decide_eq_true (p := 0 <= s /\ s <= 1024) (by omega), decide_eq_true (p := t.size = 64) (by omega)]; rfl)
  clear HH Hst
  go_enter Tryd.func60, Tryd.ntmps60
  go_upto_region 1 with (fail)
  rw [Hw1.out, Hg.out]
  go_upto_region 2 with (go_at_call 20; refine (refGoodId_n a b c _).mono ?_; rintro e w0 ⟨rfl, h0⟩; rw [h0.out, H0.out, Hw2.out]; clear h0)
  clear c0 c1 c2 d3
  try clear h1
  try clear h2
  try (have H3 : Hid ((t.size : Int) = 64) := h3)
  try (have H3 : Hid (¬ ((t.size : Int) = 64)) := h3)
  try clear h3
  go_wp2
  go_loop [3, 4] (fun t3 t4 => ∃ i : Nat, i <= n /\ t4 = .int .i64 (i : Int) /\ t3 = .bool (st && evB dgB t i)) (fun _ t4 => n - (intOf t4).toNat)
  case atStart => exact ⟨0, by omega, rfl, by first | (rw [evB_zero, Bool.and_true, S0.out]) | (rw [evB_zero, Bool.and_true, <- S0.out]; simp [H3.out])⟩
  case round =>
   obtain ⟨i, hi, rfl, rfl⟩ := hrel
   clear S0
   by_cases hlt : i < n
   . have i1 : (i : Int) < (t.size : Int) := by rw [Hn.out]; omega
     obtain ⟨x, Hx⟩ := nm (sb t i)
     have ix : ∀ w, (Instr.index 9 (.string t) (.int .i64 (i : Int))).run Tryd.prog w = .ok (.int .u8 (x : Int)) w := fun w => by rw [<- Hx.out]; exact sb_ix t i _ rfl (by rw [Hn.out]; exact hlt) w
     have SU : Hid ((st && evB dgB t (i + 1)) = ((st && evB dgB t i) && dgB x)) := by rw [<- Hx.out, evB_succ, Bool.and_assoc]; exact (rfl : (_ : Bool) = _)
     rcases Bool.eq_false_or_eq_true (st && evB dgB t i) with hb | hb
     . have HB : Hid ((st && evB dgB t i) = true) := hb
       clear hb
       rw [HB.out]
       rcases (show ((48 : Int) <= (x : Int) /\ (x : Int) <= 57) ∨ (¬ ((48 : Int) <= (x : Int)) /\ ¬ ((97 : Int) <= (x : Int))) ∨ ((48 : Int) <= (x : Int) /\ ¬ ((x : Int) <= 57) /\ ¬ ((97 : Int) <= (x : Int))) ∨ ((48 : Int) <= (x : Int) /\ ¬ ((x : Int) <= 57) /\ (97 : Int) <= (x : Int) /\ (x : Int) <= 102) ∨ ((48 : Int) <= (x : Int) /\ ¬ ((x : Int) <= 57) /\ (97 : Int) <= (x : Int) /\ ¬ ((x : Int) <= 102)) by omega) with ⟨j1, j2⟩ | ⟨j1, j2⟩ | ⟨j1, j2, j3⟩ | ⟨j1, j2, j3, j4⟩ | ⟨j1, j2, j3, j4⟩
       all_goals
        first
         | have RV : Hid (dgB x = true) := decide_eq_true (by omega)
         | have RV : Hid (dgB x = false) := decide_eq_false (by omega)
        go_wp2
        go_round
        case rel => exact ⟨i + 1, by omega, by go_num, by rw [SU.out, HB.out, RV.out]; rfl⟩
        case measure => simp [intOf]; omega
     . have HB : Hid ((st && evB dgB t i) = false) := hb
       clear hb
       rw [HB.out]
       go_wp2
       go_round
       case rel => exact ⟨i + 1, by omega, by go_num, by rw [SU.out, HB.out, Bool.false_and]⟩
       case measure => simp [intOf]; omega
   . obtain rfl : i = n := by omega
     have i1 : ¬ ((i : Int) < (t.size : Int)) := by rw [Hn.out]; omega
     go_wp2
     go_ret
     rw [PE.out]
     exact ⟨rfl, BB.out⟩
end Go.Proofs.YtppibcambhmomaaDoor
namespace Go.Proofs.YtppibcambhmomaaDoor
set_option maxRecDepth 20000
set_option linter.unusedVariables false
set_option linter.unusedSimpArgs false
theorem tmT_iff (x : Int) : tmT x = true ↔ 0 <= x /\ x <= 1099511627776 := by simp [tmT]
theorem gdI_iff (a b c : Int) : gdI a b c = true ↔ (0 <= a /\ a < 16) /\ (0 <= b /\ b <= 1099511627776) /\ (0 <= c /\ c <= 1099511627776) := by simp [gdI, tmT]
theorem ptP_iff (x : Int) : ptP x = true ↔ 1 <= x /\ x <= 16 := by simp [ptP]
theorem goz_t (g z : Bool) : goz true g z = g := rfl
theorem goz_f (g z : Bool) : goz false g z = z := rfl
theorem fr1 {i0 i1 i2 : Int} {bu ke : ByteArray} {u0 u1 u2 b0 b1 b2 sz : Int} {et : ByteArray} {pt : Int} {ps : List Int} {pn : Nat} {tm dy : Int} (HG : gdI i0 i1 i2 = true) (hl : pn = ps.length) : (gdN bu && (tmT tm && (tmT dy && (gdI u0 u1 u2 && (decide (bu = bu) && (decide (⟨#[]⟩ = ke) && (decide (0 = u0 /\ 0 = u1 /\ 0 = u2) && (decide ((0 = b0 /\ 0 = b1 /\ 0 = b2) /\ 0 = sz /\ ⟨#[]⟩ = et) && (decide (0 = pt) && (decide (tm = tm) && (decide (0 = dy) && decide (((0 : Nat) : Int) = (pn : Int))))))))))))) = frm ⟨1, i0, i1, i2, bu, ke, u0, u1, u2, b0, b1, b2, sz, et, pt, ps, tm, dy⟩ := by
 have e0 : kOk 1 = true := rfl
 have eB : fB 1 = true := rfl
 have eK : fK 1 = false := rfl
 have eU : fU 1 = false := rfl
 have eP : fP 1 = false := rfl
 have eT : fT 1 = false := rfl
 have eS : fS 1 = false := rfl
 have eM : fM 1 = true := rfl
 have eD : fD 1 = false := rfl
 unfold frm
 simp only []
 rw [e0, eB, eK, eU, eP, eT, eS, eM, eD, HG]
 simp only [goz_t, goz_f, Bool.true_and]
 rw [Bool.eq_iff_iff]
 simp only [Bool.and_eq_true, decide_eq_true_eq, tmT_iff, gdI_iff, ptP_iff, true_and, and_true, eq_self_iff_true]
 subst hl
 constructor
 . intro h
   repeat' (first | (refine And.intro ?_ ?_))
   all_goals first | exact h.1 | omega | (simp_all; done) | (simp_all; omega) | grind
 . intro h
   repeat' (first | (refine And.intro ?_ ?_))
   all_goals first | exact h.1 | omega | (simp_all; done) | (simp_all; omega) | grind
theorem fr2 {i0 i1 i2 : Int} {bu ke : ByteArray} {u0 u1 u2 b0 b1 b2 sz : Int} {et : ByteArray} {pt : Int} {ps : List Int} {pn : Nat} {tm dy : Int} (HG : gdI i0 i1 i2 = true) (hl : pn = ps.length) : (gdN bu && (tmT tm && (tmT dy && (gdI u0 u1 u2 && (decide (bu = bu) && (decide (⟨#[]⟩ = ke) && (decide (0 = u0 /\ 0 = u1 /\ 0 = u2) && (decide ((0 = b0 /\ 0 = b1 /\ 0 = b2) /\ 0 = sz /\ ⟨#[]⟩ = et) && (decide (0 = pt) && (decide (0 = tm) && (decide (0 = dy) && decide (((0 : Nat) : Int) = (pn : Int))))))))))))) = frm ⟨2, i0, i1, i2, bu, ke, u0, u1, u2, b0, b1, b2, sz, et, pt, ps, tm, dy⟩ := by
 have e0 : kOk 2 = true := rfl
 have eB : fB 2 = true := rfl
 have eK : fK 2 = false := rfl
 have eU : fU 2 = false := rfl
 have eP : fP 2 = false := rfl
 have eT : fT 2 = false := rfl
 have eS : fS 2 = false := rfl
 have eM : fM 2 = false := rfl
 have eD : fD 2 = false := rfl
 unfold frm
 simp only []
 rw [e0, eB, eK, eU, eP, eT, eS, eM, eD, HG]
 simp only [goz_t, goz_f, Bool.true_and]
 rw [Bool.eq_iff_iff]
 simp only [Bool.and_eq_true, decide_eq_true_eq, tmT_iff, gdI_iff, ptP_iff, true_and, and_true, eq_self_iff_true]
 subst hl
 constructor
 . intro h
   repeat' (first | (refine And.intro ?_ ?_))
   all_goals first | exact h.1 | omega | (simp_all; done) | (simp_all; omega) | grind
 . intro h
   repeat' (first | (refine And.intro ?_ ?_))
   all_goals first | exact h.1 | omega | (simp_all; done) | (simp_all; omega) | grind
theorem fr3 {i0 i1 i2 : Int} {bu ke : ByteArray} {u0 u1 u2 b0 b1 b2 sz : Int} {et : ByteArray} {pt : Int} {ps : List Int} {pn : Nat} {tm dy : Int} (HG : gdI i0 i1 i2 = true) (hl : pn = ps.length) : ((((gdN bu && gdK ke) && gdP b0 b1 b2 sz et) && decide (b0 = i0 /\ b1 = i1 /\ b2 = i2)) && (tmT tm && (tmT dy && (gdI u0 u1 u2 && (decide (bu = bu) && (decide (ke = ke) && (decide (0 = u0 /\ 0 = u1 /\ 0 = u2) && (decide ((b0 = b0 /\ b1 = b1 /\ b2 = b2) /\ sz = sz /\ et = et) && (decide (0 = pt) && (decide (tm = tm) && (decide (0 = dy) && decide (((0 : Nat) : Int) = (pn : Int))))))))))))) = frm ⟨3, i0, i1, i2, bu, ke, u0, u1, u2, b0, b1, b2, sz, et, pt, ps, tm, dy⟩ := by
 have e0 : kOk 3 = true := rfl
 have eB : fB 3 = true := rfl
 have eK : fK 3 = true := rfl
 have eU : fU 3 = false := rfl
 have eP : fP 3 = true := rfl
 have eT : fT 3 = false := rfl
 have eS : fS 3 = false := rfl
 have eM : fM 3 = true := rfl
 have eD : fD 3 = false := rfl
 unfold frm
 simp only []
 rw [e0, eB, eK, eU, eP, eT, eS, eM, eD, HG]
 simp only [goz_t, goz_f, Bool.true_and]
 rw [Bool.eq_iff_iff]
 simp only [Bool.and_eq_true, decide_eq_true_eq, tmT_iff, gdI_iff, ptP_iff, true_and, and_true, eq_self_iff_true]
 subst hl
 constructor
 . intro h
   repeat' (first | (refine And.intro ?_ ?_))
   all_goals first | exact h.1 | omega | (simp_all; done) | (simp_all; omega) | grind
 . intro h
   repeat' (first | (refine And.intro ?_ ?_))
   all_goals first | exact h.1 | omega | (simp_all; done) | (simp_all; omega) | grind
theorem fr4 {i0 i1 i2 : Int} {bu ke : ByteArray} {u0 u1 u2 b0 b1 b2 sz : Int} {et : ByteArray} {pt : Int} {ps : List Int} {pn : Nat} {tm dy : Int} (HG : gdI i0 i1 i2 = true) (hl : pn = ps.length) : ((gdN bu && gdK ke) && (tmT tm && (tmT dy && (gdI u0 u1 u2 && (decide (bu = bu) && (decide (ke = ke) && (decide (0 = u0 /\ 0 = u1 /\ 0 = u2) && (decide ((0 = b0 /\ 0 = b1 /\ 0 = b2) /\ 0 = sz /\ ⟨#[]⟩ = et) && (decide (0 = pt) && (decide (0 = tm) && (decide (0 = dy) && decide (((0 : Nat) : Int) = (pn : Int))))))))))))) = frm ⟨4, i0, i1, i2, bu, ke, u0, u1, u2, b0, b1, b2, sz, et, pt, ps, tm, dy⟩ := by
 have e0 : kOk 4 = true := rfl
 have eB : fB 4 = true := rfl
 have eK : fK 4 = true := rfl
 have eU : fU 4 = false := rfl
 have eP : fP 4 = false := rfl
 have eT : fT 4 = false := rfl
 have eS : fS 4 = false := rfl
 have eM : fM 4 = false := rfl
 have eD : fD 4 = false := rfl
 unfold frm
 simp only []
 rw [e0, eB, eK, eU, eP, eT, eS, eM, eD, HG]
 simp only [goz_t, goz_f, Bool.true_and]
 rw [Bool.eq_iff_iff]
 simp only [Bool.and_eq_true, decide_eq_true_eq, tmT_iff, gdI_iff, ptP_iff, true_and, and_true, eq_self_iff_true]
 subst hl
 constructor
 . intro h
   repeat' (first | (refine And.intro ?_ ?_))
   all_goals first | exact h.1 | omega | (simp_all; done) | (simp_all; omega) | grind
 . intro h
   repeat' (first | (refine And.intro ?_ ?_))
   all_goals first | exact h.1 | omega | (simp_all; done) | (simp_all; omega) | grind
theorem fr5 {i0 i1 i2 : Int} {bu ke : ByteArray} {u0 u1 u2 b0 b1 b2 sz : Int} {et : ByteArray} {pt : Int} {ps : List Int} {pn : Nat} {tm dy : Int} (HG : gdI i0 i1 i2 = true) (hl : pn = ps.length) : ((gdN bu && gdK ke) && (tmT tm && (tmT dy && (gdI u0 u1 u2 && (decide (bu = bu) && (decide (ke = ke) && (decide (0 = u0 /\ 0 = u1 /\ 0 = u2) && (decide ((0 = b0 /\ 0 = b1 /\ 0 = b2) /\ 0 = sz /\ ⟨#[]⟩ = et) && (decide (0 = pt) && (decide (0 = tm) && (decide (0 = dy) && decide (((0 : Nat) : Int) = (pn : Int))))))))))))) = frm ⟨5, i0, i1, i2, bu, ke, u0, u1, u2, b0, b1, b2, sz, et, pt, ps, tm, dy⟩ := by
 have e0 : kOk 5 = true := rfl
 have eB : fB 5 = true := rfl
 have eK : fK 5 = true := rfl
 have eU : fU 5 = false := rfl
 have eP : fP 5 = false := rfl
 have eT : fT 5 = false := rfl
 have eS : fS 5 = false := rfl
 have eM : fM 5 = false := rfl
 have eD : fD 5 = false := rfl
 unfold frm
 simp only []
 rw [e0, eB, eK, eU, eP, eT, eS, eM, eD, HG]
 simp only [goz_t, goz_f, Bool.true_and]
 rw [Bool.eq_iff_iff]
 simp only [Bool.and_eq_true, decide_eq_true_eq, tmT_iff, gdI_iff, ptP_iff, true_and, and_true, eq_self_iff_true]
 subst hl
 constructor
 . intro h
   repeat' (first | (refine And.intro ?_ ?_))
   all_goals first | exact h.1 | omega | (simp_all; done) | (simp_all; omega) | grind
 . intro h
   repeat' (first | (refine And.intro ?_ ?_))
   all_goals first | exact h.1 | omega | (simp_all; done) | (simp_all; omega) | grind
theorem fr6 {i0 i1 i2 : Int} {bu ke : ByteArray} {u0 u1 u2 b0 b1 b2 sz : Int} {et : ByteArray} {pt : Int} {ps : List Int} {pn : Nat} {tm dy : Int} (HG : gdI i0 i1 i2 = true) (hl : pn = ps.length) : (((((gdN bu && gdK ke) && gdP b0 b1 b2 sz et) && decide (b0 = i0 /\ b1 = i1 /\ b2 = i2)) && ptP pt) && (tmT tm && (tmT dy && (gdI u0 u1 u2 && (decide (bu = bu) && (decide (ke = ke) && (decide (u0 = u0 /\ u1 = u1 /\ u2 = u2) && (decide ((b0 = b0 /\ b1 = b1 /\ b2 = b2) /\ sz = sz /\ et = et) && (decide (pt = pt) && (decide (0 = tm) && (decide (0 = dy) && decide (((0 : Nat) : Int) = (pn : Int))))))))))))) = frm ⟨6, i0, i1, i2, bu, ke, u0, u1, u2, b0, b1, b2, sz, et, pt, ps, tm, dy⟩ := by
 have e0 : kOk 6 = true := rfl
 have eB : fB 6 = true := rfl
 have eK : fK 6 = true := rfl
 have eU : fU 6 = true := rfl
 have eP : fP 6 = true := rfl
 have eT : fT 6 = true := rfl
 have eS : fS 6 = false := rfl
 have eM : fM 6 = false := rfl
 have eD : fD 6 = false := rfl
 unfold frm
 simp only []
 rw [e0, eB, eK, eU, eP, eT, eS, eM, eD, HG]
 simp only [goz_t, goz_f, Bool.true_and]
 rw [Bool.eq_iff_iff]
 simp only [Bool.and_eq_true, decide_eq_true_eq, tmT_iff, gdI_iff, ptP_iff, true_and, and_true, eq_self_iff_true]
 subst hl
 constructor
 . intro h
   repeat' (first | (refine And.intro ?_ ?_))
   all_goals first | exact h.1 | omega | (simp_all; done) | (simp_all; omega) | grind
 . intro h
   repeat' (first | (refine And.intro ?_ ?_))
   all_goals first | exact h.1 | omega | (simp_all; done) | (simp_all; omega) | grind
theorem fr7 {i0 i1 i2 : Int} {bu ke : ByteArray} {u0 u1 u2 b0 b1 b2 sz : Int} {et : ByteArray} {pt : Int} {ps : List Int} {pn : Nat} {tm dy : Int} (HG : gdI i0 i1 i2 = true) (hl : pn = ps.length) : (((gdN bu && gdK ke) && gdS ps) && (tmT tm && (tmT dy && (gdI u0 u1 u2 && (decide (bu = bu) && (decide (ke = ke) && (decide (u0 = u0 /\ u1 = u1 /\ u2 = u2) && (decide ((0 = b0 /\ 0 = b1 /\ 0 = b2) /\ 0 = sz /\ ⟨#[]⟩ = et) && (decide (0 = pt) && (decide (tm = tm) && (decide (0 = dy) && decide (((pn : Nat) : Int) = (pn : Int))))))))))))) = frm ⟨7, i0, i1, i2, bu, ke, u0, u1, u2, b0, b1, b2, sz, et, pt, ps, tm, dy⟩ := by
 have e0 : kOk 7 = true := rfl
 have eB : fB 7 = true := rfl
 have eK : fK 7 = true := rfl
 have eU : fU 7 = true := rfl
 have eP : fP 7 = false := rfl
 have eT : fT 7 = false := rfl
 have eS : fS 7 = true := rfl
 have eM : fM 7 = true := rfl
 have eD : fD 7 = false := rfl
 unfold frm
 simp only []
 rw [e0, eB, eK, eU, eP, eT, eS, eM, eD, HG]
 simp only [goz_t, goz_f, Bool.true_and]
 rw [Bool.eq_iff_iff]
 simp only [Bool.and_eq_true, decide_eq_true_eq, tmT_iff, gdI_iff, ptP_iff, true_and, and_true, eq_self_iff_true]
 subst hl
 constructor
 . intro h
   repeat' (first | (refine And.intro ?_ ?_))
   all_goals first | exact h.1 | omega | (simp_all; done) | (simp_all; omega) | grind
 . intro h
   repeat' (first | (refine And.intro ?_ ?_))
   all_goals first | exact h.1 | omega | (simp_all; done) | (simp_all; omega) | grind
theorem fr8 {i0 i1 i2 : Int} {bu ke : ByteArray} {u0 u1 u2 b0 b1 b2 sz : Int} {et : ByteArray} {pt : Int} {ps : List Int} {pn : Nat} {tm dy : Int} (HG : gdI i0 i1 i2 = true) (hl : pn = ps.length) : ((gdN bu && gdK ke) && (tmT tm && (tmT dy && (gdI u0 u1 u2 && (decide (bu = bu) && (decide (ke = ke) && (decide (u0 = u0 /\ u1 = u1 /\ u2 = u2) && (decide ((0 = b0 /\ 0 = b1 /\ 0 = b2) /\ 0 = sz /\ ⟨#[]⟩ = et) && (decide (0 = pt) && (decide (0 = tm) && (decide (0 = dy) && decide (((0 : Nat) : Int) = (pn : Int))))))))))))) = frm ⟨8, i0, i1, i2, bu, ke, u0, u1, u2, b0, b1, b2, sz, et, pt, ps, tm, dy⟩ := by
 have e0 : kOk 8 = true := rfl
 have eB : fB 8 = true := rfl
 have eK : fK 8 = true := rfl
 have eU : fU 8 = true := rfl
 have eP : fP 8 = false := rfl
 have eT : fT 8 = false := rfl
 have eS : fS 8 = false := rfl
 have eM : fM 8 = false := rfl
 have eD : fD 8 = false := rfl
 unfold frm
 simp only []
 rw [e0, eB, eK, eU, eP, eT, eS, eM, eD, HG]
 simp only [goz_t, goz_f, Bool.true_and]
 rw [Bool.eq_iff_iff]
 simp only [Bool.and_eq_true, decide_eq_true_eq, tmT_iff, gdI_iff, ptP_iff, true_and, and_true, eq_self_iff_true]
 subst hl
 constructor
 . intro h
   repeat' (first | (refine And.intro ?_ ?_))
   all_goals first | exact h.1 | omega | (simp_all; done) | (simp_all; omega) | grind
 . intro h
   repeat' (first | (refine And.intro ?_ ?_))
   all_goals first | exact h.1 | omega | (simp_all; done) | (simp_all; omega) | grind
theorem fr9 {i0 i1 i2 : Int} {bu ke : ByteArray} {u0 u1 u2 b0 b1 b2 sz : Int} {et : ByteArray} {pt : Int} {ps : List Int} {pn : Nat} {tm dy : Int} (HG : gdI i0 i1 i2 = true) (hl : pn = ps.length) : (gdN bu && (tmT tm && (tmT dy && (gdI u0 u1 u2 && (decide (bu = bu) && (decide (⟨#[]⟩ = ke) && (decide (0 = u0 /\ 0 = u1 /\ 0 = u2) && (decide ((0 = b0 /\ 0 = b1 /\ 0 = b2) /\ 0 = sz /\ ⟨#[]⟩ = et) && (decide (0 = pt) && (decide (0 = tm) && (decide (dy = dy) && decide (((0 : Nat) : Int) = (pn : Int))))))))))))) = frm ⟨9, i0, i1, i2, bu, ke, u0, u1, u2, b0, b1, b2, sz, et, pt, ps, tm, dy⟩ := by
 have e0 : kOk 9 = true := rfl
 have eB : fB 9 = true := rfl
 have eK : fK 9 = false := rfl
 have eU : fU 9 = false := rfl
 have eP : fP 9 = false := rfl
 have eT : fT 9 = false := rfl
 have eS : fS 9 = false := rfl
 have eM : fM 9 = false := rfl
 have eD : fD 9 = true := rfl
 unfold frm
 simp only []
 rw [e0, eB, eK, eU, eP, eT, eS, eM, eD, HG]
 simp only [goz_t, goz_f, Bool.true_and]
 rw [Bool.eq_iff_iff]
 simp only [Bool.and_eq_true, decide_eq_true_eq, tmT_iff, gdI_iff, ptP_iff, true_and, and_true, eq_self_iff_true]
 subst hl
 constructor
 . intro h
   repeat' (first | (refine And.intro ?_ ?_))
   all_goals first | exact h.1 | omega | (simp_all; done) | (simp_all; omega) | grind
 . intro h
   repeat' (first | (refine And.intro ?_ ?_))
   all_goals first | exact h.1 | omega | (simp_all; done) | (simp_all; omega) | grind
theorem fr10 {i0 i1 i2 : Int} {bu ke : ByteArray} {u0 u1 u2 b0 b1 b2 sz : Int} {et : ByteArray} {pt : Int} {ps : List Int} {pn : Nat} {tm dy : Int} (HG : gdI i0 i1 i2 = true) (hl : pn = ps.length) : (true && (tmT tm && (tmT dy && (gdI u0 u1 u2 && (decide (⟨#[]⟩ = bu) && (decide (⟨#[]⟩ = ke) && (decide (0 = u0 /\ 0 = u1 /\ 0 = u2) && (decide ((0 = b0 /\ 0 = b1 /\ 0 = b2) /\ 0 = sz /\ ⟨#[]⟩ = et) && (decide (0 = pt) && (decide (tm = tm) && (decide (0 = dy) && decide (((0 : Nat) : Int) = (pn : Int))))))))))))) = frm ⟨10, i0, i1, i2, bu, ke, u0, u1, u2, b0, b1, b2, sz, et, pt, ps, tm, dy⟩ := by
 have e0 : kOk 10 = true := rfl
 have eB : fB 10 = false := rfl
 have eK : fK 10 = false := rfl
 have eU : fU 10 = false := rfl
 have eP : fP 10 = false := rfl
 have eT : fT 10 = false := rfl
 have eS : fS 10 = false := rfl
 have eM : fM 10 = true := rfl
 have eD : fD 10 = false := rfl
 unfold frm
 simp only []
 rw [e0, eB, eK, eU, eP, eT, eS, eM, eD, HG]
 simp only [goz_t, goz_f, Bool.true_and]
 rw [Bool.eq_iff_iff]
 simp only [Bool.and_eq_true, decide_eq_true_eq, tmT_iff, gdI_iff, ptP_iff, true_and, and_true, eq_self_iff_true]
 subst hl
 constructor
 . intro h
   repeat' (first | (refine And.intro ?_ ?_))
   all_goals first | exact h.1 | omega | (simp_all; done) | (simp_all; omega) | grind
 . intro h
   repeat' (first | (refine And.intro ?_ ?_))
   all_goals first | exact h.1 | omega | (simp_all; done) | (simp_all; omega) | grind
theorem fr11 {i0 i1 i2 : Int} {bu ke : ByteArray} {u0 u1 u2 b0 b1 b2 sz : Int} {et : ByteArray} {pt : Int} {ps : List Int} {pn : Nat} {tm dy : Int} (HG : gdI i0 i1 i2 = true) (hl : pn = ps.length) : (true && (tmT tm && (tmT dy && (gdI u0 u1 u2 && (decide (⟨#[]⟩ = bu) && (decide (⟨#[]⟩ = ke) && (decide (0 = u0 /\ 0 = u1 /\ 0 = u2) && (decide ((0 = b0 /\ 0 = b1 /\ 0 = b2) /\ 0 = sz /\ ⟨#[]⟩ = et) && (decide (0 = pt) && (decide (0 = tm) && (decide (0 = dy) && decide (((0 : Nat) : Int) = (pn : Int))))))))))))) = frm ⟨11, i0, i1, i2, bu, ke, u0, u1, u2, b0, b1, b2, sz, et, pt, ps, tm, dy⟩ := by
 have e0 : kOk 11 = true := rfl
 have eB : fB 11 = false := rfl
 have eK : fK 11 = false := rfl
 have eU : fU 11 = false := rfl
 have eP : fP 11 = false := rfl
 have eT : fT 11 = false := rfl
 have eS : fS 11 = false := rfl
 have eM : fM 11 = false := rfl
 have eD : fD 11 = false := rfl
 unfold frm
 simp only []
 rw [e0, eB, eK, eU, eP, eT, eS, eM, eD, HG]
 simp only [goz_t, goz_f, Bool.true_and]
 rw [Bool.eq_iff_iff]
 simp only [Bool.and_eq_true, decide_eq_true_eq, tmT_iff, gdI_iff, ptP_iff, true_and, and_true, eq_self_iff_true]
 subst hl
 constructor
 . intro h
   repeat' (first | (refine And.intro ?_ ?_))
   all_goals first | exact h.1 | omega | (simp_all; done) | (simp_all; omega) | grind
 . intro h
   repeat' (first | (refine And.intro ?_ ?_))
   all_goals first | exact h.1 | omega | (simp_all; done) | (simp_all; omega) | grind
end Go.Proofs.YtppibcambhmomaaDoor
namespace Go.Proofs.YtppibcambhmomaaDoor
open Go.ChangeShapes Go.WideShapes Go.ChangeAt Go.RowKit
set_option maxRecDepth 20000
set_option linter.unusedVariables false
theorem tw_set {w W : World} {g1 g3 : Nat} {A Z : Array Value} (h : Tw w W g1 g3 A Z) (hne : g1 ≠ g3) (hB : w.heap.size <= g3) (j : Nat) (v : Value) : Tw w (W.setCell ⟨g3, j, none⟩ v) g1 g3 A (Z.setIfInBounds j v) :=
 ⟨(Below.heap_setCell _ _ _ _ hne).trans h.h1, set_blk h.h3 j v, h.bel.trans ((Ch.set W g3 j v).toBelow h.bel.size (fun q hq e => by have e2 : q = g3 := e; omega))⟩
theorem Tw.fz {w W : World} {g1 g3 : Nat} {A Z : Array Value} (h : Tw w W g1 g3 A Z) (i : Nat) : W.frozen? ⟨g3, i, none⟩ = false := by simp [World.frozen?, h.h3]
end Go.Proofs.YtppibcambhmomaaDoor
namespace Go.Proofs.YtppibcambhmomaaDoor
open Go.ChangeShapes Go.WideShapes Go.ChangeAt Go.RowKit
noncomputable def opsIn (n : Nat) : Array Oper := match Tryd.f45.body with
 | some c => match regIn n c with
   | some o => o
   | none => #[]
 | none => #[]
noncomputable def ops23 : Array Oper := opsIn 23
noncomputable def ops26 : Array Oper := opsIn 26
noncomputable def ops29 : Array Oper := opsIn 29
structure Kc (W : World) (g1 : Nat) (A : Array Value) : Prop where
 h : W.heap[g1]? = some (.cells A 60 (0, 0))
theorem Kc.c {W : World} {g1 : Nat} {A : Array Value} (h : Kc W g1 A) (j : Nat) (v : Value) (hv : A[j]? = some v) : W.cell? ⟨g1, j, none⟩ = some v := by simp [World.cell?, h.h, hv]
end Go.Proofs.YtppibcambhmomaaDoor
namespace Go.Proofs.YtppibcambhmomaaDoor
open Go.ChangeShapes Go.WideShapes Go.ChangeAt Go.RowKit
set_option maxRecDepth 20000
set_option linter.unusedVariables false
set_option linter.unusedSimpArgs false
set_option maxHeartbeats 4000000 in
theorem inF_bad {w : World} {k i0 i1 i2 : Int} {bu ke : ByteArray} {u0 u1 u2 b0 b1 b2 sz : Int} {et : ByteArray} {pt : Int} {ps : List Int} {pa : Option Addr} {pn pc : Nat} {tm dy : Int} (HG : Hid (gdI i0 i1 i2 = false)) :
  Calls Tryd.prog 45 #[.agg #[.int .i64 k,.int .i64 i0,.int .i64 i1,.int .i64 i2,.string bu,.string ke,.int .i64 u0,.int .i64 u1,.int .i64 u2,.int .i64 b0,.int .i64 b1,.int .i64 b2,.int .i64 sz,.string et,.int .i64 pt,.slice pa pn pc,.int .i64 tm,.int .i64 dy]] w fun e w' => e = .returned (.bool (frm ⟨k, i0, i1, i2, bu, ke, u0, u1, u2, b0, b1, b2, sz, et, pt, ps, tm, dy⟩)) /\ Hid (Below w.heap.size w w') := by
 have FE : Hid (frm ⟨k, i0, i1, i2, bu, ke, u0, u1, u2, b0, b1, b2, sz, et, pt, ps, tm, dy⟩ = false) := by
  show frm _ = false
  unfold frm
  simp only []
  rw [HG.out, Bool.false_and, Bool.and_false]
 obtain ⟨g1, Hg1⟩ := nm (w.heap.size)
 obtain ⟨w1, Hw1⟩ := nm (w.alloc (.cells #[.int .i64 k,.int .i64 i0,.int .i64 i1,.int .i64 i2,.string bu,.string ke,.int .i64 u0,.int .i64 u1,.int .i64 u2,.int .i64 b0,.int .i64 b1,.int .i64 b2,.int .i64 sz,.string et,.int .i64 pt,.slice pa pn pc,.int .i64 tm,.int .i64 dy] 60))
 have B1 := al1 Hw1
 have k1 : Hid (w1.heap[g1]? = some (.cells #[.int .i64 k,.int .i64 i0,.int .i64 i1,.int .i64 i2,.string bu,.string ke,.int .i64 u0,.int .i64 u1,.int .i64 u2,.int .i64 b0,.int .i64 b1,.int .i64 b2,.int .i64 sz,.string et,.int .i64 pt,.slice pa pn pc,.int .i64 tm,.int .i64 dy] 60 (0, 0))) := by rw [<- Hw1.out, <- Hg1.out]; exact heap_alloc_new w _
 have x1 : w1.cell? ⟨g1, 1, none⟩ = some (.int .i64 i0) := by simp [World.cell?, k1.out]
 have x2 : w1.cell? ⟨g1, 2, none⟩ = some (.int .i64 i1) := by simp [World.cell?, k1.out]
 have x3 : w1.cell? ⟨g1, 3, none⟩ = some (.int .i64 i2) := by simp [World.cell?, k1.out]
 go_enter Tryd.func45, Tryd.ntmps45
 go_upto_region 1 with (fail)
 rw [Hw1.out, Hg1.out]
 go_wp2_with (go_at_call 20; refine (refGoodId_n _ _ _ _).mono ?_; rintro e w2 ⟨rfl, h2⟩; rw [HG.out])
 go_ret
 rw [FE.out]
 have hb2 : Below w1.heap.size w1 w2 := by rw [h2.out]; exact alloc1 _ _
 exact ⟨rfl, B1.out.trans (hb2.mono B1.out.size)⟩
set_option maxHeartbeats 4000000 in
theorem inF_no {w : World} {k : Int} {i0 i1 i2 : Int} {bu ke : ByteArray} {u0 u1 u2 b0 b1 b2 sz : Int} {et : ByteArray} {pt : Int} {ps : List Int} {pa : Option Addr} {pn pc : Nat} {tm dy : Int} (hI : Hid (Irow w 0 pa pn ps)) (HG : Hid (gdI i0 i1 i2 = true)) (hbu : bu.size <= 281474976710656) (hke : ke.size <= 281474976710656) (het : et.size <= 281474976710656) (hk : k < 1 ∨ 11 < k) :
  Calls Tryd.prog 45 #[.agg #[.int .i64 k,.int .i64 i0,.int .i64 i1,.int .i64 i2,.string bu,.string ke,.int .i64 u0,.int .i64 u1,.int .i64 u2,.int .i64 b0,.int .i64 b1,.int .i64 b2,.int .i64 sz,.string et,.int .i64 pt,.slice pa pn pc,.int .i64 tm,.int .i64 dy]] w fun e w' => e = .returned (.bool (frm ⟨k, i0, i1, i2, bu, ke, u0, u1, u2, b0, b1, b2, sz, et, pt, ps, tm, dy⟩)) /\ Hid (Below w.heap.size w w') := by
 obtain ⟨g1, Hg1⟩ := nm (w.heap.size)
 obtain ⟨w1, Hw1⟩ := nm (w.alloc (.cells #[.int .i64 k,.int .i64 i0,.int .i64 i1,.int .i64 i2,.string bu,.string ke,.int .i64 u0,.int .i64 u1,.int .i64 u2,.int .i64 b0,.int .i64 b1,.int .i64 b2,.int .i64 sz,.string et,.int .i64 pt,.slice pa pn pc,.int .i64 tm,.int .i64 dy] 60))
 have B1 := al1 Hw1
 have k1 : Hid (w1.heap[g1]? = some (.cells #[.int .i64 k,.int .i64 i0,.int .i64 i1,.int .i64 i2,.string bu,.string ke,.int .i64 u0,.int .i64 u1,.int .i64 u2,.int .i64 b0,.int .i64 b1,.int .i64 b2,.int .i64 sz,.string et,.int .i64 pt,.slice pa pn pc,.int .i64 tm,.int .i64 dy] 60 (0, 0))) := by rw [<- Hw1.out, <- Hg1.out]; exact heap_alloc_new w _
 have x1 : w1.cell? ⟨g1, 1, none⟩ = some (.int .i64 i0) := by simp [World.cell?, k1.out]
 have x2 : w1.cell? ⟨g1, 2, none⟩ = some (.int .i64 i1) := by simp [World.cell?, k1.out]
 have x3 : w1.cell? ⟨g1, 3, none⟩ = some (.int .i64 i2) := by simp [World.cell?, k1.out]
 go_enter Tryd.func45, Tryd.ntmps45
 go_upto_region 1 with (fail)
 rw [Hw1.out, Hg1.out]
 go_upto_region 3 with (go_at_call 20; refine (refGoodId_n _ _ _ _).mono ?_; rintro e w2 ⟨rfl, h2⟩; rw [HG.out])
 clear x1 x2 x3
 have hb2 := al2 h2
 have k2 := sh hb2 k1
 have x0 : w2.cell? ⟨g1, 0, none⟩ = some (.int .i64 k) := by simp [World.cell?, k2.out]
 have x1 : w2.cell? ⟨g1, 1, none⟩ = some (.int .i64 i0) := by simp [World.cell?, k2.out]
 have x2 : w2.cell? ⟨g1, 2, none⟩ = some (.int .i64 i1) := by simp [World.cell?, k2.out]
 have x3 : w2.cell? ⟨g1, 3, none⟩ = some (.int .i64 i2) := by simp [World.cell?, k2.out]
 obtain ⟨g3, Hg3⟩ := nm (w2.heap.size)
 obtain ⟨w3, Hw3⟩ := nm (w2.alloc (.cells #[.int .i64 k,.int .i64 i0,.int .i64 i1,.int .i64 i2,.string ⟨#[]⟩,.string ⟨#[]⟩,.int .i64 0,.int .i64 0,.int .i64 0,.int .i64 0,.int .i64 0,.int .i64 0,.int .i64 0,.string ⟨#[]⟩,.int .i64 0,.slice none 0 0,.int .i64 0,.int .i64 0] 60))
 have hb3 := al1 Hw3
 have HC : Hid (Tw w w3 g1 g3 #[.int .i64 k,.int .i64 i0,.int .i64 i1,.int .i64 i2,.string bu,.string ke,.int .i64 u0,.int .i64 u1,.int .i64 u2,.int .i64 b0,.int .i64 b1,.int .i64 b2,.int .i64 sz,.string et,.int .i64 pt,.slice pa pn pc,.int .i64 tm,.int .i64 dy] #[.int .i64 k,.int .i64 i0,.int .i64 i1,.int .i64 i2,.string ⟨#[]⟩,.string ⟨#[]⟩,.int .i64 0,.int .i64 0,.int .i64 0,.int .i64 0,.int .i64 0,.int .i64 0,.int .i64 0,.string ⟨#[]⟩,.int .i64 0,.slice none 0 0,.int .i64 0,.int .i64 0]) := by
  refine ⟨(hb3.out.block g1 (gl k2.out)).trans k2.out, ?_, (B1.out.trans (hb2.out.mono B1.out.size)).trans (hb3.out.mono (Nat.le_trans B1.out.size hb2.out.size))⟩
  rw [<- Hw3.out, <- Hg3.out]
  exact heap_alloc_new w2 _
 have gne : Hid (g1 ≠ g3) := by
  have h := (gl k2.out)
  rw [Hg3.out] at h
  exact Nat.ne_of_lt h
 have GB0 : Hid (w.heap.size <= g3) := by
  have h := Nat.le_trans B1.out.size hb2.out.size
  rw [Hg3.out] at h
  exact h
 go_upto_region 5 with (fail)
 rw [Hw3.out, Hg3.out]
 clear x0 x1 x2 x3 h2 hb2 hb3 k1 k2 B1 Hw1 Hg1 Hw3 Hg3
 have gB : Hid (w.heap.size <= g3) := GB0.out
 have FE : Hid (frm ⟨k, i0, i1, i2, bu, ke, u0, u1, u2, b0, b1, b2, sz, et, pt, ps, tm, dy⟩ = false) := by
  have e : kOk k = false := decide_eq_false (by omega)
  show frm _ = false
  unfold frm
  simp only []
  rw [e, Bool.false_and]
 have n1 : ¬ (k = 1) := by omega
 have n2 : ¬ (k = 2) := by omega
 have n4 : ¬ (k = 4) := by omega
 have n5 : ¬ (k = 5) := by omega
 have n6 : ¬ (k = 6) := by omega
 have n7 : ¬ (k = 7) := by omega
 have n8 : ¬ (k = 8) := by omega
 have n9 : ¬ (k = 9) := by omega
 have n10 : ¬ (k = 10) := by omega
 have n11 : ¬ (k = 11) := by omega
 have n3 : ¬ (k = 3) := by omega
 have m10 : (k != 10) = true := by simp [n10]
 have m11 : (k != 11) = true := by simp [n11]
 have hkk : ¬ (3 <= k) ∨ ¬ (k <= 8) := by omega
 have x0 : w3.cell? ⟨g1, 0, none⟩ = some (.int .i64 k) := HC.out.c 0 _ rfl
 go_upto_region 7 with (fail)
 clear x0
 have x4 : w3.cell? ⟨g1, 4, none⟩ = some (.string bu) := HC.out.c 4 _ rfl
 have y4 : w3.cell? ⟨g3, 4, none⟩ = some (.string ⟨#[]⟩) := HC.out.z 4 _ rfl
 have f4 := HC.out.fz 4
 obtain ⟨w4, Hw4⟩ := nm ((w3.setCell ⟨g3, 4, none⟩ (.string bu)))
 have HD : Hid (Tw w w4 g1 g3 #[.int .i64 k,.int .i64 i0,.int .i64 i1,.int .i64 i2,.string bu,.string ke,.int .i64 u0,.int .i64 u1,.int .i64 u2,.int .i64 b0,.int .i64 b1,.int .i64 b2,.int .i64 sz,.string et,.int .i64 pt,.slice pa pn pc,.int .i64 tm,.int .i64 dy] #[.int .i64 k,.int .i64 i0,.int .i64 i1,.int .i64 i2,.string bu,.string ⟨#[]⟩,.int .i64 0,.int .i64 0,.int .i64 0,.int .i64 0,.int .i64 0,.int .i64 0,.int .i64 0,.string ⟨#[]⟩,.int .i64 0,.slice none 0 0,.int .i64 0,.int .i64 0]) := by rw [<- Hw4.out]; exact (tw_set HC.out gne.out gB.out 4 (.string bu))
 go_upto_region 8 with (fail)
 rw [Hw4.out]
 clear HC x4 y4 f4
 have HC := HD
 clear HD Hw4
 have x4 : w4.cell? ⟨g1, 4, none⟩ = some (.string bu) := HC.out.c 4 _ rfl
 go_upto_region 9 with (go_at_call 58; refine (refBucket_n bu hbu _).mono ?_; rintro e w0 ⟨rfl, h0⟩; rw [h0]; clear h0)
 clear x4
 have x0 : w4.cell? ⟨g1, 0, none⟩ = some (.int .i64 k) := HC.out.c 0 _ rfl
 by_cases h3 : 3 <= k
 . have h8 : ¬ (k <= 8) := by omega
   go_wp2
   go_ret
   rw [FE.out]
   exact ⟨rfl, HC.out.bel⟩
 . go_wp2
   go_ret
   rw [FE.out]
   exact ⟨rfl, HC.out.bel⟩
set_option maxHeartbeats 4000000 in
theorem inF_1 {w : World} {i0 i1 i2 : Int} {bu ke : ByteArray} {u0 u1 u2 b0 b1 b2 sz : Int} {et : ByteArray} {pt : Int} {ps : List Int} {pa : Option Addr} {pn pc : Nat} {tm dy : Int} (hI : Hid (Irow w 0 pa pn ps)) (HG : Hid (gdI i0 i1 i2 = true)) (hbu : bu.size <= 281474976710656) (hke : ke.size <= 281474976710656) (het : et.size <= 281474976710656) :
  Calls Tryd.prog 45 #[.agg #[.int .i64 1,.int .i64 i0,.int .i64 i1,.int .i64 i2,.string bu,.string ke,.int .i64 u0,.int .i64 u1,.int .i64 u2,.int .i64 b0,.int .i64 b1,.int .i64 b2,.int .i64 sz,.string et,.int .i64 pt,.slice pa pn pc,.int .i64 tm,.int .i64 dy]] w fun e w' => e = .returned (.bool (frm ⟨1, i0, i1, i2, bu, ke, u0, u1, u2, b0, b1, b2, sz, et, pt, ps, tm, dy⟩)) /\ Hid (Below w.heap.size w w') := by
 obtain ⟨g1, Hg1⟩ := nm (w.heap.size)
 obtain ⟨w1, Hw1⟩ := nm (w.alloc (.cells #[.int .i64 1,.int .i64 i0,.int .i64 i1,.int .i64 i2,.string bu,.string ke,.int .i64 u0,.int .i64 u1,.int .i64 u2,.int .i64 b0,.int .i64 b1,.int .i64 b2,.int .i64 sz,.string et,.int .i64 pt,.slice pa pn pc,.int .i64 tm,.int .i64 dy] 60))
 have B1 := al1 Hw1
 have k1 : Hid (w1.heap[g1]? = some (.cells #[.int .i64 1,.int .i64 i0,.int .i64 i1,.int .i64 i2,.string bu,.string ke,.int .i64 u0,.int .i64 u1,.int .i64 u2,.int .i64 b0,.int .i64 b1,.int .i64 b2,.int .i64 sz,.string et,.int .i64 pt,.slice pa pn pc,.int .i64 tm,.int .i64 dy] 60 (0, 0))) := by rw [<- Hw1.out, <- Hg1.out]; exact heap_alloc_new w _
 have x1 : w1.cell? ⟨g1, 1, none⟩ = some (.int .i64 i0) := by simp [World.cell?, k1.out]
 have x2 : w1.cell? ⟨g1, 2, none⟩ = some (.int .i64 i1) := by simp [World.cell?, k1.out]
 have x3 : w1.cell? ⟨g1, 3, none⟩ = some (.int .i64 i2) := by simp [World.cell?, k1.out]
 go_enter Tryd.func45, Tryd.ntmps45
 go_upto_region 1 with (fail)
 rw [Hw1.out, Hg1.out]
 go_upto_region 3 with (go_at_call 20; refine (refGoodId_n _ _ _ _).mono ?_; rintro e w2 ⟨rfl, h2⟩; rw [HG.out])
 clear x1 x2 x3
 have hb2 := al2 h2
 have k2 := sh hb2 k1
 have x0 : w2.cell? ⟨g1, 0, none⟩ = some (.int .i64 1) := by simp [World.cell?, k2.out]
 have x1 : w2.cell? ⟨g1, 1, none⟩ = some (.int .i64 i0) := by simp [World.cell?, k2.out]
 have x2 : w2.cell? ⟨g1, 2, none⟩ = some (.int .i64 i1) := by simp [World.cell?, k2.out]
 have x3 : w2.cell? ⟨g1, 3, none⟩ = some (.int .i64 i2) := by simp [World.cell?, k2.out]
 obtain ⟨g3, Hg3⟩ := nm (w2.heap.size)
 obtain ⟨w3, Hw3⟩ := nm (w2.alloc (.cells #[.int .i64 1,.int .i64 i0,.int .i64 i1,.int .i64 i2,.string ⟨#[]⟩,.string ⟨#[]⟩,.int .i64 0,.int .i64 0,.int .i64 0,.int .i64 0,.int .i64 0,.int .i64 0,.int .i64 0,.string ⟨#[]⟩,.int .i64 0,.slice none 0 0,.int .i64 0,.int .i64 0] 60))
 have hb3 := al1 Hw3
 have HC : Hid (Tw w w3 g1 g3 #[.int .i64 1,.int .i64 i0,.int .i64 i1,.int .i64 i2,.string bu,.string ke,.int .i64 u0,.int .i64 u1,.int .i64 u2,.int .i64 b0,.int .i64 b1,.int .i64 b2,.int .i64 sz,.string et,.int .i64 pt,.slice pa pn pc,.int .i64 tm,.int .i64 dy] #[.int .i64 1,.int .i64 i0,.int .i64 i1,.int .i64 i2,.string ⟨#[]⟩,.string ⟨#[]⟩,.int .i64 0,.int .i64 0,.int .i64 0,.int .i64 0,.int .i64 0,.int .i64 0,.int .i64 0,.string ⟨#[]⟩,.int .i64 0,.slice none 0 0,.int .i64 0,.int .i64 0]) := by
  refine ⟨(hb3.out.block g1 (gl k2.out)).trans k2.out, ?_, (B1.out.trans (hb2.out.mono B1.out.size)).trans (hb3.out.mono (Nat.le_trans B1.out.size hb2.out.size))⟩
  rw [<- Hw3.out, <- Hg3.out]
  exact heap_alloc_new w2 _
 have gne : Hid (g1 ≠ g3) := by
  have h := (gl k2.out)
  rw [Hg3.out] at h
  exact Nat.ne_of_lt h
 have GB0 : Hid (w.heap.size <= g3) := by
  have h := Nat.le_trans B1.out.size hb2.out.size
  rw [Hg3.out] at h
  exact h
 go_upto_region 5 with (fail)
 rw [Hw3.out, Hg3.out]
 clear x0 x1 x2 x3 h2 hb2 hb3 k1 k2 B1 Hw1 Hg1 Hw3 Hg3
 have gB : Hid (w.heap.size <= g3) := GB0.out
 obtain ⟨bn, Hbn⟩ := nm (gdN bu)
 have x0 : w3.cell? ⟨g1, 0, none⟩ = some (.int .i64 1) := HC.out.c 0 _ rfl
 go_upto_region 7 with (fail)
 clear x0
 have x4 : w3.cell? ⟨g1, 4, none⟩ = some (.string bu) := HC.out.c 4 _ rfl
 have y4 : w3.cell? ⟨g3, 4, none⟩ = some (.string ⟨#[]⟩) := HC.out.z 4 _ rfl
 have f4 := HC.out.fz 4
 obtain ⟨w4, Hw4⟩ := nm ((w3.setCell ⟨g3, 4, none⟩ (.string bu)))
 have HD : Hid (Tw w w4 g1 g3 #[.int .i64 1,.int .i64 i0,.int .i64 i1,.int .i64 i2,.string bu,.string ke,.int .i64 u0,.int .i64 u1,.int .i64 u2,.int .i64 b0,.int .i64 b1,.int .i64 b2,.int .i64 sz,.string et,.int .i64 pt,.slice pa pn pc,.int .i64 tm,.int .i64 dy] #[.int .i64 1,.int .i64 i0,.int .i64 i1,.int .i64 i2,.string bu,.string ⟨#[]⟩,.int .i64 0,.int .i64 0,.int .i64 0,.int .i64 0,.int .i64 0,.int .i64 0,.int .i64 0,.string ⟨#[]⟩,.int .i64 0,.slice none 0 0,.int .i64 0,.int .i64 0]) := by rw [<- Hw4.out]; exact (tw_set HC.out gne.out gB.out 4 (.string bu))
 go_upto_region 8 with (fail)
 rw [Hw4.out]
 clear HC x4 y4 f4
 have HC := HD
 clear HD Hw4
 have x4 : w4.cell? ⟨g1, 4, none⟩ = some (.string bu) := HC.out.c 4 _ rfl
 go_upto_region 9 with (go_at_call 58; refine (refBucket_n bu hbu _).mono ?_; rintro e w0 ⟨rfl, h0⟩; rw [h0, Hbn.out]; clear h0)
 clear x4
 have x0 : w4.cell? ⟨g1, 0, none⟩ = some (.int .i64 1) := HC.out.c 0 _ rfl
 go_upto_region 17 with (fail)
 clear x0
 have x16 : w4.cell? ⟨g1, 16, none⟩ = some (.int .i64 tm) := HC.out.c 16 _ rfl
 have y16 : w4.cell? ⟨g3, 16, none⟩ = some (.int .i64 0) := HC.out.z 16 _ rfl
 have f16 := HC.out.fz 16
 obtain ⟨w6, Hw6⟩ := nm ((w4.setCell ⟨g3, 16, none⟩ (.int .i64 tm)))
 have HD : Hid (Tw w w6 g1 g3 #[.int .i64 1,.int .i64 i0,.int .i64 i1,.int .i64 i2,.string bu,.string ke,.int .i64 u0,.int .i64 u1,.int .i64 u2,.int .i64 b0,.int .i64 b1,.int .i64 b2,.int .i64 sz,.string et,.int .i64 pt,.slice pa pn pc,.int .i64 tm,.int .i64 dy] #[.int .i64 1,.int .i64 i0,.int .i64 i1,.int .i64 i2,.string bu,.string ⟨#[]⟩,.int .i64 0,.int .i64 0,.int .i64 0,.int .i64 0,.int .i64 0,.int .i64 0,.int .i64 0,.string ⟨#[]⟩,.int .i64 0,.slice none 0 0,.int .i64 tm,.int .i64 0]) := by rw [<- Hw6.out]; exact (tw_set HC.out gne.out gB.out 16 (.int .i64 tm))
 go_upto_region 40 with (fail)
 rw [Hw6.out]
 clear HC x16 y16 f16
 have HC := HD
 clear HD Hw6
 refine chain40 (fun _ _ _ d _ h => by cases d <;> exact h) HC ?_
 intro a' W' q1 q2 q3
 refine (by assumption : ∀ (a : Act) (w : World), Code.wp Tryd.prog Code.ret _ a w -> _) a' W' ?_
 go_wp2
 refine bodyPost_ret (results_tmp Tryd.results45 _ _ _) q2 ?_
 rw [q1]
 refine ⟨congrArg (fun b => Ending.returned (Value.bool b)) ?_, q3⟩
 rw [<- fr1 HG.out hI.out.len]
 simp only [Hbn.out, Bool.true_and, Bool.false_and, Bool.and_true, Bool.and_false]
set_option maxHeartbeats 4000000 in
theorem inF_2 {w : World} {i0 i1 i2 : Int} {bu ke : ByteArray} {u0 u1 u2 b0 b1 b2 sz : Int} {et : ByteArray} {pt : Int} {ps : List Int} {pa : Option Addr} {pn pc : Nat} {tm dy : Int} (hI : Hid (Irow w 0 pa pn ps)) (HG : Hid (gdI i0 i1 i2 = true)) (hbu : bu.size <= 281474976710656) (hke : ke.size <= 281474976710656) (het : et.size <= 281474976710656) :
  Calls Tryd.prog 45 #[.agg #[.int .i64 2,.int .i64 i0,.int .i64 i1,.int .i64 i2,.string bu,.string ke,.int .i64 u0,.int .i64 u1,.int .i64 u2,.int .i64 b0,.int .i64 b1,.int .i64 b2,.int .i64 sz,.string et,.int .i64 pt,.slice pa pn pc,.int .i64 tm,.int .i64 dy]] w fun e w' => e = .returned (.bool (frm ⟨2, i0, i1, i2, bu, ke, u0, u1, u2, b0, b1, b2, sz, et, pt, ps, tm, dy⟩)) /\ Hid (Below w.heap.size w w') := by
 obtain ⟨g1, Hg1⟩ := nm (w.heap.size)
 obtain ⟨w1, Hw1⟩ := nm (w.alloc (.cells #[.int .i64 2,.int .i64 i0,.int .i64 i1,.int .i64 i2,.string bu,.string ke,.int .i64 u0,.int .i64 u1,.int .i64 u2,.int .i64 b0,.int .i64 b1,.int .i64 b2,.int .i64 sz,.string et,.int .i64 pt,.slice pa pn pc,.int .i64 tm,.int .i64 dy] 60))
 have B1 := al1 Hw1
 have k1 : Hid (w1.heap[g1]? = some (.cells #[.int .i64 2,.int .i64 i0,.int .i64 i1,.int .i64 i2,.string bu,.string ke,.int .i64 u0,.int .i64 u1,.int .i64 u2,.int .i64 b0,.int .i64 b1,.int .i64 b2,.int .i64 sz,.string et,.int .i64 pt,.slice pa pn pc,.int .i64 tm,.int .i64 dy] 60 (0, 0))) := by rw [<- Hw1.out, <- Hg1.out]; exact heap_alloc_new w _
 have x1 : w1.cell? ⟨g1, 1, none⟩ = some (.int .i64 i0) := by simp [World.cell?, k1.out]
 have x2 : w1.cell? ⟨g1, 2, none⟩ = some (.int .i64 i1) := by simp [World.cell?, k1.out]
 have x3 : w1.cell? ⟨g1, 3, none⟩ = some (.int .i64 i2) := by simp [World.cell?, k1.out]
 go_enter Tryd.func45, Tryd.ntmps45
 go_upto_region 1 with (fail)
 rw [Hw1.out, Hg1.out]
 go_upto_region 3 with (go_at_call 20; refine (refGoodId_n _ _ _ _).mono ?_; rintro e w2 ⟨rfl, h2⟩; rw [HG.out])
 clear x1 x2 x3
 have hb2 := al2 h2
 have k2 := sh hb2 k1
 have x0 : w2.cell? ⟨g1, 0, none⟩ = some (.int .i64 2) := by simp [World.cell?, k2.out]
 have x1 : w2.cell? ⟨g1, 1, none⟩ = some (.int .i64 i0) := by simp [World.cell?, k2.out]
 have x2 : w2.cell? ⟨g1, 2, none⟩ = some (.int .i64 i1) := by simp [World.cell?, k2.out]
 have x3 : w2.cell? ⟨g1, 3, none⟩ = some (.int .i64 i2) := by simp [World.cell?, k2.out]
 obtain ⟨g3, Hg3⟩ := nm (w2.heap.size)
 obtain ⟨w3, Hw3⟩ := nm (w2.alloc (.cells #[.int .i64 2,.int .i64 i0,.int .i64 i1,.int .i64 i2,.string ⟨#[]⟩,.string ⟨#[]⟩,.int .i64 0,.int .i64 0,.int .i64 0,.int .i64 0,.int .i64 0,.int .i64 0,.int .i64 0,.string ⟨#[]⟩,.int .i64 0,.slice none 0 0,.int .i64 0,.int .i64 0] 60))
 have hb3 := al1 Hw3
 have HC : Hid (Tw w w3 g1 g3 #[.int .i64 2,.int .i64 i0,.int .i64 i1,.int .i64 i2,.string bu,.string ke,.int .i64 u0,.int .i64 u1,.int .i64 u2,.int .i64 b0,.int .i64 b1,.int .i64 b2,.int .i64 sz,.string et,.int .i64 pt,.slice pa pn pc,.int .i64 tm,.int .i64 dy] #[.int .i64 2,.int .i64 i0,.int .i64 i1,.int .i64 i2,.string ⟨#[]⟩,.string ⟨#[]⟩,.int .i64 0,.int .i64 0,.int .i64 0,.int .i64 0,.int .i64 0,.int .i64 0,.int .i64 0,.string ⟨#[]⟩,.int .i64 0,.slice none 0 0,.int .i64 0,.int .i64 0]) := by
  refine ⟨(hb3.out.block g1 (gl k2.out)).trans k2.out, ?_, (B1.out.trans (hb2.out.mono B1.out.size)).trans (hb3.out.mono (Nat.le_trans B1.out.size hb2.out.size))⟩
  rw [<- Hw3.out, <- Hg3.out]
  exact heap_alloc_new w2 _
 have gne : Hid (g1 ≠ g3) := by
  have h := (gl k2.out)
  rw [Hg3.out] at h
  exact Nat.ne_of_lt h
 have GB0 : Hid (w.heap.size <= g3) := by
  have h := Nat.le_trans B1.out.size hb2.out.size
  rw [Hg3.out] at h
  exact h
 go_upto_region 5 with (fail)
 rw [Hw3.out, Hg3.out]
 clear x0 x1 x2 x3 h2 hb2 hb3 k1 k2 B1 Hw1 Hg1 Hw3 Hg3
 have gB : Hid (w.heap.size <= g3) := GB0.out
 obtain ⟨bn, Hbn⟩ := nm (gdN bu)
 have x0 : w3.cell? ⟨g1, 0, none⟩ = some (.int .i64 2) := HC.out.c 0 _ rfl
 go_upto_region 7 with (fail)
 clear x0
 have x4 : w3.cell? ⟨g1, 4, none⟩ = some (.string bu) := HC.out.c 4 _ rfl
 have y4 : w3.cell? ⟨g3, 4, none⟩ = some (.string ⟨#[]⟩) := HC.out.z 4 _ rfl
 have f4 := HC.out.fz 4
 obtain ⟨w4, Hw4⟩ := nm ((w3.setCell ⟨g3, 4, none⟩ (.string bu)))
 have HD : Hid (Tw w w4 g1 g3 #[.int .i64 2,.int .i64 i0,.int .i64 i1,.int .i64 i2,.string bu,.string ke,.int .i64 u0,.int .i64 u1,.int .i64 u2,.int .i64 b0,.int .i64 b1,.int .i64 b2,.int .i64 sz,.string et,.int .i64 pt,.slice pa pn pc,.int .i64 tm,.int .i64 dy] #[.int .i64 2,.int .i64 i0,.int .i64 i1,.int .i64 i2,.string bu,.string ⟨#[]⟩,.int .i64 0,.int .i64 0,.int .i64 0,.int .i64 0,.int .i64 0,.int .i64 0,.int .i64 0,.string ⟨#[]⟩,.int .i64 0,.slice none 0 0,.int .i64 0,.int .i64 0]) := by rw [<- Hw4.out]; exact (tw_set HC.out gne.out gB.out 4 (.string bu))
 go_upto_region 8 with (fail)
 rw [Hw4.out]
 clear HC x4 y4 f4
 have HC := HD
 clear HD Hw4
 have x4 : w4.cell? ⟨g1, 4, none⟩ = some (.string bu) := HC.out.c 4 _ rfl
 go_upto_region 9 with (go_at_call 58; refine (refBucket_n bu hbu _).mono ?_; rintro e w0 ⟨rfl, h0⟩; rw [h0, Hbn.out]; clear h0)
 clear x4
 have x0 : w4.cell? ⟨g1, 0, none⟩ = some (.int .i64 2) := HC.out.c 0 _ rfl
 go_upto_region 40 with (fail)
 clear x0
 refine chain40 (fun _ _ _ d _ h => by cases d <;> exact h) HC ?_
 intro a' W' q1 q2 q3
 refine (by assumption : ∀ (a : Act) (w : World), Code.wp Tryd.prog Code.ret _ a w -> _) a' W' ?_
 go_wp2
 refine bodyPost_ret (results_tmp Tryd.results45 _ _ _) q2 ?_
 rw [q1]
 refine ⟨congrArg (fun b => Ending.returned (Value.bool b)) ?_, q3⟩
 rw [<- fr2 HG.out hI.out.len]
 simp only [Hbn.out, Bool.true_and, Bool.false_and, Bool.and_true, Bool.and_false]
end Go.Proofs.YtppibcambhmomaaDoor
