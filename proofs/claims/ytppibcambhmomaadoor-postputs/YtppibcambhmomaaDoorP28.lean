import Derived.Test.YtppibcambhmomaaDoorPp
import Derived.Test.YtppibcambhmomaaDoorP27
namespace Go.Proofs.YtppibcambhmomaaDoor
open Go.ChangeShapes Go.WideShapes Go.ChangeAt Go.RowKit
set_option maxRecDepth 20000
set_option linter.unusedVariables false
set_option linter.unusedSimpArgs false
noncomputable def opsM15 : Array Oper := match Tryd.f15.body with
 | some c => match regIn 2 c with
   | some o => o
   | none => #[]
 | none => #[]
structure FmM (w W : World) (g1 g3 : Nat) (s : Bool) (k f t t0 t1 t2 p0 p1 q0 q1 : Int) (la : Option Addr) (ln lc : Nat) (u0 u1 u2 : Int) (vk : Bool) (fa : Option Addr) (fn fc : Nat) : Prop where
 h1 : W.heap[g1]? = some (.cells #[.int .i64 k,.int .i64 f,.int .i64 t,.int .i64 t0,.int .i64 t1,.int .i64 t2,.int .i64 p0,.int .i64 p1,.int .i64 q0,.int .i64 q1,.slice la ln lc,.int .i64 u0,.int .i64 u1,.int .i64 u2,.bool vk,.slice fa fn fc] 29 (0, 0))
 h3 : W.heap[g3]? = some (.cells (fcM k s vk) 62 (0, 0))
 bel : Below w.heap.size w W
section
variable {w W : World} {g1 g3 : Nat} {s : Bool} {k f t t0 t1 t2 p0 p1 q0 q1 : Int} {la : Option Addr} {ln lc : Nat} {u0 u1 u2 : Int} {vk : Bool} {fa : Option Addr} {fn fc : Nat}
theorem FmM.below {W' : World} (h : FmM w W g1 g3 s k f t t0 t1 t2 p0 p1 q0 q1 la ln lc u0 u1 u2 vk fa fn fc) (hb : Below W.heap.size W W') : FmM w W' g1 g3 s k f t t0 t1 t2 p0 p1 q0 q1 la ln lc u0 u1 u2 vk fa fn fc :=
 ⟨(hb.block _ (gl h.h1)).trans h.h1, (hb.block _ (gl h.h3)).trans h.h3, h.bel.trans (hb.mono h.bel.size)⟩
variable (h : FmM w W g1 g3 s k f t t0 t1 t2 p0 p1 q0 q1 la ln lc u0 u1 u2 vk fa fn fc)
include h
theorem FmM.c1 : W.cell? ⟨g1, 1, none⟩ = some (.int .i64 f) := by simp [World.cell?, h.h1]
theorem FmM.c2 : W.cell? ⟨g1, 2, none⟩ = some (.int .i64 t) := by simp [World.cell?, h.h1]
theorem FmM.c3 : W.cell? ⟨g1, 3, none⟩ = some (.int .i64 t0) := by simp [World.cell?, h.h1]
theorem FmM.c4 : W.cell? ⟨g1, 4, none⟩ = some (.int .i64 t1) := by simp [World.cell?, h.h1]
theorem FmM.c5 : W.cell? ⟨g1, 5, none⟩ = some (.int .i64 t2) := by simp [World.cell?, h.h1]
theorem FmM.c6 : W.cell? ⟨g1, 6, none⟩ = some (.int .i64 p0) := by simp [World.cell?, h.h1]
theorem FmM.c7 : W.cell? ⟨g1, 7, none⟩ = some (.int .i64 p1) := by simp [World.cell?, h.h1]
theorem FmM.c8 : W.cell? ⟨g1, 8, none⟩ = some (.int .i64 q0) := by simp [World.cell?, h.h1]
theorem FmM.c9 : W.cell? ⟨g1, 9, none⟩ = some (.int .i64 q1) := by simp [World.cell?, h.h1]
theorem FmM.c10 : W.cell? ⟨g1, 10, none⟩ = some (.slice la ln lc) := by simp [World.cell?, h.h1]
theorem FmM.c11 : W.cell? ⟨g1, 11, none⟩ = some (.int .i64 u0) := by simp [World.cell?, h.h1]
theorem FmM.c12 : W.cell? ⟨g1, 12, none⟩ = some (.int .i64 u1) := by simp [World.cell?, h.h1]
theorem FmM.c13 : W.cell? ⟨g1, 13, none⟩ = some (.int .i64 u2) := by simp [World.cell?, h.h1]
theorem FmM.c14 : W.cell? ⟨g1, 14, none⟩ = some (.bool vk) := by simp [World.cell?, h.h1]
theorem FmM.c15 : W.cell? ⟨g1, 15, none⟩ = some (.slice fa fn fc) := by simp [World.cell?, h.h1]
theorem FmM.f0 : W.cell? ⟨g3, 0, none⟩ = some (.bool (gB k)) := by simp [World.cell?, h.h3, fcM]
theorem FmM.f1 : W.cell? ⟨g3, 1, none⟩ = some (.bool (gA k s)) := by simp [World.cell?, h.h3, fcM]
theorem FmM.f2 : W.cell? ⟨g3, 2, none⟩ = some (.bool (gL k s)) := by simp [World.cell?, h.h3, fcM]
theorem FmM.f3 : W.cell? ⟨g3, 3, none⟩ = some (.bool (gP k)) := by simp [World.cell?, h.h3, fcM]
theorem FmM.f4 : W.cell? ⟨g3, 4, none⟩ = some (.bool (gO k)) := by simp [World.cell?, h.h3, fcM]
theorem FmM.f5 : W.cell? ⟨g3, 5, none⟩ = some (.bool (gF k vk)) := by simp [World.cell?, h.h3, fcM]
end
set_option maxHeartbeats 16000000 in
theorem inFormM_n {w : World} {M : Nat -> Prop} {E : Nat -> Addr} {x : Mc} {X : List Cx} {A : Array Value} (hA : Hid (A = (encM x).toArray)) (hE : Hid (Sent w M E)) (hM0 : M 0) (hC : Hid (Cms w 0 x.la x.ln X)) :
  Calls Tryd.prog 15 #[.agg A] w fun e w' => e = .returned (.bool (mf x (led X))) /\ Hid (Below w.heap.size w w') := by
 have a16 : A.size = 16 := encM_sz hA.out
 obtain ⟨k, f, t, t0, t1, t2, p0, p1, q0, q1, la, ln, lc, u0, u1, u2, vk, fa, fn, fc⟩ := x
 replace hC : Hid (Cms w 0 la ln X) := hC
 obtain ⟨s, Hs⟩ := nm ((!decide (q0 = 0 /\ q1 = 0)))
 obtain ⟨ok, Hok⟩ := nm (kM k)
 obtain ⟨r1, Hr1⟩ := nm (ndT f)
 obtain ⟨r2, Hr2⟩ := nm (ndT t)
 obtain ⟨r3, Hr3⟩ := nm (gdI t0 t1 t2)
 obtain ⟨bB, HbB⟩ := nm (lgT p0 p1)
 obtain ⟨bA, HbA⟩ := nm (lgT q0 q1)
 obtain ⟨bP, HbP⟩ := nm (gdI u0 u1 u2)
 obtain ⟨bF, HbF⟩ := nm (decide ((fn : Int) <= 4096))
 obtain ⟨bL, HbL⟩ := nm (ldT ln (led X))
 obtain ⟨zB, HzB⟩ := nm (decide (p0 = 0 /\ p1 = 0))
 obtain ⟨zA, HzA⟩ := nm (decide (q0 = 0 /\ q1 = 0))
 obtain ⟨zP, HzP⟩ := nm (decide (u0 = 0 /\ u1 = 0 /\ u2 = 0))
 obtain ⟨zF, HzF⟩ := nm (decide ((fn : Int) = 0))
 obtain ⟨zL, HzL⟩ := nm (decide ((ln : Int) = 0))
 obtain ⟨r4, Hr4⟩ := nm (goz (gB k) bB zB)
 obtain ⟨r5, Hr5⟩ := nm (goz (gA k s) bA zA)
 obtain ⟨r6, Hr6⟩ := nm (goz (gP k) bP zP)
 obtain ⟨r7, Hr7⟩ := nm (goz (gO k) true (!vk))
 obtain ⟨r8, Hr8⟩ := nm (goz (gF k vk) bF zF)
 obtain ⟨r9, Hr9⟩ := nm (goz (gL k s) bL zL)
 have EV : Hid (mf ⟨k, f, t, t0, t1, t2, p0, p1, q0, q1, la, ln, lc, u0, u1, u2, vk, fa, fn, fc⟩ (led X) = (ok && (r1 && (r2 && (r3 && (r4 && (r5 && (r6 && (r7 && (r8 && r9)))))))))) := by
  show mf _ _ = _
  unfold mf
  simp only
  rw [Hs.out, Hok.out, Hr1.out, Hr2.out, Hr3.out, HbB.out, HbA.out, HbP.out, HbF.out, HbL.out, HzB.out, HzA.out, HzP.out, HzF.out, HzL.out, Hr4.out, Hr5.out, Hr6.out, Hr7.out, Hr8.out, Hr9.out]
 have DbF : decide ((fn : Int) <= 4096) = bF := HbF.out
 have DzF : decide ((fn : Int) = 0) = zF := HzF.out
 have DzL : decide ((ln : Int) = 0) = zL := HzL.out
 have DbF' : decide (fn <= 4096) = bF := by rw [<- DbF]; exact decide_eq_decide.2 (by omega)
 have DzF' : decide (fn = 0) = zF := by rw [<- DzF]; exact decide_eq_decide.2 (by omega)
 have DzL' : decide (ln = 0) = zL := by rw [<- DzL]; exact decide_eq_decide.2 (by omega)
 have DbF'' : decide (fn < 4097) = bF := by rw [<- DbF]; exact decide_eq_decide.2 (by omega)
 have DzF'' : (fn == 0) = zF := by rw [<- DzF']; by_cases h : fn = 0 <;> simp [h]
 have DzL'' : (ln == 0) = zL := by rw [<- DzL']; by_cases h : ln = 0 <;> simp [h]
 have EzB : ∀ w, (Op.equalIn 10000 25 (bal p0 p1) (bal 0 0)).run Tryd.prog w = .ok zB w := fun w => by rw [eqBal, HzB.out]
 have EzA : ∀ w, (Op.equalIn 10000 25 (bal q0 q1) (bal 0 0)).run Tryd.prog w = .ok zA w := fun w => by rw [eqBal, HzA.out]
 have EzP : ∀ w, (Op.equalIn 10000 23 (idv u0 u1 u2) (idv 0 0 0)).run Tryd.prog w = .ok zP w := fun w => by rw [eqId, HzP.out]
 have EbF : True := trivial
 have EzF : ∀ w, (Op.equalIn 10000 3 (.int .i64 (fn : Int)) (.int .i64 0)).run Tryd.prog w = .ok zF w := fun w => by rw [eqI, HzF.out]
 have EzL : ∀ w, (Op.equalIn 10000 3 (.int .i64 (ln : Int)) (.int .i64 0)).run Tryd.prog w = .ok zL w := fun w => by rw [eqI, HzL.out]
 have HV : Hid (vk = vk) := rfl
 obtain ⟨g1, Hg1⟩ := nm (w.heap.size)
 obtain ⟨w1, Hw1⟩ := nm (w.alloc (.cells A 29))
 have B1 := al1 Hw1
 have k1 : Hid (w1.heap[g1]? = some (.cells A 29 (0, 0))) := by rw [<- Hw1.out, <- Hg1.out]; exact heap_alloc_new w _
 have FM : Hid (Calls Tryd.prog 28 #[.agg A] w1 fun e w' => e = .returned (.tuple #[.agg (fcM k s vk),.bool ok]) /\ Hid (Below w1.heap.size w1 w')) := by
  show Calls _ _ _ _ _
  have h := fieldsM_n (w := w1) (s := s) (ok := vk) hA Hs (rfl : vk = vk)
  rw [<- Hok.out]
  exact h
 go_enter Tryd.func15, Tryd.ntmps15
 go_upto_region 1 with (fail)
 rw [Hw1.out, Hg1.out]
 go_upto_region 2 with first
  | (refine wpList_load_row (by rfl) 29 (.tmp 1) (by rfl) g1 (by rfl) 29 A (0, 0) _ k1.out Tryd.underlying29 rfl (info29 a16) ?_)
  | (go_at_call 28; refine FM.out.mono ?_; rintro e w2 ⟨rfl, h2⟩; unfold fcM)
 obtain ⟨g3, Hg3⟩ := nm (w2.heap.size)
 obtain ⟨w3, Hw3⟩ := nm (w2.alloc (.cells #[.bool (gB k),.bool (gA k s),.bool (gL k s),.bool (gP k),.bool (gO k),.bool (gF k vk)] 62))
 obtain ⟨w4, Hw4⟩ := nm (w3.drew)
 have HC : Hid (FmM w w4 g1 g3 s k f t t0 t1 t2 p0 p1 q0 q1 la ln lc u0 u1 u2 vk fa fn fc) := by
  have b3 : Below w2.heap.size w2 w3 := by rw [<- Hw3.out]; exact alloc1 w2 _
  have k3 : w3.heap[g3]? = some (.cells (fcM k s vk) 62 (0, 0)) := by rw [<- Hw3.out, <- Hg3.out]; exact heap_alloc_new w2 _
  have b13 := h2.out.trans (b3.mono h2.out.size)
  have k1' : w1.heap[g1]? = some (.cells #[.int .i64 k,.int .i64 f,.int .i64 t,.int .i64 t0,.int .i64 t1,.int .i64 t2,.int .i64 p0,.int .i64 p1,.int .i64 q0,.int .i64 q1,.slice la ln lc,.int .i64 u0,.int .i64 u1,.int .i64 u2,.bool vk,.slice fa fn fc] 29 (0, 0)) := by rw [k1.out, hA.out]; rfl
  have f3 : FmM w w3 g1 g3 s k f t t0 t1 t2 p0 p1 q0 q1 la ln lc u0 u1 u2 vk fa fn fc := ⟨(b13.block g1 (Array.getElem?_eq_some_iff.1 k1').1).trans k1', k3, B1.out.trans (b13.mono B1.out.size)⟩
  rw [<- Hw4.out]
  exact f3.below (Below.refl _ _).drew
 rw [Hw3.out, Hg3.out]
 clear h2 k1 B1 Hw3 Hg3 Hw1 Hg1 FM
 refine wp_region_seq (ops := opsM15) (C := fun W => FmM w W g1 g3 s k f t t0 t1 t2 p0 p1 q0 q1 la ln lc u0 u1 u2 vk fa fn fc) [(0, false), (1, false), (2, false), (3, false), (4, true), (5, false), (6, false), (7, false), (8, false), (9, true), (10, false), (11, false), (12, false), (13, false), (14, true), (15, false), (16, false), (17, false), (18, false), (19, false), (20, false), (22, false), (23, false), (24, false), (25, false), (21, true), (26, true), (27, false), (28, false), (29, false), (30, false), (31, false), (32, false), (34, false), (35, false), (36, false), (37, false), (33, true), (38, true), (39, false), (40, false), (41, false), (42, false), (43, false), (44, false), (46, false), (47, false), (48, false), (49, false), (45, true), (50, true), (51, false), (52, false), (53, false), (54, false), (55, false), (56, false), (57, false), (58, true), (59, false), (60, false), (61, false), (62, false), (63, false), (64, false), (65, false), (66, false), (67, false), (68, false), (69, false), (70, false), (71, true), (72, false), (73, false), (74, false), (75, false), (76, false), (77, false), (79, false), (80, false), (81, false), (82, false), (78, true), (83, true), (84, false), (85, false)] (by kernel_rfl) (by kernel_rfl) (by rw [Hw4.out]; exact HC.out) ?_
 rw [Hw4.out]
 clear Hw4
 cases ok with
 | false =>
   refine seq_plain (fun _ _ _ d _ h => by cases d <;> exact h) _ [(some 10,.bool false), (some 11,.bool false), (some 12, undef), (some 13, undef), (some 14, undef), (some 15,.bool false), (some 16,.bool false), (some 17, undef), (some 18, undef), (some 19, undef), (some 20,.bool false), (some 21,.bool false), (some 22, undef), (some 23, undef), (some 24, undef), (some 25,.bool false), (some 26,.bool false), (some 27, undef), (some 28, undef), (some 29, undef), (some 30, undef), (some 32, undef), (some 33, undef), (some 34, undef), (some 35, undef), (some 31, undef), (some 36, undef), (some 37,.bool false), (some 38,.bool false), (some 39, undef), (some 40, undef), (some 41, undef), (some 42, undef), (some 44, undef), (some 45, undef), (some 46, undef), (some 47, undef), (some 43, undef), (some 48, undef), (some 49,.bool false), (some 50,.bool false), (some 51, undef), (some 52, undef), (some 53, undef), (some 54, undef), (some 56, undef), (some 57, undef), (some 58, undef), (some 59, undef), (some 55, undef), (some 60, undef), (some 61,.bool false), (some 62,.bool false), (some 63, undef), (some 64, undef), (some 65, undef), (some 66, undef), (some 67, undef), (some 68, undef), (some 69,.bool false), (some 70,.bool false), (some 71, undef), (some 72, undef), (some 73, undef), (some 74, undef), (some 75, undef), (some 76, undef), (some 77, undef), (some 78, undef), (some 79, undef), (some 80, undef), (some 81, undef), (some 82,.bool false), (some 83,.bool false), (some 84, undef), (some 85, undef), (some 86, undef), (some 87, undef), (some 89, undef), (some 90, undef), (some 91, undef), (some 92, undef), (some 88, undef), (some 93, undef), (some 94,.bool false), (some 2,.bool false)] _ _ (by kernel_rfl) HC.out ?_
   simp only [putAll,pG,Act.put]
   have BE : Hid (Below w.heap.size w _) := HC.out.bel
   clear HC
   go_wp2
   go_ret
   rw [EV.out]
   exact ⟨by simp, BE.out⟩
 | true =>
   refine stk (o := ⟨some 10, .move (.tmp 4), 4, "form.go:40", #[], none⟩) (v := .bool true) ?_
   simp only [pG,Act.put]
   refine stk (o := ⟨some 11, .move (.tmp 10), 4, "form.go:40", #[⟨0, .data⟩], none⟩) (v := .bool true) ?_
   simp only [pG,Act.put]
   refine stk (o := ⟨some 12, .fieldAddr 29 (.tmp 1) 1, 0, "form.go:40", #[⟨1, .guard⟩], some (1, true)⟩) (v := .pointer (some ⟨g1, 1, none⟩)) ?_
   simp only [pG,Act.put]
   refine sty (o := ⟨some 13, .load 3 (.tmp 12), 3, "form.go:40", #[⟨2, .data⟩, ⟨1, .guard⟩], some (1, true)⟩) (v := .int .i64 f) (Or.inl ⟨by kernel_rfl, fun W hW => by have q0 := hW.c1; go_simp⟩) ?_
   simp only [pG,Act.put]
   refine seq_call (o := ⟨some 14, .call { callee := .value (.func 29), args := #[.tmp 13], argTypes := #[3] }, 4, "form.go:40", #[⟨3, .data⟩, ⟨1, .chain⟩, ⟨1, .guard⟩], some (1, true)⟩) (by kernel_rfl) (fun K hK => ?_)
   rw [if_pos (by kernel_rfl)]
   go_simp
   go_wp2_with (go_at_call 29; refine (isNodeM_n _ _).mono ?_; rintro e w0 ⟨rfl, h0⟩; rw [h0, Hr1.out]; clear h0)
   refine hK.out _ _ HC.out ?_
   clear hK K
   try simp only [pG,Act.put]
   cases r1 with
   | false =>
     refine seq_plain (fun _ _ _ d _ h => by cases d <;> exact h) _ [(some 15,.bool false), (some 16,.bool false), (some 17, undef), (some 18, undef), (some 19, undef), (some 20,.bool false), (some 21,.bool false), (some 22, undef), (some 23, undef), (some 24, undef), (some 25,.bool false), (some 26,.bool false), (some 27, undef), (some 28, undef), (some 29, undef), (some 30, undef), (some 32, undef), (some 33, undef), (some 34, undef), (some 35, undef), (some 31, undef), (some 36, undef), (some 37,.bool false), (some 38,.bool false), (some 39, undef), (some 40, undef), (some 41, undef), (some 42, undef), (some 44, undef), (some 45, undef), (some 46, undef), (some 47, undef), (some 43, undef), (some 48, undef), (some 49,.bool false), (some 50,.bool false), (some 51, undef), (some 52, undef), (some 53, undef), (some 54, undef), (some 56, undef), (some 57, undef), (some 58, undef), (some 59, undef), (some 55, undef), (some 60, undef), (some 61,.bool false), (some 62,.bool false), (some 63, undef), (some 64, undef), (some 65, undef), (some 66, undef), (some 67, undef), (some 68, undef), (some 69,.bool false), (some 70,.bool false), (some 71, undef), (some 72, undef), (some 73, undef), (some 74, undef), (some 75, undef), (some 76, undef), (some 77, undef), (some 78, undef), (some 79, undef), (some 80, undef), (some 81, undef), (some 82,.bool false), (some 83,.bool false), (some 84, undef), (some 85, undef), (some 86, undef), (some 87, undef), (some 89, undef), (some 90, undef), (some 91, undef), (some 92, undef), (some 88, undef), (some 93, undef), (some 94,.bool false), (some 2,.bool false)] _ _ (by kernel_rfl) HC.out ?_
     simp only [putAll,pG,Act.put]
     have BE : Hid (Below w.heap.size w _) := HC.out.bel
     clear HC
     go_wp2
     go_ret
     rw [EV.out]
     exact ⟨by simp, BE.out⟩
   | true =>
     refine stk (o := ⟨some 15, .pick (.tmp 11) (.tmp 14) (.const (.bool false)), 4, "form.go:40", #[⟨1, .data⟩, ⟨4, .data⟩], none⟩) (v := .bool true) ?_
     simp only [pG,Act.put]
     refine stk (o := ⟨some 16, .move (.tmp 15), 4, "form.go:40", #[⟨5, .data⟩, ⟨4, .chain⟩], none⟩) (v := .bool true) ?_
     simp only [pG,Act.put]
     refine stk (o := ⟨some 17, .fieldAddr 29 (.tmp 1) 2, 0, "form.go:40", #[⟨6, .guard⟩], some (6, true)⟩) (v := .pointer (some ⟨g1, 2, none⟩)) ?_
     simp only [pG,Act.put]
     refine sty (o := ⟨some 18, .load 3 (.tmp 17), 3, "form.go:40", #[⟨7, .data⟩, ⟨6, .guard⟩], some (6, true)⟩) (v := .int .i64 t) (Or.inl ⟨by kernel_rfl, fun W hW => by have q0 := hW.c2; go_simp⟩) ?_
     simp only [pG,Act.put]
     refine seq_call (o := ⟨some 19, .call { callee := .value (.func 29), args := #[.tmp 18], argTypes := #[3] }, 4, "form.go:40", #[⟨8, .data⟩, ⟨6, .chain⟩, ⟨6, .guard⟩], some (6, true)⟩) (by kernel_rfl) (fun K hK => ?_)
     rw [if_pos (by kernel_rfl)]
     go_simp
     go_wp2_with (go_at_call 29; refine (isNodeM_n _ _).mono ?_; rintro e w0 ⟨rfl, h0⟩; rw [h0, Hr2.out]; clear h0)
     refine hK.out _ _ HC.out ?_
     clear hK K
     try simp only [pG,Act.put]
     cases r2 with
     | false =>
       refine seq_plain (fun _ _ _ d _ h => by cases d <;> exact h) _ [(some 20,.bool false), (some 21,.bool false), (some 22, undef), (some 23, undef), (some 24, undef), (some 25,.bool false), (some 26,.bool false), (some 27, undef), (some 28, undef), (some 29, undef), (some 30, undef), (some 32, undef), (some 33, undef), (some 34, undef), (some 35, undef), (some 31, undef), (some 36, undef), (some 37,.bool false), (some 38,.bool false), (some 39, undef), (some 40, undef), (some 41, undef), (some 42, undef), (some 44, undef), (some 45, undef), (some 46, undef), (some 47, undef), (some 43, undef), (some 48, undef), (some 49,.bool false), (some 50,.bool false), (some 51, undef), (some 52, undef), (some 53, undef), (some 54, undef), (some 56, undef), (some 57, undef), (some 58, undef), (some 59, undef), (some 55, undef), (some 60, undef), (some 61,.bool false), (some 62,.bool false), (some 63, undef), (some 64, undef), (some 65, undef), (some 66, undef), (some 67, undef), (some 68, undef), (some 69,.bool false), (some 70,.bool false), (some 71, undef), (some 72, undef), (some 73, undef), (some 74, undef), (some 75, undef), (some 76, undef), (some 77, undef), (some 78, undef), (some 79, undef), (some 80, undef), (some 81, undef), (some 82,.bool false), (some 83,.bool false), (some 84, undef), (some 85, undef), (some 86, undef), (some 87, undef), (some 89, undef), (some 90, undef), (some 91, undef), (some 92, undef), (some 88, undef), (some 93, undef), (some 94,.bool false), (some 2,.bool false)] _ _ (by kernel_rfl) HC.out ?_
       simp only [putAll,pG,Act.put]
       have BE : Hid (Below w.heap.size w _) := HC.out.bel
       clear HC
       go_wp2
       go_ret
       rw [EV.out]
       exact ⟨by simp, BE.out⟩
     | true =>
       refine stk (o := ⟨some 20, .pick (.tmp 16) (.tmp 19) (.const (.bool false)), 4, "form.go:40", #[⟨6, .data⟩, ⟨9, .data⟩], none⟩) (v := .bool true) ?_
       simp only [pG,Act.put]
       refine stk (o := ⟨some 21, .move (.tmp 20), 4, "form.go:40", #[⟨10, .data⟩, ⟨9, .chain⟩], none⟩) (v := .bool true) ?_
       simp only [pG,Act.put]
       refine stk (o := ⟨some 22, .fieldAddr 29 (.tmp 1) 3, 0, "form.go:40", #[⟨11, .guard⟩], some (11, true)⟩) (v := .pointer (some ⟨g1, 3, none⟩)) ?_
       simp only [pG,Act.put]
       refine sty (o := ⟨some 23, .load 23 (.tmp 22), 23, "form.go:40", #[⟨12, .data⟩, ⟨11, .guard⟩], some (11, true)⟩) (v := .agg #[.int .i64 t0,.int .i64 t1,.int .i64 t2]) (Or.inl ⟨by kernel_rfl, fun W hW => by have q0 := hW.c3; have q1 := hW.c4; have q2 := hW.c5; go_simp⟩) ?_
       simp only [pG,Act.put]
       refine seq_call (o := ⟨some 24, .call { callee := .value (.func 30), args := #[.tmp 23], argTypes := #[23] }, 4, "form.go:40", #[⟨13, .data⟩, ⟨11, .chain⟩, ⟨11, .guard⟩], some (11, true)⟩) (by kernel_rfl) (fun K hK => ?_)
       rw [if_pos (by kernel_rfl)]
       go_simp
       go_wp2_with (go_at_call 30; refine (goodId_n _ _ _ _).mono ?_; rintro e w114 ⟨rfl, h0⟩; rw [Hr3.out])
       have h9 : Below w4.heap.size w4 w114 := by rw [h0.out]; exact alloc1 _ _
       have HD := HC.out.below h9
       clear h0
       refine hK.out _ _ HD ?_
       clear hK K HC
       have HC : Hid (FmM w w114 g1 g3 s k f t t0 t1 t2 p0 p1 q0 q1 la ln lc u0 u1 u2 vk fa fn fc) := HD
       clear HD
       clear h9
       try simp only [pG,Act.put]
       cases r3 with
       | false =>
         refine seq_plain (fun _ _ _ d _ h => by cases d <;> exact h) _ [(some 25,.bool false), (some 26,.bool false), (some 27, undef), (some 28, undef), (some 29, undef), (some 30, undef), (some 32, undef), (some 33, undef), (some 34, undef), (some 35, undef), (some 31, undef), (some 36, undef), (some 37,.bool false), (some 38,.bool false), (some 39, undef), (some 40, undef), (some 41, undef), (some 42, undef), (some 44, undef), (some 45, undef), (some 46, undef), (some 47, undef), (some 43, undef), (some 48, undef), (some 49,.bool false), (some 50,.bool false), (some 51, undef), (some 52, undef), (some 53, undef), (some 54, undef), (some 56, undef), (some 57, undef), (some 58, undef), (some 59, undef), (some 55, undef), (some 60, undef), (some 61,.bool false), (some 62,.bool false), (some 63, undef), (some 64, undef), (some 65, undef), (some 66, undef), (some 67, undef), (some 68, undef), (some 69,.bool false), (some 70,.bool false), (some 71, undef), (some 72, undef), (some 73, undef), (some 74, undef), (some 75, undef), (some 76, undef), (some 77, undef), (some 78, undef), (some 79, undef), (some 80, undef), (some 81, undef), (some 82,.bool false), (some 83,.bool false), (some 84, undef), (some 85, undef), (some 86, undef), (some 87, undef), (some 89, undef), (some 90, undef), (some 91, undef), (some 92, undef), (some 88, undef), (some 93, undef), (some 94,.bool false), (some 2,.bool false)] _ _ (by kernel_rfl) HC.out ?_
         simp only [putAll,pG,Act.put]
         have BE : Hid (Below w.heap.size w _) := HC.out.bel
         clear HC
         go_wp2
         go_ret
         rw [EV.out]
         exact ⟨by simp, BE.out⟩
       | true =>
         refine stk (o := ⟨some 25, .pick (.tmp 21) (.tmp 24) (.const (.bool false)), 4, "form.go:40", #[⟨11, .data⟩, ⟨14, .data⟩], none⟩) (v := .bool true) ?_
         simp only [pG,Act.put]
         refine stk (o := ⟨some 26, .move (.tmp 25), 4, "form.go:40", #[⟨15, .data⟩, ⟨14, .chain⟩], none⟩) (v := .bool true) ?_
         simp only [pG,Act.put]
         refine stk (o := ⟨some 27, .fieldAddr 62 (.tmp 3) 0, 0, "form.go:40", #[⟨16, .guard⟩], some (16, true)⟩) (v := .pointer (some ⟨g3, 0, none⟩)) ?_
         simp only [pG,Act.put]
         refine sty (o := ⟨some 28, .load 4 (.tmp 27), 4, "form.go:40", #[⟨17, .data⟩, ⟨16, .guard⟩], some (16, true)⟩) (v := .bool (gB k)) (Or.inl ⟨by kernel_rfl, fun W hW => by have q0 := hW.f0; go_simp⟩) ?_
         simp only [pG,Act.put]
         refine stk (o := ⟨some 29, .fieldAddr 29 (.tmp 1) 4, 0, "form.go:40", #[⟨16, .guard⟩], some (16, true)⟩) (v := .pointer (some ⟨g1, 6, none⟩)) ?_
         simp only [pG,Act.put]
         refine sty (o := ⟨some 30, .load 25 (.tmp 29), 25, "form.go:40", #[⟨19, .data⟩, ⟨16, .guard⟩], some (16, true)⟩) (v := .agg #[.int .i64 p0,.int .i64 p1]) (Or.inl ⟨by kernel_rfl, fun W hW => by have q0 := hW.c6; have q1 := hW.c7; go_simp⟩) ?_
         simp only [pG,Act.put]
         refine stk (o := ⟨some 32, .fieldAddr 29 (.tmp 1) 4, 0, "form.go:40", #[⟨16, .guard⟩], some (16, true)⟩) (v := .pointer (some ⟨g1, 6, none⟩)) ?_
         simp only [pG,Act.put]
         refine sty (o := ⟨some 33, .load 25 (.tmp 32), 25, "form.go:40", #[⟨22, .data⟩, ⟨16, .guard⟩], some (16, true)⟩) (v := .agg #[.int .i64 p0,.int .i64 p1]) (Or.inl ⟨by kernel_rfl, fun W hW => by have q0 := hW.c6; have q1 := hW.c7; go_simp⟩) ?_
         simp only [pG,Act.put]
         refine stk (o := ⟨some 34, .build 25 #[], 25, "form.go:40", #[⟨16, .guard⟩], some (16, true)⟩) (v := .agg #[.int .i64 0,.int .i64 0]) ?_
         simp only [pG,Act.put]
         refine sty (o := ⟨some 35, .binOp .eql 25 (.tmp 33) (.tmp 34) 25, 4, "form.go:40", #[⟨23, .data⟩, ⟨24, .data⟩, ⟨16, .guard⟩], some (16, true)⟩) (v := .bool zB) (Or.inl ⟨by kernel_rfl, fun W hW => by have q0 := EzB; go_simp⟩) ?_
         simp only [pG,Act.put]
         refine seq_call (o := ⟨some 31, .call { callee := .value (.func 32), args := #[.tmp 30], argTypes := #[25] }, 4, "form.go:41", #[⟨20, .data⟩, ⟨16, .chain⟩, ⟨16, .guard⟩], some (16, true)⟩) (by kernel_rfl) (fun K hK => ?_)
         rw [if_pos (by kernel_rfl)]
         go_simp
         go_wp2_with (go_at_call 32; refine (isLegalM_n _ _ _).mono ?_; rintro e w121 ⟨rfl, h0⟩; rw [HbB.out])
         have HD := HC.out.below h0.out
         clear h0
         refine hK.out _ _ HD ?_
         clear hK K HC
         have HC : Hid (FmM w w121 g1 g3 s k f t t0 t1 t2 p0 p1 q0 q1 la ln lc u0 u1 u2 vk fa fn fc) := HD
         clear HD
         try simp only [pG,Act.put]
         refine seq_call (o := ⟨some 36, .call { callee := .value (.func 31), args := #[.tmp 28, .tmp 31, .tmp 35], argTypes := #[4, 4, 4] }, 4, "form.go:41", #[⟨18, .data⟩, ⟨21, .data⟩, ⟨25, .data⟩, ⟨21, .chain⟩, ⟨16, .guard⟩], some (16, true)⟩) (by kernel_rfl) (fun K hK => ?_)
         rw [if_pos (by kernel_rfl)]
         go_simp
         go_wp2_with (go_at_call 31; refine (gozM_n _ _ _ _).mono ?_; rintro e w0 ⟨rfl, h0⟩; rw [h0, Hr4.out]; clear h0)
         refine hK.out _ _ HC.out ?_
         clear hK K
         try simp only [pG,Act.put]
         cases r4 with
         | false =>
           refine seq_plain (fun _ _ _ d _ h => by cases d <;> exact h) _ [(some 37,.bool false), (some 38,.bool false), (some 39, undef), (some 40, undef), (some 41, undef), (some 42, undef), (some 44, undef), (some 45, undef), (some 46, undef), (some 47, undef), (some 43, undef), (some 48, undef), (some 49,.bool false), (some 50,.bool false), (some 51, undef), (some 52, undef), (some 53, undef), (some 54, undef), (some 56, undef), (some 57, undef), (some 58, undef), (some 59, undef), (some 55, undef), (some 60, undef), (some 61,.bool false), (some 62,.bool false), (some 63, undef), (some 64, undef), (some 65, undef), (some 66, undef), (some 67, undef), (some 68, undef), (some 69,.bool false), (some 70,.bool false), (some 71, undef), (some 72, undef), (some 73, undef), (some 74, undef), (some 75, undef), (some 76, undef), (some 77, undef), (some 78, undef), (some 79, undef), (some 80, undef), (some 81, undef), (some 82,.bool false), (some 83,.bool false), (some 84, undef), (some 85, undef), (some 86, undef), (some 87, undef), (some 89, undef), (some 90, undef), (some 91, undef), (some 92, undef), (some 88, undef), (some 93, undef), (some 94,.bool false), (some 2,.bool false)] _ _ (by kernel_rfl) HC.out ?_
           simp only [putAll,pG,Act.put]
           have BE : Hid (Below w.heap.size w _) := HC.out.bel
           clear HC
           go_wp2
           go_ret
           rw [EV.out]
           exact ⟨by simp, BE.out⟩
         | true =>
           refine stk (o := ⟨some 37, .pick (.tmp 26) (.tmp 36) (.const (.bool false)), 4, "form.go:40", #[⟨16, .data⟩, ⟨26, .data⟩], none⟩) (v := .bool true) ?_
           simp only [pG,Act.put]
           refine stk (o := ⟨some 38, .move (.tmp 37), 4, "form.go:40", #[⟨27, .data⟩, ⟨26, .chain⟩], none⟩) (v := .bool true) ?_
           simp only [pG,Act.put]
           refine stk (o := ⟨some 39, .fieldAddr 62 (.tmp 3) 1, 0, "form.go:40", #[⟨28, .guard⟩], some (28, true)⟩) (v := .pointer (some ⟨g3, 1, none⟩)) ?_
           simp only [pG,Act.put]
           refine sty (o := ⟨some 40, .load 4 (.tmp 39), 4, "form.go:40", #[⟨29, .data⟩, ⟨28, .guard⟩], some (28, true)⟩) (v := .bool (gA k s)) (Or.inl ⟨by kernel_rfl, fun W hW => by have q0 := hW.f1; go_simp⟩) ?_
           simp only [pG,Act.put]
           refine stk (o := ⟨some 41, .fieldAddr 29 (.tmp 1) 5, 0, "form.go:40", #[⟨28, .guard⟩], some (28, true)⟩) (v := .pointer (some ⟨g1, 8, none⟩)) ?_
           simp only [pG,Act.put]
           refine sty (o := ⟨some 42, .load 25 (.tmp 41), 25, "form.go:40", #[⟨31, .data⟩, ⟨28, .guard⟩], some (28, true)⟩) (v := .agg #[.int .i64 q0,.int .i64 q1]) (Or.inl ⟨by kernel_rfl, fun W hW => by have q0 := hW.c8; have q1 := hW.c9; go_simp⟩) ?_
           simp only [pG,Act.put]
           refine stk (o := ⟨some 44, .fieldAddr 29 (.tmp 1) 5, 0, "form.go:40", #[⟨28, .guard⟩], some (28, true)⟩) (v := .pointer (some ⟨g1, 8, none⟩)) ?_
           simp only [pG,Act.put]
           refine sty (o := ⟨some 45, .load 25 (.tmp 44), 25, "form.go:40", #[⟨34, .data⟩, ⟨28, .guard⟩], some (28, true)⟩) (v := .agg #[.int .i64 q0,.int .i64 q1]) (Or.inl ⟨by kernel_rfl, fun W hW => by have q0 := hW.c8; have q1 := hW.c9; go_simp⟩) ?_
           simp only [pG,Act.put]
           refine stk (o := ⟨some 46, .build 25 #[], 25, "form.go:40", #[⟨28, .guard⟩], some (28, true)⟩) (v := .agg #[.int .i64 0,.int .i64 0]) ?_
           simp only [pG,Act.put]
           refine sty (o := ⟨some 47, .binOp .eql 25 (.tmp 45) (.tmp 46) 25, 4, "form.go:40", #[⟨35, .data⟩, ⟨36, .data⟩, ⟨28, .guard⟩], some (28, true)⟩) (v := .bool zA) (Or.inl ⟨by kernel_rfl, fun W hW => by have q0 := EzA; go_simp⟩) ?_
           simp only [pG,Act.put]
           refine seq_call (o := ⟨some 43, .call { callee := .value (.func 32), args := #[.tmp 42], argTypes := #[25] }, 4, "form.go:42", #[⟨32, .data⟩, ⟨28, .chain⟩, ⟨28, .guard⟩], some (28, true)⟩) (by kernel_rfl) (fun K hK => ?_)
           rw [if_pos (by kernel_rfl)]
           go_simp
           go_wp2_with (go_at_call 32; refine (isLegalM_n _ _ _).mono ?_; rintro e w133 ⟨rfl, h0⟩; rw [HbA.out])
           have HD := HC.out.below h0.out
           clear h0
           refine hK.out _ _ HD ?_
           clear hK K HC
           have HC : Hid (FmM w w133 g1 g3 s k f t t0 t1 t2 p0 p1 q0 q1 la ln lc u0 u1 u2 vk fa fn fc) := HD
           clear HD
           try simp only [pG,Act.put]
           refine seq_call (o := ⟨some 48, .call { callee := .value (.func 31), args := #[.tmp 40, .tmp 43, .tmp 47], argTypes := #[4, 4, 4] }, 4, "form.go:42", #[⟨30, .data⟩, ⟨33, .data⟩, ⟨37, .data⟩, ⟨33, .chain⟩, ⟨28, .guard⟩], some (28, true)⟩) (by kernel_rfl) (fun K hK => ?_)
           rw [if_pos (by kernel_rfl)]
           go_simp
           go_wp2_with (go_at_call 31; refine (gozM_n _ _ _ _).mono ?_; rintro e w0 ⟨rfl, h0⟩; rw [h0, Hr5.out]; clear h0)
           refine hK.out _ _ HC.out ?_
           clear hK K
           try simp only [pG,Act.put]
           cases r5 with
           | false =>
             refine seq_plain (fun _ _ _ d _ h => by cases d <;> exact h) _ [(some 49,.bool false), (some 50,.bool false), (some 51, undef), (some 52, undef), (some 53, undef), (some 54, undef), (some 56, undef), (some 57, undef), (some 58, undef), (some 59, undef), (some 55, undef), (some 60, undef), (some 61,.bool false), (some 62,.bool false), (some 63, undef), (some 64, undef), (some 65, undef), (some 66, undef), (some 67, undef), (some 68, undef), (some 69,.bool false), (some 70,.bool false), (some 71, undef), (some 72, undef), (some 73, undef), (some 74, undef), (some 75, undef), (some 76, undef), (some 77, undef), (some 78, undef), (some 79, undef), (some 80, undef), (some 81, undef), (some 82,.bool false), (some 83,.bool false), (some 84, undef), (some 85, undef), (some 86, undef), (some 87, undef), (some 89, undef), (some 90, undef), (some 91, undef), (some 92, undef), (some 88, undef), (some 93, undef), (some 94,.bool false), (some 2,.bool false)] _ _ (by kernel_rfl) HC.out ?_
             simp only [putAll,pG,Act.put]
             have BE : Hid (Below w.heap.size w _) := HC.out.bel
             clear HC
             go_wp2
             go_ret
             rw [EV.out]
             exact ⟨by simp, BE.out⟩
           | true =>
             refine stk (o := ⟨some 49, .pick (.tmp 38) (.tmp 48) (.const (.bool false)), 4, "form.go:40", #[⟨28, .data⟩, ⟨38, .data⟩], none⟩) (v := .bool true) ?_
             simp only [pG,Act.put]
             refine stk (o := ⟨some 50, .move (.tmp 49), 4, "form.go:40", #[⟨39, .data⟩, ⟨38, .chain⟩], none⟩) (v := .bool true) ?_
             simp only [pG,Act.put]
             refine stk (o := ⟨some 51, .fieldAddr 62 (.tmp 3) 3, 0, "form.go:40", #[⟨40, .guard⟩], some (40, true)⟩) (v := .pointer (some ⟨g3, 3, none⟩)) ?_
             simp only [pG,Act.put]
             refine sty (o := ⟨some 52, .load 4 (.tmp 51), 4, "form.go:40", #[⟨41, .data⟩, ⟨40, .guard⟩], some (40, true)⟩) (v := .bool (gP k)) (Or.inl ⟨by kernel_rfl, fun W hW => by have q0 := hW.f3; go_simp⟩) ?_
             simp only [pG,Act.put]
             refine stk (o := ⟨some 53, .fieldAddr 29 (.tmp 1) 7, 0, "form.go:40", #[⟨40, .guard⟩], some (40, true)⟩) (v := .pointer (some ⟨g1, 11, none⟩)) ?_
             simp only [pG,Act.put]
             refine sty (o := ⟨some 54, .load 23 (.tmp 53), 23, "form.go:40", #[⟨43, .data⟩, ⟨40, .guard⟩], some (40, true)⟩) (v := .agg #[.int .i64 u0,.int .i64 u1,.int .i64 u2]) (Or.inl ⟨by kernel_rfl, fun W hW => by have q0 := hW.c11; have q1 := hW.c12; have q2 := hW.c13; go_simp⟩) ?_
             simp only [pG,Act.put]
             refine stk (o := ⟨some 56, .fieldAddr 29 (.tmp 1) 7, 0, "form.go:40", #[⟨40, .guard⟩], some (40, true)⟩) (v := .pointer (some ⟨g1, 11, none⟩)) ?_
             simp only [pG,Act.put]
             refine sty (o := ⟨some 57, .load 23 (.tmp 56), 23, "form.go:40", #[⟨46, .data⟩, ⟨40, .guard⟩], some (40, true)⟩) (v := .agg #[.int .i64 u0,.int .i64 u1,.int .i64 u2]) (Or.inl ⟨by kernel_rfl, fun W hW => by have q0 := hW.c11; have q1 := hW.c12; have q2 := hW.c13; go_simp⟩) ?_
             simp only [pG,Act.put]
             refine stk (o := ⟨some 58, .build 23 #[], 23, "form.go:40", #[⟨40, .guard⟩], some (40, true)⟩) (v := .agg #[.int .i64 0,.int .i64 0,.int .i64 0]) ?_
             simp only [pG,Act.put]
             refine sty (o := ⟨some 59, .binOp .eql 23 (.tmp 57) (.tmp 58) 23, 4, "form.go:40", #[⟨47, .data⟩, ⟨48, .data⟩, ⟨40, .guard⟩], some (40, true)⟩) (v := .bool zP) (Or.inl ⟨by kernel_rfl, fun W hW => by have q0 := EzP; go_simp⟩) ?_
             simp only [pG,Act.put]
             refine seq_call (o := ⟨some 55, .call { callee := .value (.func 30), args := #[.tmp 54], argTypes := #[23] }, 4, "form.go:43", #[⟨44, .data⟩, ⟨40, .chain⟩, ⟨40, .guard⟩], some (40, true)⟩) (by kernel_rfl) (fun K hK => ?_)
             rw [if_pos (by kernel_rfl)]
             go_simp
             go_wp2_with (go_at_call 30; refine (goodId_n _ _ _ _).mono ?_; rintro e w145 ⟨rfl, h0⟩; rw [HbP.out])
             have h9 : Below w133.heap.size w133 w145 := by rw [h0.out]; exact alloc1 _ _
             have HD := HC.out.below h9
             clear h0
             refine hK.out _ _ HD ?_
             clear hK K HC
             have HC : Hid (FmM w w145 g1 g3 s k f t t0 t1 t2 p0 p1 q0 q1 la ln lc u0 u1 u2 vk fa fn fc) := HD
             clear HD
             clear h9
             try simp only [pG,Act.put]
             refine seq_call (o := ⟨some 60, .call { callee := .value (.func 31), args := #[.tmp 52, .tmp 55, .tmp 59], argTypes := #[4, 4, 4] }, 4, "form.go:43", #[⟨42, .data⟩, ⟨45, .data⟩, ⟨49, .data⟩, ⟨45, .chain⟩, ⟨40, .guard⟩], some (40, true)⟩) (by kernel_rfl) (fun K hK => ?_)
             rw [if_pos (by kernel_rfl)]
             go_simp
             go_wp2_with (go_at_call 31; refine (gozM_n _ _ _ _).mono ?_; rintro e w0 ⟨rfl, h0⟩; rw [h0, Hr6.out]; clear h0)
             refine hK.out _ _ HC.out ?_
             clear hK K
             try simp only [pG,Act.put]
             cases r6 with
             | false =>
               refine seq_plain (fun _ _ _ d _ h => by cases d <;> exact h) _ [(some 61,.bool false), (some 62,.bool false), (some 63, undef), (some 64, undef), (some 65, undef), (some 66, undef), (some 67, undef), (some 68, undef), (some 69,.bool false), (some 70,.bool false), (some 71, undef), (some 72, undef), (some 73, undef), (some 74, undef), (some 75, undef), (some 76, undef), (some 77, undef), (some 78, undef), (some 79, undef), (some 80, undef), (some 81, undef), (some 82,.bool false), (some 83,.bool false), (some 84, undef), (some 85, undef), (some 86, undef), (some 87, undef), (some 89, undef), (some 90, undef), (some 91, undef), (some 92, undef), (some 88, undef), (some 93, undef), (some 94,.bool false), (some 2,.bool false)] _ _ (by kernel_rfl) HC.out ?_
               simp only [putAll,pG,Act.put]
               have BE : Hid (Below w.heap.size w _) := HC.out.bel
               clear HC
               go_wp2
               go_ret
               rw [EV.out]
               exact ⟨by simp, BE.out⟩
             | true =>
               refine stk (o := ⟨some 61, .pick (.tmp 50) (.tmp 60) (.const (.bool false)), 4, "form.go:40", #[⟨40, .data⟩, ⟨50, .data⟩], none⟩) (v := .bool true) ?_
               simp only [pG,Act.put]
               refine stk (o := ⟨some 62, .move (.tmp 61), 4, "form.go:40", #[⟨51, .data⟩, ⟨50, .chain⟩], none⟩) (v := .bool true) ?_
               simp only [pG,Act.put]
               refine stk (o := ⟨some 63, .fieldAddr 62 (.tmp 3) 4, 0, "form.go:40", #[⟨52, .guard⟩], some (52, true)⟩) (v := .pointer (some ⟨g3, 4, none⟩)) ?_
               simp only [pG,Act.put]
               refine sty (o := ⟨some 64, .load 4 (.tmp 63), 4, "form.go:40", #[⟨53, .data⟩, ⟨52, .guard⟩], some (52, true)⟩) (v := .bool (gO k)) (Or.inl ⟨by kernel_rfl, fun W hW => by have q0 := hW.f4; go_simp⟩) ?_
               simp only [pG,Act.put]
               refine stk (o := ⟨some 65, .fieldAddr 29 (.tmp 1) 8, 0, "form.go:40", #[⟨52, .guard⟩], some (52, true)⟩) (v := .pointer (some ⟨g1, 14, none⟩)) ?_
               simp only [pG,Act.put]
               refine sty (o := ⟨some 66, .load 4 (.tmp 65), 4, "form.go:40", #[⟨55, .data⟩, ⟨52, .guard⟩], some (52, true)⟩) (v := .bool vk) (Or.inl ⟨by kernel_rfl, fun W hW => by have q0 := hW.c14; go_simp⟩) ?_
               simp only [pG,Act.put]
               refine stk (o := ⟨some 67, .unOp .not 4 (.tmp 66), 4, "form.go:40", #[⟨56, .data⟩, ⟨52, .guard⟩], some (52, true)⟩) (v := .bool (!vk)) ?_
               simp only [pG,Act.put]
               refine seq_call (o := ⟨some 68, .call { callee := .value (.func 31), args := #[.tmp 64, .const (.bool true), .tmp 67], argTypes := #[4, 4, 4] }, 4, "form.go:44", #[⟨54, .data⟩, ⟨57, .data⟩, ⟨52, .chain⟩, ⟨52, .guard⟩], some (52, true)⟩) (by kernel_rfl) (fun K hK => ?_)
               rw [if_pos (by kernel_rfl)]
               go_simp
               go_wp2_with (go_at_call 31; refine (gozM_n _ _ _ _).mono ?_; rintro e w0 ⟨rfl, h0⟩; rw [h0, Hr7.out]; clear h0)
               refine hK.out _ _ HC.out ?_
               clear hK K
               try simp only [pG,Act.put]
               cases r7 with
               | false =>
                 refine seq_plain (fun _ _ _ d _ h => by cases d <;> exact h) _ [(some 69,.bool false), (some 70,.bool false), (some 71, undef), (some 72, undef), (some 73, undef), (some 74, undef), (some 75, undef), (some 76, undef), (some 77, undef), (some 78, undef), (some 79, undef), (some 80, undef), (some 81, undef), (some 82,.bool false), (some 83,.bool false), (some 84, undef), (some 85, undef), (some 86, undef), (some 87, undef), (some 89, undef), (some 90, undef), (some 91, undef), (some 92, undef), (some 88, undef), (some 93, undef), (some 94,.bool false), (some 2,.bool false)] _ _ (by kernel_rfl) HC.out ?_
                 simp only [putAll,pG,Act.put]
                 have BE : Hid (Below w.heap.size w _) := HC.out.bel
                 clear HC
                 go_wp2
                 go_ret
                 rw [EV.out]
                 exact ⟨by simp, BE.out⟩
               | true =>
                 refine stk (o := ⟨some 69, .pick (.tmp 62) (.tmp 68) (.const (.bool false)), 4, "form.go:40", #[⟨52, .data⟩, ⟨58, .data⟩], none⟩) (v := .bool true) ?_
                 simp only [pG,Act.put]
                 refine stk (o := ⟨some 70, .move (.tmp 69), 4, "form.go:40", #[⟨59, .data⟩, ⟨58, .chain⟩], none⟩) (v := .bool true) ?_
                 simp only [pG,Act.put]
                 refine stk (o := ⟨some 71, .fieldAddr 62 (.tmp 3) 5, 0, "form.go:40", #[⟨60, .guard⟩], some (60, true)⟩) (v := .pointer (some ⟨g3, 5, none⟩)) ?_
                 simp only [pG,Act.put]
                 refine sty (o := ⟨some 72, .load 4 (.tmp 71), 4, "form.go:40", #[⟨61, .data⟩, ⟨60, .guard⟩], some (60, true)⟩) (v := .bool (gF k vk)) (Or.inl ⟨by kernel_rfl, fun W hW => by have q0 := hW.f5; go_simp⟩) ?_
                 simp only [pG,Act.put]
                 refine stk (o := ⟨some 73, .fieldAddr 29 (.tmp 1) 9, 0, "form.go:40", #[⟨60, .guard⟩], some (60, true)⟩) (v := .pointer (some ⟨g1, 15, none⟩)) ?_
                 simp only [pG,Act.put]
                 refine sty (o := ⟨some 74, .load 27 (.tmp 73), 27, "form.go:40", #[⟨63, .data⟩, ⟨60, .guard⟩], some (60, true)⟩) (v := .slice fa fn fc) (Or.inl ⟨by kernel_rfl, fun W hW => by have q0 := hW.c15; go_simp⟩) ?_
                 simp only [pG,Act.put]
                 refine stk (o := ⟨some 75, .call { callee := .builtin .len, args := #[.tmp 74], argTypes := #[27] }, 3, "form.go:40", #[⟨64, .data⟩, ⟨60, .guard⟩], some (60, true)⟩) (v := .int .i64 (fn : Int)) ?_
                 simp only [pG,Act.put]
                 refine sty (o := ⟨some 76, .binOp .leq 3 (.tmp 75) (.const (.int .i64 4096)) 3, 4, "form.go:40", #[⟨65, .data⟩, ⟨60, .guard⟩], some (60, true)⟩) (v := .bool bF) (Or.inl ⟨by kernel_rfl, fun W hW => by have q0 := EbF; go_simp; try (first | exact DbF | exact DbF' | exact DbF'')⟩) ?_
                 simp only [pG,Act.put]
                 refine stk (o := ⟨some 77, .fieldAddr 29 (.tmp 1) 9, 0, "form.go:40", #[⟨60, .guard⟩], some (60, true)⟩) (v := .pointer (some ⟨g1, 15, none⟩)) ?_
                 simp only [pG,Act.put]
                 refine sty (o := ⟨some 78, .load 27 (.tmp 77), 27, "form.go:40", #[⟨67, .data⟩, ⟨60, .guard⟩], some (60, true)⟩) (v := .slice fa fn fc) (Or.inl ⟨by kernel_rfl, fun W hW => by have q0 := hW.c15; go_simp⟩) ?_
                 simp only [pG,Act.put]
                 refine stk (o := ⟨some 79, .call { callee := .builtin .len, args := #[.tmp 78], argTypes := #[27] }, 3, "form.go:40", #[⟨68, .data⟩, ⟨60, .guard⟩], some (60, true)⟩) (v := .int .i64 (fn : Int)) ?_
                 simp only [pG,Act.put]
                 refine sty (o := ⟨some 80, .binOp .eql 3 (.tmp 79) (.const (.int .i64 0)) 3, 4, "form.go:40", #[⟨69, .data⟩, ⟨60, .guard⟩], some (60, true)⟩) (v := .bool zF) (Or.inl ⟨by kernel_rfl, fun W hW => by have q0 := EzF; go_simp; try (first | exact DzF | exact DzF' | exact DzF'')⟩) ?_
                 simp only [pG,Act.put]
                 refine seq_call (o := ⟨some 81, .call { callee := .value (.func 31), args := #[.tmp 72, .tmp 76, .tmp 80], argTypes := #[4, 4, 4] }, 4, "form.go:45", #[⟨62, .data⟩, ⟨66, .data⟩, ⟨70, .data⟩, ⟨60, .chain⟩, ⟨60, .guard⟩], some (60, true)⟩) (by kernel_rfl) (fun K hK => ?_)
                 rw [if_pos (by kernel_rfl)]
                 go_simp
                 go_wp2_with (go_at_call 31; refine (gozM_n _ _ _ _).mono ?_; rintro e w0 ⟨rfl, h0⟩; rw [h0, Hr8.out]; clear h0)
                 refine hK.out _ _ HC.out ?_
                 clear hK K
                 try simp only [pG,Act.put]
                 cases r8 with
                 | false =>
                   refine seq_plain (fun _ _ _ d _ h => by cases d <;> exact h) _ [(some 82,.bool false), (some 83,.bool false), (some 84, undef), (some 85, undef), (some 86, undef), (some 87, undef), (some 89, undef), (some 90, undef), (some 91, undef), (some 92, undef), (some 88, undef), (some 93, undef), (some 94,.bool false), (some 2,.bool false)] _ _ (by kernel_rfl) HC.out ?_
                   simp only [putAll,pG,Act.put]
                   have BE : Hid (Below w.heap.size w _) := HC.out.bel
                   clear HC
                   go_wp2
                   go_ret
                   rw [EV.out]
                   exact ⟨by simp, BE.out⟩
                 | true =>
                   refine stk (o := ⟨some 82, .pick (.tmp 70) (.tmp 81) (.const (.bool false)), 4, "form.go:40", #[⟨60, .data⟩, ⟨71, .data⟩], none⟩) (v := .bool true) ?_
                   simp only [pG,Act.put]
                   refine stk (o := ⟨some 83, .move (.tmp 82), 4, "form.go:40", #[⟨72, .data⟩, ⟨71, .chain⟩], none⟩) (v := .bool true) ?_
                   simp only [pG,Act.put]
                   refine stk (o := ⟨some 84, .fieldAddr 62 (.tmp 3) 2, 0, "form.go:40", #[⟨73, .guard⟩], some (73, true)⟩) (v := .pointer (some ⟨g3, 2, none⟩)) ?_
                   simp only [pG,Act.put]
                   refine sty (o := ⟨some 85, .load 4 (.tmp 84), 4, "form.go:40", #[⟨74, .data⟩, ⟨73, .guard⟩], some (73, true)⟩) (v := .bool (gL k s)) (Or.inl ⟨by kernel_rfl, fun W hW => by have q0 := hW.f2; go_simp⟩) ?_
                   simp only [pG,Act.put]
                   refine stk (o := ⟨some 86, .fieldAddr 29 (.tmp 1) 6, 0, "form.go:40", #[⟨73, .guard⟩], some (73, true)⟩) (v := .pointer (some ⟨g1, 10, none⟩)) ?_
                   simp only [pG,Act.put]
                   refine sty (o := ⟨some 87, .load 26 (.tmp 86), 26, "form.go:40", #[⟨76, .data⟩, ⟨73, .guard⟩], some (73, true)⟩) (v := .slice la ln lc) (Or.inl ⟨by kernel_rfl, fun W hW => by have q0 := hW.c10; go_simp⟩) ?_
                   simp only [pG,Act.put]
                   refine stk (o := ⟨some 89, .fieldAddr 29 (.tmp 1) 6, 0, "form.go:40", #[⟨73, .guard⟩], some (73, true)⟩) (v := .pointer (some ⟨g1, 10, none⟩)) ?_
                   simp only [pG,Act.put]
                   refine sty (o := ⟨some 90, .load 26 (.tmp 89), 26, "form.go:40", #[⟨79, .data⟩, ⟨73, .guard⟩], some (73, true)⟩) (v := .slice la ln lc) (Or.inl ⟨by kernel_rfl, fun W hW => by have q0 := hW.c10; go_simp⟩) ?_
                   simp only [pG,Act.put]
                   refine stk (o := ⟨some 91, .call { callee := .builtin .len, args := #[.tmp 90], argTypes := #[26] }, 3, "form.go:40", #[⟨80, .data⟩, ⟨73, .guard⟩], some (73, true)⟩) (v := .int .i64 (ln : Int)) ?_
                   simp only [pG,Act.put]
                   refine sty (o := ⟨some 92, .binOp .eql 3 (.tmp 91) (.const (.int .i64 0)) 3, 4, "form.go:40", #[⟨81, .data⟩, ⟨73, .guard⟩], some (73, true)⟩) (v := .bool zL) (Or.inl ⟨by kernel_rfl, fun W hW => by have q0 := EzL; go_simp; try (first | exact DzL | exact DzL' | exact DzL'')⟩) ?_
                   simp only [pG,Act.put]
                   refine seq_call (o := ⟨some 88, .call { callee := .value (.func 33), args := #[.tmp 87], argTypes := #[26] }, 4, "form.go:46", #[⟨77, .data⟩, ⟨73, .chain⟩, ⟨73, .guard⟩], some (73, true)⟩) (by kernel_rfl) (fun K hK => ?_)
                   rw [if_pos (by kernel_rfl)]
                   go_simp
                   have HX : Hid (Cms _ 0 la ln X) := hC.out.below HC.out.bel
                   have HS : Hid (Sent _ M E) := hE.out.below HC.out.bel
                   go_wp2_with (go_at_call 33; refine (goodLedger_n HS hM0 HX).mono ?_; rintro e w178 ⟨rfl, h0⟩; rw [HbL.out])
                   have HD := HC.out.below h0.out
                   clear h0
                   refine hK.out _ _ HD ?_
                   clear hK K HC
                   have HC : Hid (FmM w w178 g1 g3 s k f t t0 t1 t2 p0 p1 q0 q1 la ln lc u0 u1 u2 vk fa fn fc) := HD
                   clear HD
                   try simp only [pG,Act.put]
                   refine seq_call (o := ⟨some 93, .call { callee := .value (.func 31), args := #[.tmp 85, .tmp 88, .tmp 92], argTypes := #[4, 4, 4] }, 4, "form.go:46", #[⟨75, .data⟩, ⟨78, .data⟩, ⟨82, .data⟩, ⟨78, .chain⟩, ⟨73, .guard⟩], some (73, true)⟩) (by kernel_rfl) (fun K hK => ?_)
                   rw [if_pos (by kernel_rfl)]
                   go_simp
                   go_wp2_with (go_at_call 31; refine (gozM_n _ _ _ _).mono ?_; rintro e w0 ⟨rfl, h0⟩; rw [h0, Hr9.out]; clear h0)
                   refine hK.out _ _ HC.out ?_
                   clear hK K
                   try simp only [pG,Act.put]
                   cases r9 with
                   | false =>
                     refine seq_plain (fun _ _ _ d _ h => by cases d <;> exact h) _ [(some 94,.bool false), (some 2,.bool false)] _ _ (by kernel_rfl) HC.out ?_
                     simp only [putAll,pG,Act.put]
                     have BE : Hid (Below w.heap.size w _) := HC.out.bel
                     clear HC
                     go_wp2
                     go_ret
                     rw [EV.out]
                     exact ⟨by simp, BE.out⟩
                   | true =>
                     refine stk (o := ⟨some 94, .pick (.tmp 83) (.tmp 93) (.const (.bool false)), 4, "form.go:40", #[⟨73, .data⟩, ⟨83, .data⟩], none⟩) (v := .bool true) ?_
                     simp only [pG,Act.put]
                     refine stk (o := ⟨some 2, .assign (.tmp 94), 4, "form.go:40", ([⟨84, .data⟩, ⟨83, .chain⟩, ⟨0, .phase⟩, ⟨1, .phase⟩, ⟨2, .phase⟩, ⟨3, .phase⟩, ⟨4, .phase⟩, ⟨5, .phase⟩, ⟨6, .phase⟩, ⟨7, .phase⟩, ⟨8, .phase⟩, ⟨9, .phase⟩, ⟨10, .phase⟩, ⟨11, .phase⟩, ⟨12, .phase⟩, ⟨13, .phase⟩, ⟨14, .phase⟩, ⟨15, .phase⟩, ⟨16, .phase⟩, ⟨17, .phase⟩, ⟨18, .phase⟩, ⟨19, .phase⟩, ⟨20, .phase⟩, ⟨21, .phase⟩, ⟨22, .phase⟩, ⟨23, .phase⟩, ⟨24, .phase⟩, ⟨25, .phase⟩, ⟨26, .phase⟩, ⟨27, .phase⟩, ⟨28, .phase⟩, ⟨29, .phase⟩, ⟨30, .phase⟩, ⟨31, .phase⟩, ⟨32, .phase⟩, ⟨33, .phase⟩, ⟨34, .phase⟩, ⟨35, .phase⟩, ⟨36, .phase⟩, ⟨37, .phase⟩, ⟨38, .phase⟩, ⟨39, .phase⟩, ⟨40, .phase⟩].append [⟨41, .phase⟩, ⟨42, .phase⟩, ⟨43, .phase⟩, ⟨44, .phase⟩, ⟨45, .phase⟩, ⟨46, .phase⟩, ⟨47, .phase⟩, ⟨48, .phase⟩, ⟨49, .phase⟩, ⟨50, .phase⟩, ⟨51, .phase⟩, ⟨52, .phase⟩, ⟨53, .phase⟩, ⟨54, .phase⟩, ⟨55, .phase⟩, ⟨56, .phase⟩, ⟨57, .phase⟩, ⟨58, .phase⟩, ⟨59, .phase⟩, ⟨60, .phase⟩, ⟨61, .phase⟩, ⟨62, .phase⟩, ⟨63, .phase⟩, ⟨64, .phase⟩, ⟨65, .phase⟩, ⟨66, .phase⟩, ⟨67, .phase⟩, ⟨68, .phase⟩, ⟨69, .phase⟩, ⟨70, .phase⟩, ⟨71, .phase⟩, ⟨72, .phase⟩, ⟨73, .phase⟩, ⟨74, .phase⟩, ⟨75, .phase⟩, ⟨76, .phase⟩, ⟨77, .phase⟩, ⟨78, .phase⟩, ⟨79, .phase⟩, ⟨80, .phase⟩, ⟨81, .phase⟩, ⟨82, .phase⟩, ⟨83, .phase⟩, ⟨84, .phase⟩]).toArray, none⟩) (v := .bool true) ?_
                     simp only [pG,Act.put]
                     show (Exit.then _ _) .normal _ _
                     have BE : Hid (Below w.heap.size w _) := HC.out.bel
                     clear HC
                     go_wp2
                     go_ret
                     rw [EV.out]
                     exact ⟨by simp, BE.out⟩
end Go.Proofs.YtppibcambhmomaaDoor
