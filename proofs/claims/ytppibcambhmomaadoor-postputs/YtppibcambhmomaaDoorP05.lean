import Derived.Test.YtppibcambhmomaaDoorPp
import Derived.Test.YtppibcambhmomaaDoorP03
import Derived.Test.YtppibcambhmomaaDoorP04
namespace Go.Proofs.YtppibcambhmomaaDoor
open Go.ChangeShapes Go.WideShapes Go.ChangeAt Go.RowKit
set_option maxRecDepth 20000
set_option linter.unusedVariables false
set_option linter.unusedSimpArgs false
def frm (x : Cm) : Bool := kOk x.k && (gdI x.i0 x.i1 x.i2 && (goz (fB x.k) (gdN x.bu) (decide (x.bu = ⟨#[]⟩)) && (goz (fK x.k) (gdK x.ke) (decide (x.ke = ⟨#[]⟩)) && (goz (fU x.k) (gdI x.u0 x.u1 x.u2) (decide (x.u0 = 0 /\ x.u1 = 0 /\ x.u2 = 0)) && (goz (fP x.k) (gdP x.b0 x.b1 x.b2 x.sz x.et && decide (x.b0 = x.i0 /\ x.b1 = x.i1 /\ x.b2 = x.i2)) (decide ((x.b0 = 0 /\ x.b1 = 0 /\ x.b2 = 0) /\ x.sz = 0 /\ x.et = ⟨#[]⟩)) && (goz (fT x.k) (ptP x.pt) (decide (x.pt = 0)) && (goz (fS x.k) (gdS x.ps) (decide (x.ps.length = 0)) && (goz (fM x.k) (tmT x.tm) (decide (x.tm = 0)) && goz (fD x.k) (tmT x.dy) (decide (x.dy = 0))))))))))
theorem str_empty (s : ByteArray) : s.toList.isEmpty = decide (s = ⟨#[]⟩) := by
 rw [ByteArray.toList_eq]
 by_cases h : s = ⟨#[]⟩
 . subst h; simp
 . rw [decide_eq_false h]
   cases hl : s.data.toList with
   | nil => exact absurd (ByteArray.ext (Array.toList_inj.1 hl)) h
   | cons x l => rfl
def regIn (n : Nat) : Code -> Option (Array Oper)
 | .region i ops _ => if i = n then some ops else none
 | .seq a b => match regIn n a with
   | some c => some c
   | none => regIn n b
 | .cond _ a b => match regIn n a with
   | some c => some c
   | none => regIn n b
 | .block _ c => regIn n c
 | .loop c => regIn n c
 | .scope c => regIn n c
 | _ => none
noncomputable def ops32 : Array Oper := match Tryd.f69.body with
 | some c => match regIn 2 c with
   | some o => o
   | none => #[]
 | none => #[]
structure Fm (w W : World) (g1 g3 : Nat) (k i0 i1 i2 : Int) (bu ke : ByteArray) (u0 u1 u2 b0 b1 b2 sz : Int) (et : ByteArray) (pt : Int) (pa : Option Addr) (pn pc : Nat) (tm dy : Int) : Prop where
 h1 : W.heap[g1]? = some (.cells #[.int .i64 k,.int .i64 i0,.int .i64 i1,.int .i64 i2,.string bu,.string ke,.int .i64 u0,.int .i64 u1,.int .i64 u2,.int .i64 b0,.int .i64 b1,.int .i64 b2,.int .i64 sz,.string et,.int .i64 pt,.slice pa pn pc,.int .i64 tm,.int .i64 dy] 60 (0, 0))
 h3 : W.heap[g3]? = some (.cells (fcs k) 122 (0, 0))
 bel : Below w.heap.size w W
section
variable {w W : World} {g1 g3 : Nat} {k i0 i1 i2 : Int} {bu ke : ByteArray} {u0 u1 u2 b0 b1 b2 sz : Int} {et : ByteArray} {pt : Int} {pa : Option Addr} {pn pc : Nat} {tm dy : Int}
theorem Fm.below {W' : World} (h : Fm w W g1 g3 k i0 i1 i2 bu ke u0 u1 u2 b0 b1 b2 sz et pt pa pn pc tm dy) (hb : Below W.heap.size W W') : Fm w W' g1 g3 k i0 i1 i2 bu ke u0 u1 u2 b0 b1 b2 sz et pt pa pn pc tm dy :=
 ⟨(hb.block _ (gl h.h1)).trans h.h1, (hb.block _ (gl h.h3)).trans h.h3, h.bel.trans (hb.mono h.bel.size)⟩
variable (h : Fm w W g1 g3 k i0 i1 i2 bu ke u0 u1 u2 b0 b1 b2 sz et pt pa pn pc tm dy)
include h
theorem Fm.c1 : W.cell? ⟨g1, 1, none⟩ = some (.int .i64 i0) := by simp [World.cell?, h.h1]
theorem Fm.c2 : W.cell? ⟨g1, 2, none⟩ = some (.int .i64 i1) := by simp [World.cell?, h.h1]
theorem Fm.c3 : W.cell? ⟨g1, 3, none⟩ = some (.int .i64 i2) := by simp [World.cell?, h.h1]
theorem Fm.c4 : W.cell? ⟨g1, 4, none⟩ = some (.string bu) := by simp [World.cell?, h.h1]
theorem Fm.c5 : W.cell? ⟨g1, 5, none⟩ = some (.string ke) := by simp [World.cell?, h.h1]
theorem Fm.c6 : W.cell? ⟨g1, 6, none⟩ = some (.int .i64 u0) := by simp [World.cell?, h.h1]
theorem Fm.c7 : W.cell? ⟨g1, 7, none⟩ = some (.int .i64 u1) := by simp [World.cell?, h.h1]
theorem Fm.c8 : W.cell? ⟨g1, 8, none⟩ = some (.int .i64 u2) := by simp [World.cell?, h.h1]
theorem Fm.c9 : W.cell? ⟨g1, 9, none⟩ = some (.int .i64 b0) := by simp [World.cell?, h.h1]
theorem Fm.c10 : W.cell? ⟨g1, 10, none⟩ = some (.int .i64 b1) := by simp [World.cell?, h.h1]
theorem Fm.c11 : W.cell? ⟨g1, 11, none⟩ = some (.int .i64 b2) := by simp [World.cell?, h.h1]
theorem Fm.c12 : W.cell? ⟨g1, 12, none⟩ = some (.int .i64 sz) := by simp [World.cell?, h.h1]
theorem Fm.c13 : W.cell? ⟨g1, 13, none⟩ = some (.string et) := by simp [World.cell?, h.h1]
theorem Fm.c14 : W.cell? ⟨g1, 14, none⟩ = some (.int .i64 pt) := by simp [World.cell?, h.h1]
theorem Fm.c15 : W.cell? ⟨g1, 15, none⟩ = some (.slice pa pn pc) := by simp [World.cell?, h.h1]
theorem Fm.c16 : W.cell? ⟨g1, 16, none⟩ = some (.int .i64 tm) := by simp [World.cell?, h.h1]
theorem Fm.c17 : W.cell? ⟨g1, 17, none⟩ = some (.int .i64 dy) := by simp [World.cell?, h.h1]
theorem Fm.f0 : W.cell? ⟨g3, 0, none⟩ = some (.bool (fB k)) := by simp [World.cell?, h.h3, fcs]
theorem Fm.f1 : W.cell? ⟨g3, 1, none⟩ = some (.bool (fK k)) := by simp [World.cell?, h.h3, fcs]
theorem Fm.f2 : W.cell? ⟨g3, 2, none⟩ = some (.bool (fU k)) := by simp [World.cell?, h.h3, fcs]
theorem Fm.f3 : W.cell? ⟨g3, 3, none⟩ = some (.bool (fP k)) := by simp [World.cell?, h.h3, fcs]
theorem Fm.f4 : W.cell? ⟨g3, 4, none⟩ = some (.bool (fT k)) := by simp [World.cell?, h.h3, fcs]
theorem Fm.f5 : W.cell? ⟨g3, 5, none⟩ = some (.bool (fS k)) := by simp [World.cell?, h.h3, fcs]
theorem Fm.f6 : W.cell? ⟨g3, 6, none⟩ = some (.bool (fM k)) := by simp [World.cell?, h.h3, fcs]
theorem Fm.f7 : W.cell? ⟨g3, 7, none⟩ = some (.bool (fD k)) := by simp [World.cell?, h.h3, fcs]
end
set_option maxHeartbeats 16000000 in
theorem inForm_n {w : World} {k i0 i1 i2 : Int} {bu ke : ByteArray} {u0 u1 u2 b0 b1 b2 sz : Int} {et : ByteArray} {pt : Int} {ps : List Int} {pa : Option Addr} {pn pc : Nat} {tm dy : Int} (hI : Hid (Irow w 0 pa pn ps)) :
  Calls Tryd.prog 69 #[.agg #[.int .i64 k,.int .i64 i0,.int .i64 i1,.int .i64 i2,.string bu,.string ke,.int .i64 u0,.int .i64 u1,.int .i64 u2,.int .i64 b0,.int .i64 b1,.int .i64 b2,.int .i64 sz,.string et,.int .i64 pt,.slice pa pn pc,.int .i64 tm,.int .i64 dy]] w fun e w' => e = .returned (.bool (frm ⟨k, i0, i1, i2, bu, ke, u0, u1, u2, b0, b1, b2, sz, et, pt, ps, tm, dy⟩)) /\ Hid (Below w.heap.size w w') := by
 obtain ⟨ok, Hok⟩ := nm (kOk k)
 obtain ⟨r1, Hr1⟩ := nm (gdI i0 i1 i2)
 obtain ⟨b2', Hb2⟩ := nm (gdN bu)
 obtain ⟨b3, Hb3⟩ := nm (gdK ke)
 obtain ⟨b4, Hb4⟩ := nm (gdI u0 u1 u2)
 obtain ⟨b5, Hb5⟩ := nm (gdP b0 b1 b2 sz et)
 obtain ⟨b6, Hb6⟩ := nm (ptP pt)
 obtain ⟨b7, Hb7⟩ := nm (gdS ps)
 obtain ⟨b8, Hb8⟩ := nm (tmT tm)
 obtain ⟨b9, Hb9⟩ := nm (tmT dy)
 obtain ⟨z2, Hz2⟩ := nm (decide (bu = ⟨#[]⟩))
 obtain ⟨z3, Hz3⟩ := nm (decide (ke = ⟨#[]⟩))
 obtain ⟨z4, Hz4⟩ := nm (decide (u0 = 0 /\ u1 = 0 /\ u2 = 0))
 obtain ⟨z5, Hz5⟩ := nm (decide ((b0 = 0 /\ b1 = 0 /\ b2 = 0) /\ sz = 0 /\ et = ⟨#[]⟩))
 obtain ⟨z6, Hz6⟩ := nm (decide (pt = 0))
 obtain ⟨z7, Hz7⟩ := nm (decide ((pn : Int) = 0))
 obtain ⟨z8, Hz8⟩ := nm (decide (tm = 0))
 obtain ⟨z9, Hz9⟩ := nm (decide (dy = 0))
 obtain ⟨ze, Hze⟩ := nm (decide (b0 = i0 /\ b1 = i1 /\ b2 = i2))
 obtain ⟨r2, Hr2⟩ := nm (goz (fB k) b2' z2)
 obtain ⟨r3, Hr3⟩ := nm (goz (fK k) b3 z3)
 obtain ⟨r4, Hr4⟩ := nm (goz (fU k) b4 z4)
 obtain ⟨r5, Hr5⟩ := nm (goz (fP k) (b5 && ze) z5)
 obtain ⟨r6, Hr6⟩ := nm (goz (fT k) b6 z6)
 obtain ⟨r7, Hr7⟩ := nm (goz (fS k) b7 z7)
 obtain ⟨r8, Hr8⟩ := nm (goz (fM k) b8 z8)
 obtain ⟨r9, Hr9⟩ := nm (goz (fD k) b9 z9)
 have EV : Hid (frm ⟨k, i0, i1, i2, bu, ke, u0, u1, u2, b0, b1, b2, sz, et, pt, ps, tm, dy⟩ = (ok && (r1 && (r2 && (r3 && (r4 && (r5 && (r6 && (r7 && (r8 && r9)))))))))) := by
  have e7 : decide (ps.length = 0) = z7 := by rw [<- Hz7.out, <- hI.out.len]; exact decide_eq_decide.2 (by omega)
  show frm _ = _
  unfold frm
  simp only
  rw [Hok.out, Hr1.out, Hb2.out, Hb3.out, Hb4.out, Hb5.out, Hb6.out, Hb7.out, Hb8.out, Hb9.out, Hz2.out, Hz3.out, Hz4.out, Hz5.out, Hz6.out, e7, Hz8.out, Hz9.out, Hze.out, Hr2.out, Hr3.out, Hr4.out, Hr5.out, Hr6.out, Hr7.out, Hr8.out, Hr9.out]
 have Dz2 : bu.toList.isEmpty = z2 := (str_empty bu).trans Hz2.out
 have Dz3 : ke.toList.isEmpty = z3 := (str_empty ke).trans Hz3.out
 have Dz2' : bu.toList.isEmpty = z2 := Dz2
 have Dz3' : ke.toList.isEmpty = z3 := Dz3
 have Dz6 : decide (pt = 0) = z6 := Hz6.out
 have Dz7 : decide ((pn : Int) = 0) = z7 := Hz7.out
 have Dz8 : decide (tm = 0) = z8 := Hz8.out
 have Dz9 : decide (dy = 0) = z9 := Hz9.out
 have Dz6' : (pt == 0) = z6 := by rw [<- Dz6]; by_cases h : pt = 0 <;> simp [h]
 have Dz7' : decide (pn = 0) = z7 := by rw [<- Dz7]; exact decide_eq_decide.2 (by omega)
 have Dz8' : (tm == 0) = z8 := by rw [<- Dz8]; by_cases h : tm = 0 <;> simp [h]
 have Dz9' : (dy == 0) = z9 := by rw [<- Dz9]; by_cases h : dy = 0 <;> simp [h]
 have Ez2 : ∀ w, (Op.equalIn 10000 9 (.string bu) (.string ⟨#[]⟩)).run Tryd.prog w = .ok z2 w := fun w => by rw [eqS, Hz2.out]
 have Ez3 : ∀ w, (Op.equalIn 10000 9 (.string ke) (.string ⟨#[]⟩)).run Tryd.prog w = .ok z3 w := fun w => by rw [eqS, Hz3.out]
 have Ez4 : ∀ w, (Op.equalIn 10000 23 (idv u0 u1 u2) (idv 0 0 0)).run Tryd.prog w = .ok z4 w := fun w => by rw [eqId, Hz4.out]
 have Eze : ∀ w, (Op.equalIn 10000 23 (idv b0 b1 b2) (idv i0 i1 i2)).run Tryd.prog w = .ok ze w := fun w => by rw [eqId, Hze.out]
 have Ez5 : ∀ w, (Op.equalIn 10000 58 (.agg #[.int .i64 b0,.int .i64 b1,.int .i64 b2,.int .i64 sz,.string et]) (.agg #[.int .i64 0,.int .i64 0,.int .i64 0,.int .i64 0,.string ⟨#[]⟩])).run Tryd.prog w = .ok z5 w := fun w => by rw [eqPc, Hz5.out]
 have Ez6 : ∀ w, (Op.equalIn 10000 3 (.int .i64 pt) (.int .i64 0)).run Tryd.prog w = .ok z6 w := fun w => by rw [eqI, Hz6.out]
 have Ez7 : ∀ w, (Op.equalIn 10000 3 (.int .i64 (pn : Int)) (.int .i64 0)).run Tryd.prog w = .ok z7 w := fun w => by rw [eqI, Hz7.out]
 have Ez8 : ∀ w, (Op.equalIn 10000 3 (.int .i64 tm) (.int .i64 0)).run Tryd.prog w = .ok z8 w := fun w => by rw [eqI, Hz8.out]
 have Ez9 : ∀ w, (Op.equalIn 10000 3 (.int .i64 dy) (.int .i64 0)).run Tryd.prog w = .ok z9 w := fun w => by rw [eqI, Hz9.out]
 obtain ⟨g1, Hg1⟩ := nm (w.heap.size)
 obtain ⟨w1, Hw1⟩ := nm (w.alloc (.cells #[.int .i64 k,.int .i64 i0,.int .i64 i1,.int .i64 i2,.string bu,.string ke,.int .i64 u0,.int .i64 u1,.int .i64 u2,.int .i64 b0,.int .i64 b1,.int .i64 b2,.int .i64 sz,.string et,.int .i64 pt,.slice pa pn pc,.int .i64 tm,.int .i64 dy] 60))
 have B1 := al1 Hw1
 have k1 : Hid (w1.heap[g1]? = some (.cells #[.int .i64 k,.int .i64 i0,.int .i64 i1,.int .i64 i2,.string bu,.string ke,.int .i64 u0,.int .i64 u1,.int .i64 u2,.int .i64 b0,.int .i64 b1,.int .i64 b2,.int .i64 sz,.string et,.int .i64 pt,.slice pa pn pc,.int .i64 tm,.int .i64 dy] 60 (0, 0))) := by rw [<- Hw1.out, <- Hg1.out]; exact heap_alloc_new w _
 have x0 : w1.cell? ⟨g1, 0, none⟩ = some (.int .i64 k) := by simp [World.cell?, k1.out]
 go_enter Tryd.func69, Tryd.ntmps69
 go_upto_region 1 with (fail)
 rw [Hw1.out, Hg1.out]
 go_upto_region 2 with (go_at_call 78; refine (fieldsOf_n k _).mono ?_; rintro e w2 ⟨rfl, h2⟩; rw [Hok.out]; unfold fcs)
 obtain ⟨g3, Hg3⟩ := nm (w2.heap.size)
 obtain ⟨w3, Hw3⟩ := nm (w2.alloc (.cells #[.bool (fB k),.bool (fK k),.bool (fU k),.bool (fP k),.bool (fT k),.bool (fS k),.bool (fM k),.bool (fD k)] 122))
 obtain ⟨w4, Hw4⟩ := nm (w3.drew)
 have HC : Hid (Fm w w4 g1 g3 k i0 i1 i2 bu ke u0 u1 u2 b0 b1 b2 sz et pt pa pn pc tm dy) := by
  have b3 : Below w2.heap.size w2 w3 := by rw [<- Hw3.out]; exact alloc1 w2 _
  have k3 : w3.heap[g3]? = some (.cells (fcs k) 122 (0, 0)) := by rw [<- Hw3.out, <- Hg3.out]; exact heap_alloc_new w2 _
  have b13 := h2.out.trans (b3.mono h2.out.size)
  have f3 : Fm w w3 g1 g3 k i0 i1 i2 bu ke u0 u1 u2 b0 b1 b2 sz et pt pa pn pc tm dy := ⟨(b13.block g1 (gl k1.out)).trans k1.out, k3, B1.out.trans (b13.mono B1.out.size)⟩
  rw [<- Hw4.out]
  exact f3.below (Below.refl _ _).drew
 rw [Hw3.out, Hg3.out]
 clear h2 k1 B1 x0 Hw3 Hg3 Hw1 Hg1
 refine wp_region_seq (ops := ops32) (C := fun W => Fm w W g1 g3 k i0 i1 i2 bu ke u0 u1 u2 b0 b1 b2 sz et pt pa pn pc tm dy) [(0, false), (1, false), (2, false), (3, false), (4, true), (5, false), (6, false), (7, false), (8, false), (9, false), (10, false), (12, false), (13, false), (14, false), (11, true), (15, true), (16, false), (17, false), (18, false), (19, false), (20, false), (21, false), (23, false), (24, false), (25, false), (22, true), (26, true), (27, false), (28, false), (29, false), (30, false), (31, false), (32, false), (34, false), (35, false), (36, false), (37, false), (33, true), (38, true), (39, false), (40, false), (41, false), (42, false), (43, false), (44, false), (54, false), (55, false), (56, false), (57, false), (45, true), (46, false), (47, false), (48, false), (49, false), (50, false), (51, false), (52, false), (53, false), (58, true), (59, false), (60, false), (61, false), (62, false), (63, false), (64, false), (66, false), (67, false), (68, false), (65, true), (69, true), (70, false), (71, false), (72, false), (73, false), (74, false), (75, false), (77, false), (78, false), (79, false), (80, false), (76, true), (81, true), (82, false), (83, false), (84, false), (85, false), (86, false), (87, false), (89, false), (90, false), (91, false), (88, true), (92, true), (93, false), (94, false), (95, false), (96, false), (97, false), (98, false), (100, false), (101, false), (102, false), (99, true), (103, true), (104, false), (105, false)] (by kernel_rfl) (by kernel_rfl) (by rw [Hw4.out]; exact HC.out) ?_
 rw [Hw4.out]
 clear Hw4
 cases ok with
 | false =>
   refine seq_plain (fun _ _ _ d _ h => by cases d <;> exact h) _ [(some 11,.bool false), (some 12,.bool false), (some 13, undef), (some 14, undef), (some 15, undef), (some 16,.bool false), (some 17,.bool false), (some 18, undef), (some 19, undef), (some 20, undef), (some 21, undef), (some 23, undef), (some 24, undef), (some 25, undef), (some 22, undef), (some 26, undef), (some 27,.bool false), (some 28,.bool false), (some 29, undef), (some 30, undef), (some 31, undef), (some 32, undef), (some 34, undef), (some 35, undef), (some 36, undef), (some 33, undef), (some 37, undef), (some 38,.bool false), (some 39,.bool false), (some 40, undef), (some 41, undef), (some 42, undef), (some 43, undef), (some 45, undef), (some 46, undef), (some 47, undef), (some 48, undef), (some 44, undef), (some 49, undef), (some 50,.bool false), (some 51,.bool false), (some 52, undef), (some 53, undef), (some 54, undef), (some 55, undef), (some 65, undef), (some 66, undef), (some 67, undef), (some 68, undef), (some 56, undef), (some 57, undef), (some 58, undef), (some 59, undef), (some 60, undef), (some 61, undef), (some 62, undef), (some 63, undef), (some 64, undef), (some 69, undef), (some 70,.bool false), (some 71,.bool false), (some 72, undef), (some 73, undef), (some 74, undef), (some 75, undef), (some 77, undef), (some 78, undef), (some 79, undef), (some 76, undef), (some 80, undef), (some 81,.bool false), (some 82,.bool false), (some 83, undef), (some 84, undef), (some 85, undef), (some 86, undef), (some 88, undef), (some 89, undef), (some 90, undef), (some 91, undef), (some 87, undef), (some 92, undef), (some 93,.bool false), (some 94,.bool false), (some 95, undef), (some 96, undef), (some 97, undef), (some 98, undef), (some 100, undef), (some 101, undef), (some 102, undef), (some 99, undef), (some 103, undef), (some 104,.bool false), (some 105,.bool false), (some 106, undef), (some 107, undef), (some 108, undef), (some 109, undef), (some 111, undef), (some 112, undef), (some 113, undef), (some 110, undef), (some 114, undef), (some 115,.bool false), (some 2,.bool false)] _ _ (by kernel_rfl) HC.out ?_
   simp only [putAll,pG,Act.put]
   have BE : Hid (Below w.heap.size w _) := HC.out.bel
   clear HC
   go_wp2
   go_ret
   rw [EV.out]
   exact ⟨by simp, BE.out⟩
 | true =>
   refine stk (o := ⟨some 11, .move (.tmp 4), 4, "form.go:44", #[], none⟩) (v := .bool true) ?_
   simp only [pG,Act.put]
   refine stk (o := ⟨some 12, .move (.tmp 11), 4, "form.go:44", #[⟨0, .data⟩], none⟩) (v := .bool true) ?_
   simp only [pG,Act.put]
   refine stk (o := ⟨some 13, .fieldAddr 60 (.tmp 1) 1, 0, "form.go:44", #[⟨1, .guard⟩], some (1, true)⟩) (v := .pointer (some ⟨g1, 1, none⟩)) ?_
   simp only [pG,Act.put]
   refine sty (o := ⟨some 14, .load 23 (.tmp 13), 23, "form.go:44", #[⟨2, .data⟩, ⟨1, .guard⟩], some (1, true)⟩) (v := .agg #[.int .i64 i0,.int .i64 i1,.int .i64 i2]) (Or.inl ⟨by kernel_rfl, fun W hW => by have q0 := hW.c1; have q1 := hW.c2; have q2 := hW.c3; go_simp⟩) ?_
   simp only [pG,Act.put]
   refine seq_call (o := ⟨some 15, .call { callee := .value (.func 30), args := #[.tmp 14], argTypes := #[23] }, 4, "form.go:44", #[⟨3, .data⟩, ⟨1, .chain⟩, ⟨1, .guard⟩], some (1, true)⟩) (by kernel_rfl) (fun K hK => ?_)
   rw [if_pos (by kernel_rfl)]
   go_simp
   go_wp2_with (go_at_call 30; refine (goodId_n _ _ _ _).mono ?_; rintro e w104 ⟨rfl, h0⟩; rw [Hr1.out])
   have h9 : Below w4.heap.size w4 w104 := by rw [h0.out]; exact alloc1 _ _
   have HD := HC.out.below h9
   clear h0
   refine hK.out _ _ HD ?_
   clear hK K HC
   have HC : Hid (Fm w w104 g1 g3 k i0 i1 i2 bu ke u0 u1 u2 b0 b1 b2 sz et pt pa pn pc tm dy) := HD
   clear HD
   clear h9
   try simp only [pG,Act.put]
   cases r1 with
   | false =>
     refine seq_plain (fun _ _ _ d _ h => by cases d <;> exact h) _ [(some 16,.bool false), (some 17,.bool false), (some 18, undef), (some 19, undef), (some 20, undef), (some 21, undef), (some 23, undef), (some 24, undef), (some 25, undef), (some 22, undef), (some 26, undef), (some 27,.bool false), (some 28,.bool false), (some 29, undef), (some 30, undef), (some 31, undef), (some 32, undef), (some 34, undef), (some 35, undef), (some 36, undef), (some 33, undef), (some 37, undef), (some 38,.bool false), (some 39,.bool false), (some 40, undef), (some 41, undef), (some 42, undef), (some 43, undef), (some 45, undef), (some 46, undef), (some 47, undef), (some 48, undef), (some 44, undef), (some 49, undef), (some 50,.bool false), (some 51,.bool false), (some 52, undef), (some 53, undef), (some 54, undef), (some 55, undef), (some 65, undef), (some 66, undef), (some 67, undef), (some 68, undef), (some 56, undef), (some 57, undef), (some 58, undef), (some 59, undef), (some 60, undef), (some 61, undef), (some 62, undef), (some 63, undef), (some 64, undef), (some 69, undef), (some 70,.bool false), (some 71,.bool false), (some 72, undef), (some 73, undef), (some 74, undef), (some 75, undef), (some 77, undef), (some 78, undef), (some 79, undef), (some 76, undef), (some 80, undef), (some 81,.bool false), (some 82,.bool false), (some 83, undef), (some 84, undef), (some 85, undef), (some 86, undef), (some 88, undef), (some 89, undef), (some 90, undef), (some 91, undef), (some 87, undef), (some 92, undef), (some 93,.bool false), (some 94,.bool false), (some 95, undef), (some 96, undef), (some 97, undef), (some 98, undef), (some 100, undef), (some 101, undef), (some 102, undef), (some 99, undef), (some 103, undef), (some 104,.bool false), (some 105,.bool false), (some 106, undef), (some 107, undef), (some 108, undef), (some 109, undef), (some 111, undef), (some 112, undef), (some 113, undef), (some 110, undef), (some 114, undef), (some 115,.bool false), (some 2,.bool false)] _ _ (by kernel_rfl) HC.out ?_
     simp only [putAll,pG,Act.put]
     have BE : Hid (Below w.heap.size w _) := HC.out.bel
     clear HC
     go_wp2
     go_ret
     rw [EV.out]
     exact ⟨by simp, BE.out⟩
   | true =>
     refine stk (o := ⟨some 16, .pick (.tmp 12) (.tmp 15) (.const (.bool false)), 4, "form.go:44", #[⟨1, .data⟩, ⟨4, .data⟩], none⟩) (v := .bool true) ?_
     simp only [pG,Act.put]
     refine stk (o := ⟨some 17, .move (.tmp 16), 4, "form.go:44", #[⟨5, .data⟩, ⟨4, .chain⟩], none⟩) (v := .bool true) ?_
     simp only [pG,Act.put]
     refine stk (o := ⟨some 18, .fieldAddr 122 (.tmp 3) 0, 0, "form.go:44", #[⟨6, .guard⟩], some (6, true)⟩) (v := .pointer (some ⟨g3, 0, none⟩)) ?_
     simp only [pG,Act.put]
     refine sty (o := ⟨some 19, .load 4 (.tmp 18), 4, "form.go:44", #[⟨7, .data⟩, ⟨6, .guard⟩], some (6, true)⟩) (v := .bool (fB k)) (Or.inl ⟨by kernel_rfl, fun W hW => by have q0 := hW.f0; go_simp⟩) ?_
     simp only [pG,Act.put]
     refine stk (o := ⟨some 20, .fieldAddr 60 (.tmp 1) 2, 0, "form.go:44", #[⟨6, .guard⟩], some (6, true)⟩) (v := .pointer (some ⟨g1, 4, none⟩)) ?_
     simp only [pG,Act.put]
     refine sty (o := ⟨some 21, .load 9 (.tmp 20), 9, "form.go:44", #[⟨9, .data⟩, ⟨6, .guard⟩], some (6, true)⟩) (v := .string bu) (Or.inl ⟨by kernel_rfl, fun W hW => by have q0 := hW.c4; go_simp⟩) ?_
     simp only [pG,Act.put]
     refine stk (o := ⟨some 23, .fieldAddr 60 (.tmp 1) 2, 0, "form.go:44", #[⟨6, .guard⟩], some (6, true)⟩) (v := .pointer (some ⟨g1, 4, none⟩)) ?_
     simp only [pG,Act.put]
     refine sty (o := ⟨some 24, .load 9 (.tmp 23), 9, "form.go:44", #[⟨12, .data⟩, ⟨6, .guard⟩], some (6, true)⟩) (v := .string bu) (Or.inl ⟨by kernel_rfl, fun W hW => by have q0 := hW.c4; go_simp⟩) ?_
     simp only [pG,Act.put]
     refine sty (o := ⟨some 25, .binOp .eql 9 (.tmp 24) (.const (.string { data := #[] })) 9, 4, "form.go:44", #[⟨13, .data⟩, ⟨6, .guard⟩], some (6, true)⟩) (v := .bool z2) (Or.inl ⟨by kernel_rfl, fun W hW => by have q0 := Ez2; go_simp; try (first | exact Dz2 | exact Dz2')⟩) ?_
     simp only [pG,Act.put]
     refine seq_call (o := ⟨some 22, .call { callee := .value (.func 80), args := #[.tmp 21], argTypes := #[9] }, 4, "form.go:45", #[⟨10, .data⟩, ⟨6, .chain⟩, ⟨6, .guard⟩], some (6, true)⟩) (by kernel_rfl) (fun K hK => ?_)
     rw [if_pos (by kernel_rfl)]
     go_simp
     go_wp2_with (go_at_call 80; refine (goodBucket_n _ _).mono ?_; rintro e w0 ⟨rfl, h0⟩; rw [h0, Hb2.out]; clear h0)
     refine hK.out _ _ HC.out ?_
     clear hK K
     try simp only [pG,Act.put]
     refine seq_call (o := ⟨some 26, .call { callee := .value (.func 79), args := #[.tmp 19, .tmp 22, .tmp 25], argTypes := #[4, 4, 4] }, 4, "form.go:45", #[⟨8, .data⟩, ⟨11, .data⟩, ⟨14, .data⟩, ⟨11, .chain⟩, ⟨6, .guard⟩], some (6, true)⟩) (by kernel_rfl) (fun K hK => ?_)
     rw [if_pos (by kernel_rfl)]
     go_simp
     go_wp2_with (go_at_call 79; refine (goz_n _ _ _ _).mono ?_; rintro e w0 ⟨rfl, h0⟩; rw [h0, Hr2.out]; clear h0)
     refine hK.out _ _ HC.out ?_
     clear hK K
     try simp only [pG,Act.put]
     cases r2 with
     | false =>
       refine seq_plain (fun _ _ _ d _ h => by cases d <;> exact h) _ [(some 27,.bool false), (some 28,.bool false), (some 29, undef), (some 30, undef), (some 31, undef), (some 32, undef), (some 34, undef), (some 35, undef), (some 36, undef), (some 33, undef), (some 37, undef), (some 38,.bool false), (some 39,.bool false), (some 40, undef), (some 41, undef), (some 42, undef), (some 43, undef), (some 45, undef), (some 46, undef), (some 47, undef), (some 48, undef), (some 44, undef), (some 49, undef), (some 50,.bool false), (some 51,.bool false), (some 52, undef), (some 53, undef), (some 54, undef), (some 55, undef), (some 65, undef), (some 66, undef), (some 67, undef), (some 68, undef), (some 56, undef), (some 57, undef), (some 58, undef), (some 59, undef), (some 60, undef), (some 61, undef), (some 62, undef), (some 63, undef), (some 64, undef), (some 69, undef), (some 70,.bool false), (some 71,.bool false), (some 72, undef), (some 73, undef), (some 74, undef), (some 75, undef), (some 77, undef), (some 78, undef), (some 79, undef), (some 76, undef), (some 80, undef), (some 81,.bool false), (some 82,.bool false), (some 83, undef), (some 84, undef), (some 85, undef), (some 86, undef), (some 88, undef), (some 89, undef), (some 90, undef), (some 91, undef), (some 87, undef), (some 92, undef), (some 93,.bool false), (some 94,.bool false), (some 95, undef), (some 96, undef), (some 97, undef), (some 98, undef), (some 100, undef), (some 101, undef), (some 102, undef), (some 99, undef), (some 103, undef), (some 104,.bool false), (some 105,.bool false), (some 106, undef), (some 107, undef), (some 108, undef), (some 109, undef), (some 111, undef), (some 112, undef), (some 113, undef), (some 110, undef), (some 114, undef), (some 115,.bool false), (some 2,.bool false)] _ _ (by kernel_rfl) HC.out ?_
       simp only [putAll,pG,Act.put]
       have BE : Hid (Below w.heap.size w _) := HC.out.bel
       clear HC
       go_wp2
       go_ret
       rw [EV.out]
       exact ⟨by simp, BE.out⟩
     | true =>
       refine stk (o := ⟨some 27, .pick (.tmp 17) (.tmp 26) (.const (.bool false)), 4, "form.go:44", #[⟨6, .data⟩, ⟨15, .data⟩], none⟩) (v := .bool true) ?_
       simp only [pG,Act.put]
       refine stk (o := ⟨some 28, .move (.tmp 27), 4, "form.go:44", #[⟨16, .data⟩, ⟨15, .chain⟩], none⟩) (v := .bool true) ?_
       simp only [pG,Act.put]
       refine stk (o := ⟨some 29, .fieldAddr 122 (.tmp 3) 1, 0, "form.go:44", #[⟨17, .guard⟩], some (17, true)⟩) (v := .pointer (some ⟨g3, 1, none⟩)) ?_
       simp only [pG,Act.put]
       refine sty (o := ⟨some 30, .load 4 (.tmp 29), 4, "form.go:44", #[⟨18, .data⟩, ⟨17, .guard⟩], some (17, true)⟩) (v := .bool (fK k)) (Or.inl ⟨by kernel_rfl, fun W hW => by have q0 := hW.f1; go_simp⟩) ?_
       simp only [pG,Act.put]
       refine stk (o := ⟨some 31, .fieldAddr 60 (.tmp 1) 3, 0, "form.go:44", #[⟨17, .guard⟩], some (17, true)⟩) (v := .pointer (some ⟨g1, 5, none⟩)) ?_
       simp only [pG,Act.put]
       refine sty (o := ⟨some 32, .load 9 (.tmp 31), 9, "form.go:44", #[⟨20, .data⟩, ⟨17, .guard⟩], some (17, true)⟩) (v := .string ke) (Or.inl ⟨by kernel_rfl, fun W hW => by have q0 := hW.c5; go_simp⟩) ?_
       simp only [pG,Act.put]
       refine stk (o := ⟨some 34, .fieldAddr 60 (.tmp 1) 3, 0, "form.go:44", #[⟨17, .guard⟩], some (17, true)⟩) (v := .pointer (some ⟨g1, 5, none⟩)) ?_
       simp only [pG,Act.put]
       refine sty (o := ⟨some 35, .load 9 (.tmp 34), 9, "form.go:44", #[⟨23, .data⟩, ⟨17, .guard⟩], some (17, true)⟩) (v := .string ke) (Or.inl ⟨by kernel_rfl, fun W hW => by have q0 := hW.c5; go_simp⟩) ?_
       simp only [pG,Act.put]
       refine sty (o := ⟨some 36, .binOp .eql 9 (.tmp 35) (.const (.string { data := #[] })) 9, 4, "form.go:44", #[⟨24, .data⟩, ⟨17, .guard⟩], some (17, true)⟩) (v := .bool z3) (Or.inl ⟨by kernel_rfl, fun W hW => by have q0 := Ez3; go_simp; try (first | exact Dz3 | exact Dz3')⟩) ?_
       simp only [pG,Act.put]
       refine seq_call (o := ⟨some 33, .call { callee := .value (.func 81), args := #[.tmp 32], argTypes := #[9] }, 4, "form.go:46", #[⟨21, .data⟩, ⟨17, .chain⟩, ⟨17, .guard⟩], some (17, true)⟩) (by kernel_rfl) (fun K hK => ?_)
       rw [if_pos (by kernel_rfl)]
       go_simp
       go_wp2_with (go_at_call 81; refine (goodKey_n _ _).mono ?_; rintro e w0 ⟨rfl, h0⟩; rw [h0, Hb3.out]; clear h0)
       refine hK.out _ _ HC.out ?_
       clear hK K
       try simp only [pG,Act.put]
       refine seq_call (o := ⟨some 37, .call { callee := .value (.func 79), args := #[.tmp 30, .tmp 33, .tmp 36], argTypes := #[4, 4, 4] }, 4, "form.go:46", #[⟨19, .data⟩, ⟨22, .data⟩, ⟨25, .data⟩, ⟨22, .chain⟩, ⟨17, .guard⟩], some (17, true)⟩) (by kernel_rfl) (fun K hK => ?_)
       rw [if_pos (by kernel_rfl)]
       go_simp
       go_wp2_with (go_at_call 79; refine (goz_n _ _ _ _).mono ?_; rintro e w0 ⟨rfl, h0⟩; rw [h0, Hr3.out]; clear h0)
       refine hK.out _ _ HC.out ?_
       clear hK K
       try simp only [pG,Act.put]
       cases r3 with
       | false =>
         refine seq_plain (fun _ _ _ d _ h => by cases d <;> exact h) _ [(some 38,.bool false), (some 39,.bool false), (some 40, undef), (some 41, undef), (some 42, undef), (some 43, undef), (some 45, undef), (some 46, undef), (some 47, undef), (some 48, undef), (some 44, undef), (some 49, undef), (some 50,.bool false), (some 51,.bool false), (some 52, undef), (some 53, undef), (some 54, undef), (some 55, undef), (some 65, undef), (some 66, undef), (some 67, undef), (some 68, undef), (some 56, undef), (some 57, undef), (some 58, undef), (some 59, undef), (some 60, undef), (some 61, undef), (some 62, undef), (some 63, undef), (some 64, undef), (some 69, undef), (some 70,.bool false), (some 71,.bool false), (some 72, undef), (some 73, undef), (some 74, undef), (some 75, undef), (some 77, undef), (some 78, undef), (some 79, undef), (some 76, undef), (some 80, undef), (some 81,.bool false), (some 82,.bool false), (some 83, undef), (some 84, undef), (some 85, undef), (some 86, undef), (some 88, undef), (some 89, undef), (some 90, undef), (some 91, undef), (some 87, undef), (some 92, undef), (some 93,.bool false), (some 94,.bool false), (some 95, undef), (some 96, undef), (some 97, undef), (some 98, undef), (some 100, undef), (some 101, undef), (some 102, undef), (some 99, undef), (some 103, undef), (some 104,.bool false), (some 105,.bool false), (some 106, undef), (some 107, undef), (some 108, undef), (some 109, undef), (some 111, undef), (some 112, undef), (some 113, undef), (some 110, undef), (some 114, undef), (some 115,.bool false), (some 2,.bool false)] _ _ (by kernel_rfl) HC.out ?_
         simp only [putAll,pG,Act.put]
         have BE : Hid (Below w.heap.size w _) := HC.out.bel
         clear HC
         go_wp2
         go_ret
         rw [EV.out]
         exact ⟨by simp, BE.out⟩
       | true =>
         refine stk (o := ⟨some 38, .pick (.tmp 28) (.tmp 37) (.const (.bool false)), 4, "form.go:44", #[⟨17, .data⟩, ⟨26, .data⟩], none⟩) (v := .bool true) ?_
         simp only [pG,Act.put]
         refine stk (o := ⟨some 39, .move (.tmp 38), 4, "form.go:44", #[⟨27, .data⟩, ⟨26, .chain⟩], none⟩) (v := .bool true) ?_
         simp only [pG,Act.put]
         refine stk (o := ⟨some 40, .fieldAddr 122 (.tmp 3) 2, 0, "form.go:44", #[⟨28, .guard⟩], some (28, true)⟩) (v := .pointer (some ⟨g3, 2, none⟩)) ?_
         simp only [pG,Act.put]
         refine sty (o := ⟨some 41, .load 4 (.tmp 40), 4, "form.go:44", #[⟨29, .data⟩, ⟨28, .guard⟩], some (28, true)⟩) (v := .bool (fU k)) (Or.inl ⟨by kernel_rfl, fun W hW => by have q0 := hW.f2; go_simp⟩) ?_
         simp only [pG,Act.put]
         refine stk (o := ⟨some 42, .fieldAddr 60 (.tmp 1) 4, 0, "form.go:44", #[⟨28, .guard⟩], some (28, true)⟩) (v := .pointer (some ⟨g1, 6, none⟩)) ?_
         simp only [pG,Act.put]
         refine sty (o := ⟨some 43, .load 23 (.tmp 42), 23, "form.go:44", #[⟨31, .data⟩, ⟨28, .guard⟩], some (28, true)⟩) (v := .agg #[.int .i64 u0,.int .i64 u1,.int .i64 u2]) (Or.inl ⟨by kernel_rfl, fun W hW => by have q0 := hW.c6; have q1 := hW.c7; have q2 := hW.c8; go_simp⟩) ?_
         simp only [pG,Act.put]
         refine stk (o := ⟨some 45, .fieldAddr 60 (.tmp 1) 4, 0, "form.go:44", #[⟨28, .guard⟩], some (28, true)⟩) (v := .pointer (some ⟨g1, 6, none⟩)) ?_
         simp only [pG,Act.put]
         refine sty (o := ⟨some 46, .load 23 (.tmp 45), 23, "form.go:44", #[⟨34, .data⟩, ⟨28, .guard⟩], some (28, true)⟩) (v := .agg #[.int .i64 u0,.int .i64 u1,.int .i64 u2]) (Or.inl ⟨by kernel_rfl, fun W hW => by have q0 := hW.c6; have q1 := hW.c7; have q2 := hW.c8; go_simp⟩) ?_
         simp only [pG,Act.put]
         refine stk (o := ⟨some 47, .build 23 #[], 23, "form.go:44", #[⟨28, .guard⟩], some (28, true)⟩) (v := .agg #[.int .i64 0,.int .i64 0,.int .i64 0]) ?_
         simp only [pG,Act.put]
         refine sty (o := ⟨some 48, .binOp .eql 23 (.tmp 46) (.tmp 47) 23, 4, "form.go:44", #[⟨35, .data⟩, ⟨36, .data⟩, ⟨28, .guard⟩], some (28, true)⟩) (v := .bool z4) (Or.inl ⟨by kernel_rfl, fun W hW => by have q0 := Ez4; go_simp⟩) ?_
         simp only [pG,Act.put]
         refine seq_call (o := ⟨some 44, .call { callee := .value (.func 30), args := #[.tmp 43], argTypes := #[23] }, 4, "form.go:47", #[⟨32, .data⟩, ⟨28, .chain⟩, ⟨28, .guard⟩], some (28, true)⟩) (by kernel_rfl) (fun K hK => ?_)
         rw [if_pos (by kernel_rfl)]
         go_simp
         go_wp2_with (go_at_call 30; refine (goodId_n _ _ _ _).mono ?_; rintro e w133 ⟨rfl, h0⟩; rw [Hb4.out])
         have h9 : Below w104.heap.size w104 w133 := by rw [h0.out]; exact alloc1 _ _
         have HD := HC.out.below h9
         clear h0
         refine hK.out _ _ HD ?_
         clear hK K HC
         have HC : Hid (Fm w w133 g1 g3 k i0 i1 i2 bu ke u0 u1 u2 b0 b1 b2 sz et pt pa pn pc tm dy) := HD
         clear HD
         clear h9
         try simp only [pG,Act.put]
         refine seq_call (o := ⟨some 49, .call { callee := .value (.func 79), args := #[.tmp 41, .tmp 44, .tmp 48], argTypes := #[4, 4, 4] }, 4, "form.go:47", #[⟨30, .data⟩, ⟨33, .data⟩, ⟨37, .data⟩, ⟨33, .chain⟩, ⟨28, .guard⟩], some (28, true)⟩) (by kernel_rfl) (fun K hK => ?_)
         rw [if_pos (by kernel_rfl)]
         go_simp
         go_wp2_with (go_at_call 79; refine (goz_n _ _ _ _).mono ?_; rintro e w0 ⟨rfl, h0⟩; rw [h0, Hr4.out]; clear h0)
         refine hK.out _ _ HC.out ?_
         clear hK K
         try simp only [pG,Act.put]
         cases r4 with
         | false =>
           refine seq_plain (fun _ _ _ d _ h => by cases d <;> exact h) _ [(some 50,.bool false), (some 51,.bool false), (some 52, undef), (some 53, undef), (some 54, undef), (some 55, undef), (some 65, undef), (some 66, undef), (some 67, undef), (some 68, undef), (some 56, undef), (some 57, undef), (some 58, undef), (some 59, undef), (some 60, undef), (some 61, undef), (some 62, undef), (some 63, undef), (some 64, undef), (some 69, undef), (some 70,.bool false), (some 71,.bool false), (some 72, undef), (some 73, undef), (some 74, undef), (some 75, undef), (some 77, undef), (some 78, undef), (some 79, undef), (some 76, undef), (some 80, undef), (some 81,.bool false), (some 82,.bool false), (some 83, undef), (some 84, undef), (some 85, undef), (some 86, undef), (some 88, undef), (some 89, undef), (some 90, undef), (some 91, undef), (some 87, undef), (some 92, undef), (some 93,.bool false), (some 94,.bool false), (some 95, undef), (some 96, undef), (some 97, undef), (some 98, undef), (some 100, undef), (some 101, undef), (some 102, undef), (some 99, undef), (some 103, undef), (some 104,.bool false), (some 105,.bool false), (some 106, undef), (some 107, undef), (some 108, undef), (some 109, undef), (some 111, undef), (some 112, undef), (some 113, undef), (some 110, undef), (some 114, undef), (some 115,.bool false), (some 2,.bool false)] _ _ (by kernel_rfl) HC.out ?_
           simp only [putAll,pG,Act.put]
           have BE : Hid (Below w.heap.size w _) := HC.out.bel
           clear HC
           go_wp2
           go_ret
           rw [EV.out]
           exact ⟨by simp, BE.out⟩
         | true =>
           refine stk (o := ⟨some 50, .pick (.tmp 39) (.tmp 49) (.const (.bool false)), 4, "form.go:44", #[⟨28, .data⟩, ⟨38, .data⟩], none⟩) (v := .bool true) ?_
           simp only [pG,Act.put]
           refine stk (o := ⟨some 51, .move (.tmp 50), 4, "form.go:44", #[⟨39, .data⟩, ⟨38, .chain⟩], none⟩) (v := .bool true) ?_
           simp only [pG,Act.put]
           refine stk (o := ⟨some 52, .fieldAddr 122 (.tmp 3) 3, 0, "form.go:44", #[⟨40, .guard⟩], some (40, true)⟩) (v := .pointer (some ⟨g3, 3, none⟩)) ?_
           simp only [pG,Act.put]
           refine sty (o := ⟨some 53, .load 4 (.tmp 52), 4, "form.go:44", #[⟨41, .data⟩, ⟨40, .guard⟩], some (40, true)⟩) (v := .bool (fP k)) (Or.inl ⟨by kernel_rfl, fun W hW => by have q0 := hW.f3; go_simp⟩) ?_
           simp only [pG,Act.put]
           refine stk (o := ⟨some 54, .fieldAddr 60 (.tmp 1) 5, 0, "form.go:44", #[⟨40, .guard⟩], some (40, true)⟩) (v := .pointer (some ⟨g1, 9, none⟩)) ?_
           simp only [pG,Act.put]
           refine sty (o := ⟨some 55, .load 58 (.tmp 54), 58, "form.go:44", #[⟨43, .data⟩, ⟨40, .guard⟩], some (40, true)⟩) (v := .agg #[.int .i64 b0,.int .i64 b1,.int .i64 b2,.int .i64 sz,.string et]) (Or.inl ⟨by kernel_rfl, fun W hW => by have q0 := hW.c9; have q1 := hW.c10; have q2 := hW.c11; have q3 := hW.c12; have q4 := hW.c13; go_simp⟩) ?_
           simp only [pG,Act.put]
           refine stk (o := ⟨some 65, .fieldAddr 60 (.tmp 1) 5, 0, "form.go:44", #[⟨40, .guard⟩], some (40, true)⟩) (v := .pointer (some ⟨g1, 9, none⟩)) ?_
           simp only [pG,Act.put]
           refine sty (o := ⟨some 66, .load 58 (.tmp 65), 58, "form.go:44", #[⟨54, .data⟩, ⟨40, .guard⟩], some (40, true)⟩) (v := .agg #[.int .i64 b0,.int .i64 b1,.int .i64 b2,.int .i64 sz,.string et]) (Or.inl ⟨by kernel_rfl, fun W hW => by have q0 := hW.c9; have q1 := hW.c10; have q2 := hW.c11; have q3 := hW.c12; have q4 := hW.c13; go_simp⟩) ?_
           simp only [pG,Act.put]
           refine stk (o := ⟨some 67, .build 58 #[], 58, "form.go:44", #[⟨40, .guard⟩], some (40, true)⟩) (v := .agg #[.int .i64 0,.int .i64 0,.int .i64 0,.int .i64 0,.string ⟨#[]⟩]) ?_
           simp only [pG,Act.put]
           refine sty (o := ⟨some 68, .binOp .eql 58 (.tmp 66) (.tmp 67) 58, 4, "form.go:44", #[⟨55, .data⟩, ⟨56, .data⟩, ⟨40, .guard⟩], some (40, true)⟩) (v := .bool z5) (Or.inl ⟨by kernel_rfl, fun W hW => by have q0 := Ez5; go_simp⟩) ?_
           simp only [pG,Act.put]
           refine seq_call (o := ⟨some 56, .call { callee := .value (.func 82), args := #[.tmp 55], argTypes := #[58] }, 4, "form.go:48", #[⟨44, .data⟩, ⟨40, .chain⟩, ⟨40, .guard⟩], some (40, true)⟩) (by kernel_rfl) (fun K hK => ?_)
           rw [if_pos (by kernel_rfl)]
           go_simp
           go_wp2_with (go_at_call 82; refine (goodPiece_n _ _ _ _ _ _).mono ?_; rintro e w145 ⟨rfl, h0⟩; rw [Hb5.out])
           have HD := HC.out.below h0.out
           clear h0
           refine hK.out _ _ HD ?_
           clear hK K HC
           have HC : Hid (Fm w w145 g1 g3 k i0 i1 i2 bu ke u0 u1 u2 b0 b1 b2 sz et pt pa pn pc tm dy) := HD
           clear HD
           try simp only [pG,Act.put]
           cases b5 with
           | false =>
             rw [Bool.false_and] at Hr5
             refine stk (o := ⟨some 57, .move (.tmp 56), 4, "form.go:44", #[⟨45, .data⟩, ⟨45, .chain⟩, ⟨40, .guard⟩], some (40, true)⟩) (v := .bool false) ?_
             simp only [pG,Act.put]
             refine sty (o := ⟨some 58, .fieldAddr 60 (.tmp 1) 5, 0, "form.go:44", #[⟨46, .guard⟩], some (46, true)⟩) (v := undef) (Or.inr ⟨by kernel_rfl, rfl⟩) ?_
             simp only [pG,Act.put]
             refine sty (o := ⟨some 59, .fieldAddr 58 (.tmp 58) 0, 0, "form.go:44", #[⟨47, .data⟩, ⟨46, .guard⟩], some (46, true)⟩) (v := undef) (Or.inr ⟨by kernel_rfl, rfl⟩) ?_
             simp only [pG,Act.put]
             refine sty (o := ⟨some 60, .load 23 (.tmp 59), 23, "form.go:44", #[⟨48, .data⟩, ⟨46, .guard⟩], some (46, true)⟩) (v := undef) (Or.inr ⟨by kernel_rfl, rfl⟩) ?_
             simp only [pG,Act.put]
             refine sty (o := ⟨some 61, .fieldAddr 60 (.tmp 1) 1, 0, "form.go:44", #[⟨46, .guard⟩], some (46, true)⟩) (v := undef) (Or.inr ⟨by kernel_rfl, rfl⟩) ?_
             simp only [pG,Act.put]
             refine sty (o := ⟨some 62, .load 23 (.tmp 61), 23, "form.go:44", #[⟨50, .data⟩, ⟨46, .guard⟩], some (46, true)⟩) (v := undef) (Or.inr ⟨by kernel_rfl, rfl⟩) ?_
             simp only [pG,Act.put]
             refine sty (o := ⟨some 63, .binOp .eql 23 (.tmp 60) (.tmp 62) 23, 4, "form.go:44", #[⟨49, .data⟩, ⟨51, .data⟩, ⟨46, .guard⟩], some (46, true)⟩) (v := undef) (Or.inr ⟨by kernel_rfl, rfl⟩) ?_
             simp only [pG,Act.put]
             refine stk (o := ⟨some 64, .pick (.tmp 57) (.tmp 63) (.const (.bool false)), 4, "form.go:44", #[⟨46, .data⟩, ⟨52, .data⟩, ⟨40, .guard⟩], some (40, true)⟩) (v := .bool false) ?_
             simp only [pG,Act.put]
             refine seq_call (o := ⟨some 69, .call { callee := .value (.func 79), args := #[.tmp 53, .tmp 64, .tmp 68], argTypes := #[4, 4, 4] }, 4, "form.go:48", #[⟨42, .data⟩, ⟨53, .data⟩, ⟨57, .data⟩, ⟨46, .chain⟩, ⟨40, .guard⟩], some (40, true)⟩) (by kernel_rfl) (fun K hK => ?_)
             rw [if_pos (by kernel_rfl)]
             go_simp
             go_wp2_with (go_at_call 79; refine (goz_n _ _ _ _).mono ?_; rintro e w0 ⟨rfl, h0⟩; rw [h0, Hr5.out]; clear h0)
             refine hK.out _ _ HC.out ?_
             clear hK K
             try simp only [pG,Act.put]
             cases r5 with
             | false =>
               refine seq_plain (fun _ _ _ d _ h => by cases d <;> exact h) _ [(some 70,.bool false), (some 71,.bool false), (some 72, undef), (some 73, undef), (some 74, undef), (some 75, undef), (some 77, undef), (some 78, undef), (some 79, undef), (some 76, undef), (some 80, undef), (some 81,.bool false), (some 82,.bool false), (some 83, undef), (some 84, undef), (some 85, undef), (some 86, undef), (some 88, undef), (some 89, undef), (some 90, undef), (some 91, undef), (some 87, undef), (some 92, undef), (some 93,.bool false), (some 94,.bool false), (some 95, undef), (some 96, undef), (some 97, undef), (some 98, undef), (some 100, undef), (some 101, undef), (some 102, undef), (some 99, undef), (some 103, undef), (some 104,.bool false), (some 105,.bool false), (some 106, undef), (some 107, undef), (some 108, undef), (some 109, undef), (some 111, undef), (some 112, undef), (some 113, undef), (some 110, undef), (some 114, undef), (some 115,.bool false), (some 2,.bool false)] _ _ (by kernel_rfl) HC.out ?_
               simp only [putAll,pG,Act.put]
               have BE : Hid (Below w.heap.size w _) := HC.out.bel
               clear HC
               go_wp2
               go_ret
               rw [EV.out]
               exact ⟨by simp, BE.out⟩
             | true =>
               refine stk (o := ⟨some 70, .pick (.tmp 51) (.tmp 69) (.const (.bool false)), 4, "form.go:44", #[⟨40, .data⟩, ⟨58, .data⟩], none⟩) (v := .bool true) ?_
               simp only [pG,Act.put]
               refine stk (o := ⟨some 71, .move (.tmp 70), 4, "form.go:44", #[⟨59, .data⟩, ⟨58, .chain⟩], none⟩) (v := .bool true) ?_
               simp only [pG,Act.put]
               refine stk (o := ⟨some 72, .fieldAddr 122 (.tmp 3) 4, 0, "form.go:44", #[⟨60, .guard⟩], some (60, true)⟩) (v := .pointer (some ⟨g3, 4, none⟩)) ?_
               simp only [pG,Act.put]
               refine sty (o := ⟨some 73, .load 4 (.tmp 72), 4, "form.go:44", #[⟨61, .data⟩, ⟨60, .guard⟩], some (60, true)⟩) (v := .bool (fT k)) (Or.inl ⟨by kernel_rfl, fun W hW => by have q0 := hW.f4; go_simp⟩) ?_
               simp only [pG,Act.put]
               refine stk (o := ⟨some 74, .fieldAddr 60 (.tmp 1) 6, 0, "form.go:44", #[⟨60, .guard⟩], some (60, true)⟩) (v := .pointer (some ⟨g1, 14, none⟩)) ?_
               simp only [pG,Act.put]
               refine sty (o := ⟨some 75, .load 3 (.tmp 74), 3, "form.go:44", #[⟨63, .data⟩, ⟨60, .guard⟩], some (60, true)⟩) (v := .int .i64 pt) (Or.inl ⟨by kernel_rfl, fun W hW => by have q0 := hW.c14; go_simp⟩) ?_
               simp only [pG,Act.put]
               refine stk (o := ⟨some 77, .fieldAddr 60 (.tmp 1) 6, 0, "form.go:44", #[⟨60, .guard⟩], some (60, true)⟩) (v := .pointer (some ⟨g1, 14, none⟩)) ?_
               simp only [pG,Act.put]
               refine sty (o := ⟨some 78, .load 3 (.tmp 77), 3, "form.go:44", #[⟨66, .data⟩, ⟨60, .guard⟩], some (60, true)⟩) (v := .int .i64 pt) (Or.inl ⟨by kernel_rfl, fun W hW => by have q0 := hW.c14; go_simp⟩) ?_
               simp only [pG,Act.put]
               refine sty (o := ⟨some 79, .binOp .eql 3 (.tmp 78) (.const (.int .i64 0)) 3, 4, "form.go:44", #[⟨67, .data⟩, ⟨60, .guard⟩], some (60, true)⟩) (v := .bool z6) (Or.inl ⟨by kernel_rfl, fun W hW => by have q0 := Ez6; go_simp; try (first | exact Dz6 | exact Dz6')⟩) ?_
               simp only [pG,Act.put]
               refine seq_call (o := ⟨some 76, .call { callee := .value (.func 83), args := #[.tmp 75], argTypes := #[3] }, 4, "form.go:49", #[⟨64, .data⟩, ⟨60, .chain⟩, ⟨60, .guard⟩], some (60, true)⟩) (by kernel_rfl) (fun K hK => ?_)
               rw [if_pos (by kernel_rfl)]
               go_simp
               go_wp2_with (go_at_call 83; refine (isPart_n _ _).mono ?_; rintro e w0 ⟨rfl, h0⟩; rw [h0, Hb6.out]; clear h0)
               refine hK.out _ _ HC.out ?_
               clear hK K
               try simp only [pG,Act.put]
               refine seq_call (o := ⟨some 80, .call { callee := .value (.func 79), args := #[.tmp 73, .tmp 76, .tmp 79], argTypes := #[4, 4, 4] }, 4, "form.go:49", #[⟨62, .data⟩, ⟨65, .data⟩, ⟨68, .data⟩, ⟨65, .chain⟩, ⟨60, .guard⟩], some (60, true)⟩) (by kernel_rfl) (fun K hK => ?_)
               rw [if_pos (by kernel_rfl)]
               go_simp
               go_wp2_with (go_at_call 79; refine (goz_n _ _ _ _).mono ?_; rintro e w0 ⟨rfl, h0⟩; rw [h0, Hr6.out]; clear h0)
               refine hK.out _ _ HC.out ?_
               clear hK K
               try simp only [pG,Act.put]
               cases r6 with
               | false =>
                 refine seq_plain (fun _ _ _ d _ h => by cases d <;> exact h) _ [(some 81,.bool false), (some 82,.bool false), (some 83, undef), (some 84, undef), (some 85, undef), (some 86, undef), (some 88, undef), (some 89, undef), (some 90, undef), (some 91, undef), (some 87, undef), (some 92, undef), (some 93,.bool false), (some 94,.bool false), (some 95, undef), (some 96, undef), (some 97, undef), (some 98, undef), (some 100, undef), (some 101, undef), (some 102, undef), (some 99, undef), (some 103, undef), (some 104,.bool false), (some 105,.bool false), (some 106, undef), (some 107, undef), (some 108, undef), (some 109, undef), (some 111, undef), (some 112, undef), (some 113, undef), (some 110, undef), (some 114, undef), (some 115,.bool false), (some 2,.bool false)] _ _ (by kernel_rfl) HC.out ?_
                 simp only [putAll,pG,Act.put]
                 have BE : Hid (Below w.heap.size w _) := HC.out.bel
                 clear HC
                 go_wp2
                 go_ret
                 rw [EV.out]
                 exact ⟨by simp, BE.out⟩
               | true =>
                 refine stk (o := ⟨some 81, .pick (.tmp 71) (.tmp 80) (.const (.bool false)), 4, "form.go:44", #[⟨60, .data⟩, ⟨69, .data⟩], none⟩) (v := .bool true) ?_
                 simp only [pG,Act.put]
                 refine stk (o := ⟨some 82, .move (.tmp 81), 4, "form.go:44", #[⟨70, .data⟩, ⟨69, .chain⟩], none⟩) (v := .bool true) ?_
                 simp only [pG,Act.put]
                 refine stk (o := ⟨some 83, .fieldAddr 122 (.tmp 3) 5, 0, "form.go:44", #[⟨71, .guard⟩], some (71, true)⟩) (v := .pointer (some ⟨g3, 5, none⟩)) ?_
                 simp only [pG,Act.put]
                 refine sty (o := ⟨some 84, .load 4 (.tmp 83), 4, "form.go:44", #[⟨72, .data⟩, ⟨71, .guard⟩], some (71, true)⟩) (v := .bool (fS k)) (Or.inl ⟨by kernel_rfl, fun W hW => by have q0 := hW.f5; go_simp⟩) ?_
                 simp only [pG,Act.put]
                 refine stk (o := ⟨some 85, .fieldAddr 60 (.tmp 1) 7, 0, "form.go:44", #[⟨71, .guard⟩], some (71, true)⟩) (v := .pointer (some ⟨g1, 15, none⟩)) ?_
                 simp only [pG,Act.put]
                 refine sty (o := ⟨some 86, .load 55 (.tmp 85), 55, "form.go:44", #[⟨74, .data⟩, ⟨71, .guard⟩], some (71, true)⟩) (v := .slice pa pn pc) (Or.inl ⟨by kernel_rfl, fun W hW => by have q0 := hW.c15; go_simp⟩) ?_
                 simp only [pG,Act.put]
                 refine stk (o := ⟨some 88, .fieldAddr 60 (.tmp 1) 7, 0, "form.go:44", #[⟨71, .guard⟩], some (71, true)⟩) (v := .pointer (some ⟨g1, 15, none⟩)) ?_
                 simp only [pG,Act.put]
                 refine sty (o := ⟨some 89, .load 55 (.tmp 88), 55, "form.go:44", #[⟨77, .data⟩, ⟨71, .guard⟩], some (71, true)⟩) (v := .slice pa pn pc) (Or.inl ⟨by kernel_rfl, fun W hW => by have q0 := hW.c15; go_simp⟩) ?_
                 simp only [pG,Act.put]
                 refine stk (o := ⟨some 90, .call { callee := .builtin .len, args := #[.tmp 89], argTypes := #[55] }, 3, "form.go:44", #[⟨78, .data⟩, ⟨71, .guard⟩], some (71, true)⟩) (v := .int .i64 (pn : Int)) ?_
                 simp only [pG,Act.put]
                 refine sty (o := ⟨some 91, .binOp .eql 3 (.tmp 90) (.const (.int .i64 0)) 3, 4, "form.go:44", #[⟨79, .data⟩, ⟨71, .guard⟩], some (71, true)⟩) (v := .bool z7) (Or.inl ⟨by kernel_rfl, fun W hW => by have q0 := Ez7; go_simp; try (first | exact Dz7 | exact Dz7')⟩) ?_
                 simp only [pG,Act.put]
                 refine seq_call (o := ⟨some 87, .call { callee := .value (.func 84), args := #[.tmp 86], argTypes := #[55] }, 4, "form.go:50", #[⟨75, .data⟩, ⟨71, .chain⟩, ⟨71, .guard⟩], some (71, true)⟩) (by kernel_rfl) (fun K hK => ?_)
                 rw [if_pos (by kernel_rfl)]
                 go_simp
                 have HI : Hid (Irow _ 0 pa pn ps) := hI.out.keep HC.out.bel.size (fun q _ hq => HC.out.bel.block q hq)
                 go_wp2_with (go_at_call 84; refine (goodParts_n HI).mono ?_; rintro e w0 ⟨rfl, h0⟩; rw [h0, Hb7.out]; clear h0)
                 refine hK.out _ _ HC.out ?_
                 clear hK K
                 try simp only [pG,Act.put]
                 refine seq_call (o := ⟨some 92, .call { callee := .value (.func 79), args := #[.tmp 84, .tmp 87, .tmp 91], argTypes := #[4, 4, 4] }, 4, "form.go:50", #[⟨73, .data⟩, ⟨76, .data⟩, ⟨80, .data⟩, ⟨76, .chain⟩, ⟨71, .guard⟩], some (71, true)⟩) (by kernel_rfl) (fun K hK => ?_)
                 rw [if_pos (by kernel_rfl)]
                 go_simp
                 go_wp2_with (go_at_call 79; refine (goz_n _ _ _ _).mono ?_; rintro e w0 ⟨rfl, h0⟩; rw [h0, Hr7.out]; clear h0)
                 refine hK.out _ _ HC.out ?_
                 clear hK K
                 try simp only [pG,Act.put]
                 cases r7 with
                 | false =>
                   refine seq_plain (fun _ _ _ d _ h => by cases d <;> exact h) _ [(some 93,.bool false), (some 94,.bool false), (some 95, undef), (some 96, undef), (some 97, undef), (some 98, undef), (some 100, undef), (some 101, undef), (some 102, undef), (some 99, undef), (some 103, undef), (some 104,.bool false), (some 105,.bool false), (some 106, undef), (some 107, undef), (some 108, undef), (some 109, undef), (some 111, undef), (some 112, undef), (some 113, undef), (some 110, undef), (some 114, undef), (some 115,.bool false), (some 2,.bool false)] _ _ (by kernel_rfl) HC.out ?_
                   simp only [putAll,pG,Act.put]
                   have BE : Hid (Below w.heap.size w _) := HC.out.bel
                   clear HC
                   go_wp2
                   go_ret
                   rw [EV.out]
                   exact ⟨by simp, BE.out⟩
                 | true =>
                   refine stk (o := ⟨some 93, .pick (.tmp 82) (.tmp 92) (.const (.bool false)), 4, "form.go:44", #[⟨71, .data⟩, ⟨81, .data⟩], none⟩) (v := .bool true) ?_
                   simp only [pG,Act.put]
                   refine stk (o := ⟨some 94, .move (.tmp 93), 4, "form.go:44", #[⟨82, .data⟩, ⟨81, .chain⟩], none⟩) (v := .bool true) ?_
                   simp only [pG,Act.put]
                   refine stk (o := ⟨some 95, .fieldAddr 122 (.tmp 3) 6, 0, "form.go:44", #[⟨83, .guard⟩], some (83, true)⟩) (v := .pointer (some ⟨g3, 6, none⟩)) ?_
                   simp only [pG,Act.put]
                   refine sty (o := ⟨some 96, .load 4 (.tmp 95), 4, "form.go:44", #[⟨84, .data⟩, ⟨83, .guard⟩], some (83, true)⟩) (v := .bool (fM k)) (Or.inl ⟨by kernel_rfl, fun W hW => by have q0 := hW.f6; go_simp⟩) ?_
                   simp only [pG,Act.put]
                   refine stk (o := ⟨some 97, .fieldAddr 60 (.tmp 1) 8, 0, "form.go:44", #[⟨83, .guard⟩], some (83, true)⟩) (v := .pointer (some ⟨g1, 16, none⟩)) ?_
                   simp only [pG,Act.put]
                   refine sty (o := ⟨some 98, .load 3 (.tmp 97), 3, "form.go:44", #[⟨86, .data⟩, ⟨83, .guard⟩], some (83, true)⟩) (v := .int .i64 tm) (Or.inl ⟨by kernel_rfl, fun W hW => by have q0 := hW.c16; go_simp⟩) ?_
                   simp only [pG,Act.put]
                   refine stk (o := ⟨some 100, .fieldAddr 60 (.tmp 1) 8, 0, "form.go:44", #[⟨83, .guard⟩], some (83, true)⟩) (v := .pointer (some ⟨g1, 16, none⟩)) ?_
                   simp only [pG,Act.put]
                   refine sty (o := ⟨some 101, .load 3 (.tmp 100), 3, "form.go:44", #[⟨89, .data⟩, ⟨83, .guard⟩], some (83, true)⟩) (v := .int .i64 tm) (Or.inl ⟨by kernel_rfl, fun W hW => by have q0 := hW.c16; go_simp⟩) ?_
                   simp only [pG,Act.put]
                   refine sty (o := ⟨some 102, .binOp .eql 3 (.tmp 101) (.const (.int .i64 0)) 3, 4, "form.go:44", #[⟨90, .data⟩, ⟨83, .guard⟩], some (83, true)⟩) (v := .bool z8) (Or.inl ⟨by kernel_rfl, fun W hW => by have q0 := Ez8; go_simp; try (first | exact Dz8 | exact Dz8')⟩) ?_
                   simp only [pG,Act.put]
                   refine seq_call (o := ⟨some 99, .call { callee := .value (.func 53), args := #[.tmp 98], argTypes := #[3] }, 4, "form.go:51", #[⟨87, .data⟩, ⟨83, .chain⟩, ⟨83, .guard⟩], some (83, true)⟩) (by kernel_rfl) (fun K hK => ?_)
                   rw [if_pos (by kernel_rfl)]
                   go_simp
                   go_wp2_with (go_at_call 53; refine (isTime_n _ _).mono ?_; rintro e w0 ⟨rfl, h0⟩; rw [h0, Hb8.out]; clear h0)
                   refine hK.out _ _ HC.out ?_
                   clear hK K
                   try simp only [pG,Act.put]
                   refine seq_call (o := ⟨some 103, .call { callee := .value (.func 79), args := #[.tmp 96, .tmp 99, .tmp 102], argTypes := #[4, 4, 4] }, 4, "form.go:51", #[⟨85, .data⟩, ⟨88, .data⟩, ⟨91, .data⟩, ⟨88, .chain⟩, ⟨83, .guard⟩], some (83, true)⟩) (by kernel_rfl) (fun K hK => ?_)
                   rw [if_pos (by kernel_rfl)]
                   go_simp
                   go_wp2_with (go_at_call 79; refine (goz_n _ _ _ _).mono ?_; rintro e w0 ⟨rfl, h0⟩; rw [h0, Hr8.out]; clear h0)
                   refine hK.out _ _ HC.out ?_
                   clear hK K
                   try simp only [pG,Act.put]
                   cases r8 with
                   | false =>
                     refine seq_plain (fun _ _ _ d _ h => by cases d <;> exact h) _ [(some 104,.bool false), (some 105,.bool false), (some 106, undef), (some 107, undef), (some 108, undef), (some 109, undef), (some 111, undef), (some 112, undef), (some 113, undef), (some 110, undef), (some 114, undef), (some 115,.bool false), (some 2,.bool false)] _ _ (by kernel_rfl) HC.out ?_
                     simp only [putAll,pG,Act.put]
                     have BE : Hid (Below w.heap.size w _) := HC.out.bel
                     clear HC
                     go_wp2
                     go_ret
                     rw [EV.out]
                     exact ⟨by simp, BE.out⟩
                   | true =>
                     refine stk (o := ⟨some 104, .pick (.tmp 94) (.tmp 103) (.const (.bool false)), 4, "form.go:44", #[⟨83, .data⟩, ⟨92, .data⟩], none⟩) (v := .bool true) ?_
                     simp only [pG,Act.put]
                     refine stk (o := ⟨some 105, .move (.tmp 104), 4, "form.go:44", #[⟨93, .data⟩, ⟨92, .chain⟩], none⟩) (v := .bool true) ?_
                     simp only [pG,Act.put]
                     refine stk (o := ⟨some 106, .fieldAddr 122 (.tmp 3) 7, 0, "form.go:44", #[⟨94, .guard⟩], some (94, true)⟩) (v := .pointer (some ⟨g3, 7, none⟩)) ?_
                     simp only [pG,Act.put]
                     refine sty (o := ⟨some 107, .load 4 (.tmp 106), 4, "form.go:44", #[⟨95, .data⟩, ⟨94, .guard⟩], some (94, true)⟩) (v := .bool (fD k)) (Or.inl ⟨by kernel_rfl, fun W hW => by have q0 := hW.f7; go_simp⟩) ?_
                     simp only [pG,Act.put]
                     refine stk (o := ⟨some 108, .fieldAddr 60 (.tmp 1) 9, 0, "form.go:44", #[⟨94, .guard⟩], some (94, true)⟩) (v := .pointer (some ⟨g1, 17, none⟩)) ?_
                     simp only [pG,Act.put]
                     refine sty (o := ⟨some 109, .load 3 (.tmp 108), 3, "form.go:44", #[⟨97, .data⟩, ⟨94, .guard⟩], some (94, true)⟩) (v := .int .i64 dy) (Or.inl ⟨by kernel_rfl, fun W hW => by have q0 := hW.c17; go_simp⟩) ?_
                     simp only [pG,Act.put]
                     refine stk (o := ⟨some 111, .fieldAddr 60 (.tmp 1) 9, 0, "form.go:44", #[⟨94, .guard⟩], some (94, true)⟩) (v := .pointer (some ⟨g1, 17, none⟩)) ?_
                     simp only [pG,Act.put]
                     refine sty (o := ⟨some 112, .load 3 (.tmp 111), 3, "form.go:44", #[⟨100, .data⟩, ⟨94, .guard⟩], some (94, true)⟩) (v := .int .i64 dy) (Or.inl ⟨by kernel_rfl, fun W hW => by have q0 := hW.c17; go_simp⟩) ?_
                     simp only [pG,Act.put]
                     refine sty (o := ⟨some 113, .binOp .eql 3 (.tmp 112) (.const (.int .i64 0)) 3, 4, "form.go:44", #[⟨101, .data⟩, ⟨94, .guard⟩], some (94, true)⟩) (v := .bool z9) (Or.inl ⟨by kernel_rfl, fun W hW => by have q0 := Ez9; go_simp; try (first | exact Dz9 | exact Dz9')⟩) ?_
                     simp only [pG,Act.put]
                     refine seq_call (o := ⟨some 110, .call { callee := .value (.func 53), args := #[.tmp 109], argTypes := #[3] }, 4, "form.go:52", #[⟨98, .data⟩, ⟨94, .chain⟩, ⟨94, .guard⟩], some (94, true)⟩) (by kernel_rfl) (fun K hK => ?_)
                     rw [if_pos (by kernel_rfl)]
                     go_simp
                     go_wp2_with (go_at_call 53; refine (isTime_n _ _).mono ?_; rintro e w0 ⟨rfl, h0⟩; rw [h0, Hb9.out]; clear h0)
                     refine hK.out _ _ HC.out ?_
                     clear hK K
                     try simp only [pG,Act.put]
                     refine seq_call (o := ⟨some 114, .call { callee := .value (.func 79), args := #[.tmp 107, .tmp 110, .tmp 113], argTypes := #[4, 4, 4] }, 4, "form.go:52", #[⟨96, .data⟩, ⟨99, .data⟩, ⟨102, .data⟩, ⟨99, .chain⟩, ⟨94, .guard⟩], some (94, true)⟩) (by kernel_rfl) (fun K hK => ?_)
                     rw [if_pos (by kernel_rfl)]
                     go_simp
                     go_wp2_with (go_at_call 79; refine (goz_n _ _ _ _).mono ?_; rintro e w0 ⟨rfl, h0⟩; rw [h0, Hr9.out]; clear h0)
                     refine hK.out _ _ HC.out ?_
                     clear hK K
                     try simp only [pG,Act.put]
                     cases r9 with
                     | false =>
                       refine seq_plain (fun _ _ _ d _ h => by cases d <;> exact h) _ [(some 115,.bool false), (some 2,.bool false)] _ _ (by kernel_rfl) HC.out ?_
                       simp only [putAll,pG,Act.put]
                       have BE : Hid (Below w.heap.size w _) := HC.out.bel
                       clear HC
                       go_wp2
                       go_ret
                       rw [EV.out]
                       exact ⟨by simp, BE.out⟩
                     | true =>
                       refine stk (o := ⟨some 115, .pick (.tmp 105) (.tmp 114) (.const (.bool false)), 4, "form.go:44", #[⟨94, .data⟩, ⟨103, .data⟩], none⟩) (v := .bool true) ?_
                       simp only [pG,Act.put]
                       refine stk (o := ⟨some 2, .assign (.tmp 115), 4, "form.go:44", ([⟨104, .data⟩, ⟨103, .chain⟩, ⟨0, .phase⟩, ⟨1, .phase⟩, ⟨2, .phase⟩, ⟨3, .phase⟩, ⟨4, .phase⟩, ⟨5, .phase⟩, ⟨6, .phase⟩, ⟨7, .phase⟩, ⟨8, .phase⟩, ⟨9, .phase⟩, ⟨10, .phase⟩, ⟨11, .phase⟩, ⟨12, .phase⟩, ⟨13, .phase⟩, ⟨14, .phase⟩, ⟨15, .phase⟩, ⟨16, .phase⟩, ⟨17, .phase⟩, ⟨18, .phase⟩, ⟨19, .phase⟩, ⟨20, .phase⟩, ⟨21, .phase⟩, ⟨22, .phase⟩, ⟨23, .phase⟩, ⟨24, .phase⟩, ⟨25, .phase⟩, ⟨26, .phase⟩, ⟨27, .phase⟩, ⟨28, .phase⟩, ⟨29, .phase⟩, ⟨30, .phase⟩, ⟨31, .phase⟩, ⟨32, .phase⟩, ⟨33, .phase⟩, ⟨34, .phase⟩, ⟨35, .phase⟩, ⟨36, .phase⟩, ⟨37, .phase⟩, ⟨38, .phase⟩, ⟨39, .phase⟩, ⟨40, .phase⟩, ⟨41, .phase⟩, ⟨42, .phase⟩, ⟨43, .phase⟩, ⟨44, .phase⟩, ⟨45, .phase⟩, ⟨46, .phase⟩, ⟨47, .phase⟩, ⟨48, .phase⟩, ⟨49, .phase⟩, ⟨50, .phase⟩].append [⟨51, .phase⟩, ⟨52, .phase⟩, ⟨53, .phase⟩, ⟨54, .phase⟩, ⟨55, .phase⟩, ⟨56, .phase⟩, ⟨57, .phase⟩, ⟨58, .phase⟩, ⟨59, .phase⟩, ⟨60, .phase⟩, ⟨61, .phase⟩, ⟨62, .phase⟩, ⟨63, .phase⟩, ⟨64, .phase⟩, ⟨65, .phase⟩, ⟨66, .phase⟩, ⟨67, .phase⟩, ⟨68, .phase⟩, ⟨69, .phase⟩, ⟨70, .phase⟩, ⟨71, .phase⟩, ⟨72, .phase⟩, ⟨73, .phase⟩, ⟨74, .phase⟩, ⟨75, .phase⟩, ⟨76, .phase⟩, ⟨77, .phase⟩, ⟨78, .phase⟩, ⟨79, .phase⟩, ⟨80, .phase⟩, ⟨81, .phase⟩, ⟨82, .phase⟩, ⟨83, .phase⟩, ⟨84, .phase⟩, ⟨85, .phase⟩, ⟨86, .phase⟩, ⟨87, .phase⟩, ⟨88, .phase⟩, ⟨89, .phase⟩, ⟨90, .phase⟩, ⟨91, .phase⟩, ⟨92, .phase⟩, ⟨93, .phase⟩, ⟨94, .phase⟩, ⟨95, .phase⟩, ⟨96, .phase⟩, ⟨97, .phase⟩, ⟨98, .phase⟩, ⟨99, .phase⟩, ⟨100, .phase⟩, ⟨101, .phase⟩, ⟨102, .phase⟩, ⟨103, .phase⟩, ⟨104, .phase⟩]).toArray, none⟩) (v := .bool true) ?_
                       simp only [pG,Act.put]
                       show (Exit.then _ _) .normal _ _
                       have BE : Hid (Below w.heap.size w _) := HC.out.bel
                       clear HC
                       go_wp2
                       go_ret
                       rw [EV.out]
                       exact ⟨by simp, BE.out⟩
           | true =>
             rw [Bool.true_and] at Hr5
             refine stk (o := ⟨some 57, .move (.tmp 56), 4, "form.go:44", #[⟨45, .data⟩, ⟨45, .chain⟩, ⟨40, .guard⟩], some (40, true)⟩) (v := .bool true) ?_
             simp only [pG,Act.put]
             refine stk (o := ⟨some 58, .fieldAddr 60 (.tmp 1) 5, 0, "form.go:44", #[⟨46, .guard⟩], some (46, true)⟩) (v := .pointer (some ⟨g1, 9, none⟩)) ?_
             simp only [pG,Act.put]
             refine stk (o := ⟨some 59, .fieldAddr 58 (.tmp 58) 0, 0, "form.go:44", #[⟨47, .data⟩, ⟨46, .guard⟩], some (46, true)⟩) (v := .pointer (some ⟨g1, 9, none⟩)) ?_
             simp only [pG,Act.put]
             refine sty (o := ⟨some 60, .load 23 (.tmp 59), 23, "form.go:44", #[⟨48, .data⟩, ⟨46, .guard⟩], some (46, true)⟩) (v := .agg #[.int .i64 b0,.int .i64 b1,.int .i64 b2]) (Or.inl ⟨by kernel_rfl, fun W hW => by have q0 := hW.c9; have q1 := hW.c10; have q2 := hW.c11; go_simp⟩) ?_
             simp only [pG,Act.put]
             refine stk (o := ⟨some 61, .fieldAddr 60 (.tmp 1) 1, 0, "form.go:44", #[⟨46, .guard⟩], some (46, true)⟩) (v := .pointer (some ⟨g1, 1, none⟩)) ?_
             simp only [pG,Act.put]
             refine sty (o := ⟨some 62, .load 23 (.tmp 61), 23, "form.go:44", #[⟨50, .data⟩, ⟨46, .guard⟩], some (46, true)⟩) (v := .agg #[.int .i64 i0,.int .i64 i1,.int .i64 i2]) (Or.inl ⟨by kernel_rfl, fun W hW => by have q0 := hW.c1; have q1 := hW.c2; have q2 := hW.c3; go_simp⟩) ?_
             simp only [pG,Act.put]
             refine sty (o := ⟨some 63, .binOp .eql 23 (.tmp 60) (.tmp 62) 23, 4, "form.go:44", #[⟨49, .data⟩, ⟨51, .data⟩, ⟨46, .guard⟩], some (46, true)⟩) (v := .bool ze) (Or.inl ⟨by kernel_rfl, fun W hW => by have q0 := Eze; go_simp⟩) ?_
             simp only [pG,Act.put]
             refine stk (o := ⟨some 64, .pick (.tmp 57) (.tmp 63) (.const (.bool false)), 4, "form.go:44", #[⟨46, .data⟩, ⟨52, .data⟩, ⟨40, .guard⟩], some (40, true)⟩) (v := .bool ze) ?_
             simp only [pG,Act.put]
             refine seq_call (o := ⟨some 69, .call { callee := .value (.func 79), args := #[.tmp 53, .tmp 64, .tmp 68], argTypes := #[4, 4, 4] }, 4, "form.go:48", #[⟨42, .data⟩, ⟨53, .data⟩, ⟨57, .data⟩, ⟨46, .chain⟩, ⟨40, .guard⟩], some (40, true)⟩) (by kernel_rfl) (fun K hK => ?_)
             rw [if_pos (by kernel_rfl)]
             go_simp
             go_wp2_with (go_at_call 79; refine (goz_n _ _ _ _).mono ?_; rintro e w0 ⟨rfl, h0⟩; rw [h0, Hr5.out]; clear h0)
             refine hK.out _ _ HC.out ?_
             clear hK K
             try simp only [pG,Act.put]
             cases r5 with
             | false =>
               refine seq_plain (fun _ _ _ d _ h => by cases d <;> exact h) _ [(some 70,.bool false), (some 71,.bool false), (some 72, undef), (some 73, undef), (some 74, undef), (some 75, undef), (some 77, undef), (some 78, undef), (some 79, undef), (some 76, undef), (some 80, undef), (some 81,.bool false), (some 82,.bool false), (some 83, undef), (some 84, undef), (some 85, undef), (some 86, undef), (some 88, undef), (some 89, undef), (some 90, undef), (some 91, undef), (some 87, undef), (some 92, undef), (some 93,.bool false), (some 94,.bool false), (some 95, undef), (some 96, undef), (some 97, undef), (some 98, undef), (some 100, undef), (some 101, undef), (some 102, undef), (some 99, undef), (some 103, undef), (some 104,.bool false), (some 105,.bool false), (some 106, undef), (some 107, undef), (some 108, undef), (some 109, undef), (some 111, undef), (some 112, undef), (some 113, undef), (some 110, undef), (some 114, undef), (some 115,.bool false), (some 2,.bool false)] _ _ (by kernel_rfl) HC.out ?_
               simp only [putAll,pG,Act.put]
               have BE : Hid (Below w.heap.size w _) := HC.out.bel
               clear HC
               go_wp2
               go_ret
               rw [EV.out]
               exact ⟨by simp, BE.out⟩
             | true =>
               refine stk (o := ⟨some 70, .pick (.tmp 51) (.tmp 69) (.const (.bool false)), 4, "form.go:44", #[⟨40, .data⟩, ⟨58, .data⟩], none⟩) (v := .bool true) ?_
               simp only [pG,Act.put]
               refine stk (o := ⟨some 71, .move (.tmp 70), 4, "form.go:44", #[⟨59, .data⟩, ⟨58, .chain⟩], none⟩) (v := .bool true) ?_
               simp only [pG,Act.put]
               refine stk (o := ⟨some 72, .fieldAddr 122 (.tmp 3) 4, 0, "form.go:44", #[⟨60, .guard⟩], some (60, true)⟩) (v := .pointer (some ⟨g3, 4, none⟩)) ?_
               simp only [pG,Act.put]
               refine sty (o := ⟨some 73, .load 4 (.tmp 72), 4, "form.go:44", #[⟨61, .data⟩, ⟨60, .guard⟩], some (60, true)⟩) (v := .bool (fT k)) (Or.inl ⟨by kernel_rfl, fun W hW => by have q0 := hW.f4; go_simp⟩) ?_
               simp only [pG,Act.put]
               refine stk (o := ⟨some 74, .fieldAddr 60 (.tmp 1) 6, 0, "form.go:44", #[⟨60, .guard⟩], some (60, true)⟩) (v := .pointer (some ⟨g1, 14, none⟩)) ?_
               simp only [pG,Act.put]
               refine sty (o := ⟨some 75, .load 3 (.tmp 74), 3, "form.go:44", #[⟨63, .data⟩, ⟨60, .guard⟩], some (60, true)⟩) (v := .int .i64 pt) (Or.inl ⟨by kernel_rfl, fun W hW => by have q0 := hW.c14; go_simp⟩) ?_
               simp only [pG,Act.put]
               refine stk (o := ⟨some 77, .fieldAddr 60 (.tmp 1) 6, 0, "form.go:44", #[⟨60, .guard⟩], some (60, true)⟩) (v := .pointer (some ⟨g1, 14, none⟩)) ?_
               simp only [pG,Act.put]
               refine sty (o := ⟨some 78, .load 3 (.tmp 77), 3, "form.go:44", #[⟨66, .data⟩, ⟨60, .guard⟩], some (60, true)⟩) (v := .int .i64 pt) (Or.inl ⟨by kernel_rfl, fun W hW => by have q0 := hW.c14; go_simp⟩) ?_
               simp only [pG,Act.put]
               refine sty (o := ⟨some 79, .binOp .eql 3 (.tmp 78) (.const (.int .i64 0)) 3, 4, "form.go:44", #[⟨67, .data⟩, ⟨60, .guard⟩], some (60, true)⟩) (v := .bool z6) (Or.inl ⟨by kernel_rfl, fun W hW => by have q0 := Ez6; go_simp; try (first | exact Dz6 | exact Dz6')⟩) ?_
               simp only [pG,Act.put]
               refine seq_call (o := ⟨some 76, .call { callee := .value (.func 83), args := #[.tmp 75], argTypes := #[3] }, 4, "form.go:49", #[⟨64, .data⟩, ⟨60, .chain⟩, ⟨60, .guard⟩], some (60, true)⟩) (by kernel_rfl) (fun K hK => ?_)
               rw [if_pos (by kernel_rfl)]
               go_simp
               go_wp2_with (go_at_call 83; refine (isPart_n _ _).mono ?_; rintro e w0 ⟨rfl, h0⟩; rw [h0, Hb6.out]; clear h0)
               refine hK.out _ _ HC.out ?_
               clear hK K
               try simp only [pG,Act.put]
               refine seq_call (o := ⟨some 80, .call { callee := .value (.func 79), args := #[.tmp 73, .tmp 76, .tmp 79], argTypes := #[4, 4, 4] }, 4, "form.go:49", #[⟨62, .data⟩, ⟨65, .data⟩, ⟨68, .data⟩, ⟨65, .chain⟩, ⟨60, .guard⟩], some (60, true)⟩) (by kernel_rfl) (fun K hK => ?_)
               rw [if_pos (by kernel_rfl)]
               go_simp
               go_wp2_with (go_at_call 79; refine (goz_n _ _ _ _).mono ?_; rintro e w0 ⟨rfl, h0⟩; rw [h0, Hr6.out]; clear h0)
               refine hK.out _ _ HC.out ?_
               clear hK K
               try simp only [pG,Act.put]
               cases r6 with
               | false =>
                 refine seq_plain (fun _ _ _ d _ h => by cases d <;> exact h) _ [(some 81,.bool false), (some 82,.bool false), (some 83, undef), (some 84, undef), (some 85, undef), (some 86, undef), (some 88, undef), (some 89, undef), (some 90, undef), (some 91, undef), (some 87, undef), (some 92, undef), (some 93,.bool false), (some 94,.bool false), (some 95, undef), (some 96, undef), (some 97, undef), (some 98, undef), (some 100, undef), (some 101, undef), (some 102, undef), (some 99, undef), (some 103, undef), (some 104,.bool false), (some 105,.bool false), (some 106, undef), (some 107, undef), (some 108, undef), (some 109, undef), (some 111, undef), (some 112, undef), (some 113, undef), (some 110, undef), (some 114, undef), (some 115,.bool false), (some 2,.bool false)] _ _ (by kernel_rfl) HC.out ?_
                 simp only [putAll,pG,Act.put]
                 have BE : Hid (Below w.heap.size w _) := HC.out.bel
                 clear HC
                 go_wp2
                 go_ret
                 rw [EV.out]
                 exact ⟨by simp, BE.out⟩
               | true =>
                 refine stk (o := ⟨some 81, .pick (.tmp 71) (.tmp 80) (.const (.bool false)), 4, "form.go:44", #[⟨60, .data⟩, ⟨69, .data⟩], none⟩) (v := .bool true) ?_
                 simp only [pG,Act.put]
                 refine stk (o := ⟨some 82, .move (.tmp 81), 4, "form.go:44", #[⟨70, .data⟩, ⟨69, .chain⟩], none⟩) (v := .bool true) ?_
                 simp only [pG,Act.put]
                 refine stk (o := ⟨some 83, .fieldAddr 122 (.tmp 3) 5, 0, "form.go:44", #[⟨71, .guard⟩], some (71, true)⟩) (v := .pointer (some ⟨g3, 5, none⟩)) ?_
                 simp only [pG,Act.put]
                 refine sty (o := ⟨some 84, .load 4 (.tmp 83), 4, "form.go:44", #[⟨72, .data⟩, ⟨71, .guard⟩], some (71, true)⟩) (v := .bool (fS k)) (Or.inl ⟨by kernel_rfl, fun W hW => by have q0 := hW.f5; go_simp⟩) ?_
                 simp only [pG,Act.put]
                 refine stk (o := ⟨some 85, .fieldAddr 60 (.tmp 1) 7, 0, "form.go:44", #[⟨71, .guard⟩], some (71, true)⟩) (v := .pointer (some ⟨g1, 15, none⟩)) ?_
                 simp only [pG,Act.put]
                 refine sty (o := ⟨some 86, .load 55 (.tmp 85), 55, "form.go:44", #[⟨74, .data⟩, ⟨71, .guard⟩], some (71, true)⟩) (v := .slice pa pn pc) (Or.inl ⟨by kernel_rfl, fun W hW => by have q0 := hW.c15; go_simp⟩) ?_
                 simp only [pG,Act.put]
                 refine stk (o := ⟨some 88, .fieldAddr 60 (.tmp 1) 7, 0, "form.go:44", #[⟨71, .guard⟩], some (71, true)⟩) (v := .pointer (some ⟨g1, 15, none⟩)) ?_
                 simp only [pG,Act.put]
                 refine sty (o := ⟨some 89, .load 55 (.tmp 88), 55, "form.go:44", #[⟨77, .data⟩, ⟨71, .guard⟩], some (71, true)⟩) (v := .slice pa pn pc) (Or.inl ⟨by kernel_rfl, fun W hW => by have q0 := hW.c15; go_simp⟩) ?_
                 simp only [pG,Act.put]
                 refine stk (o := ⟨some 90, .call { callee := .builtin .len, args := #[.tmp 89], argTypes := #[55] }, 3, "form.go:44", #[⟨78, .data⟩, ⟨71, .guard⟩], some (71, true)⟩) (v := .int .i64 (pn : Int)) ?_
                 simp only [pG,Act.put]
                 refine sty (o := ⟨some 91, .binOp .eql 3 (.tmp 90) (.const (.int .i64 0)) 3, 4, "form.go:44", #[⟨79, .data⟩, ⟨71, .guard⟩], some (71, true)⟩) (v := .bool z7) (Or.inl ⟨by kernel_rfl, fun W hW => by have q0 := Ez7; go_simp; try (first | exact Dz7 | exact Dz7')⟩) ?_
                 simp only [pG,Act.put]
                 refine seq_call (o := ⟨some 87, .call { callee := .value (.func 84), args := #[.tmp 86], argTypes := #[55] }, 4, "form.go:50", #[⟨75, .data⟩, ⟨71, .chain⟩, ⟨71, .guard⟩], some (71, true)⟩) (by kernel_rfl) (fun K hK => ?_)
                 rw [if_pos (by kernel_rfl)]
                 go_simp
                 have HI : Hid (Irow _ 0 pa pn ps) := hI.out.keep HC.out.bel.size (fun q _ hq => HC.out.bel.block q hq)
                 go_wp2_with (go_at_call 84; refine (goodParts_n HI).mono ?_; rintro e w0 ⟨rfl, h0⟩; rw [h0, Hb7.out]; clear h0)
                 refine hK.out _ _ HC.out ?_
                 clear hK K
                 try simp only [pG,Act.put]
                 refine seq_call (o := ⟨some 92, .call { callee := .value (.func 79), args := #[.tmp 84, .tmp 87, .tmp 91], argTypes := #[4, 4, 4] }, 4, "form.go:50", #[⟨73, .data⟩, ⟨76, .data⟩, ⟨80, .data⟩, ⟨76, .chain⟩, ⟨71, .guard⟩], some (71, true)⟩) (by kernel_rfl) (fun K hK => ?_)
                 rw [if_pos (by kernel_rfl)]
                 go_simp
                 go_wp2_with (go_at_call 79; refine (goz_n _ _ _ _).mono ?_; rintro e w0 ⟨rfl, h0⟩; rw [h0, Hr7.out]; clear h0)
                 refine hK.out _ _ HC.out ?_
                 clear hK K
                 try simp only [pG,Act.put]
                 cases r7 with
                 | false =>
                   refine seq_plain (fun _ _ _ d _ h => by cases d <;> exact h) _ [(some 93,.bool false), (some 94,.bool false), (some 95, undef), (some 96, undef), (some 97, undef), (some 98, undef), (some 100, undef), (some 101, undef), (some 102, undef), (some 99, undef), (some 103, undef), (some 104,.bool false), (some 105,.bool false), (some 106, undef), (some 107, undef), (some 108, undef), (some 109, undef), (some 111, undef), (some 112, undef), (some 113, undef), (some 110, undef), (some 114, undef), (some 115,.bool false), (some 2,.bool false)] _ _ (by kernel_rfl) HC.out ?_
                   simp only [putAll,pG,Act.put]
                   have BE : Hid (Below w.heap.size w _) := HC.out.bel
                   clear HC
                   go_wp2
                   go_ret
                   rw [EV.out]
                   exact ⟨by simp, BE.out⟩
                 | true =>
                   refine stk (o := ⟨some 93, .pick (.tmp 82) (.tmp 92) (.const (.bool false)), 4, "form.go:44", #[⟨71, .data⟩, ⟨81, .data⟩], none⟩) (v := .bool true) ?_
                   simp only [pG,Act.put]
                   refine stk (o := ⟨some 94, .move (.tmp 93), 4, "form.go:44", #[⟨82, .data⟩, ⟨81, .chain⟩], none⟩) (v := .bool true) ?_
                   simp only [pG,Act.put]
                   refine stk (o := ⟨some 95, .fieldAddr 122 (.tmp 3) 6, 0, "form.go:44", #[⟨83, .guard⟩], some (83, true)⟩) (v := .pointer (some ⟨g3, 6, none⟩)) ?_
                   simp only [pG,Act.put]
                   refine sty (o := ⟨some 96, .load 4 (.tmp 95), 4, "form.go:44", #[⟨84, .data⟩, ⟨83, .guard⟩], some (83, true)⟩) (v := .bool (fM k)) (Or.inl ⟨by kernel_rfl, fun W hW => by have q0 := hW.f6; go_simp⟩) ?_
                   simp only [pG,Act.put]
                   refine stk (o := ⟨some 97, .fieldAddr 60 (.tmp 1) 8, 0, "form.go:44", #[⟨83, .guard⟩], some (83, true)⟩) (v := .pointer (some ⟨g1, 16, none⟩)) ?_
                   simp only [pG,Act.put]
                   refine sty (o := ⟨some 98, .load 3 (.tmp 97), 3, "form.go:44", #[⟨86, .data⟩, ⟨83, .guard⟩], some (83, true)⟩) (v := .int .i64 tm) (Or.inl ⟨by kernel_rfl, fun W hW => by have q0 := hW.c16; go_simp⟩) ?_
                   simp only [pG,Act.put]
                   refine stk (o := ⟨some 100, .fieldAddr 60 (.tmp 1) 8, 0, "form.go:44", #[⟨83, .guard⟩], some (83, true)⟩) (v := .pointer (some ⟨g1, 16, none⟩)) ?_
                   simp only [pG,Act.put]
                   refine sty (o := ⟨some 101, .load 3 (.tmp 100), 3, "form.go:44", #[⟨89, .data⟩, ⟨83, .guard⟩], some (83, true)⟩) (v := .int .i64 tm) (Or.inl ⟨by kernel_rfl, fun W hW => by have q0 := hW.c16; go_simp⟩) ?_
                   simp only [pG,Act.put]
                   refine sty (o := ⟨some 102, .binOp .eql 3 (.tmp 101) (.const (.int .i64 0)) 3, 4, "form.go:44", #[⟨90, .data⟩, ⟨83, .guard⟩], some (83, true)⟩) (v := .bool z8) (Or.inl ⟨by kernel_rfl, fun W hW => by have q0 := Ez8; go_simp; try (first | exact Dz8 | exact Dz8')⟩) ?_
                   simp only [pG,Act.put]
                   refine seq_call (o := ⟨some 99, .call { callee := .value (.func 53), args := #[.tmp 98], argTypes := #[3] }, 4, "form.go:51", #[⟨87, .data⟩, ⟨83, .chain⟩, ⟨83, .guard⟩], some (83, true)⟩) (by kernel_rfl) (fun K hK => ?_)
                   rw [if_pos (by kernel_rfl)]
                   go_simp
                   go_wp2_with (go_at_call 53; refine (isTime_n _ _).mono ?_; rintro e w0 ⟨rfl, h0⟩; rw [h0, Hb8.out]; clear h0)
                   refine hK.out _ _ HC.out ?_
                   clear hK K
                   try simp only [pG,Act.put]
                   refine seq_call (o := ⟨some 103, .call { callee := .value (.func 79), args := #[.tmp 96, .tmp 99, .tmp 102], argTypes := #[4, 4, 4] }, 4, "form.go:51", #[⟨85, .data⟩, ⟨88, .data⟩, ⟨91, .data⟩, ⟨88, .chain⟩, ⟨83, .guard⟩], some (83, true)⟩) (by kernel_rfl) (fun K hK => ?_)
                   rw [if_pos (by kernel_rfl)]
                   go_simp
                   go_wp2_with (go_at_call 79; refine (goz_n _ _ _ _).mono ?_; rintro e w0 ⟨rfl, h0⟩; rw [h0, Hr8.out]; clear h0)
                   refine hK.out _ _ HC.out ?_
                   clear hK K
                   try simp only [pG,Act.put]
                   cases r8 with
                   | false =>
                     refine seq_plain (fun _ _ _ d _ h => by cases d <;> exact h) _ [(some 104,.bool false), (some 105,.bool false), (some 106, undef), (some 107, undef), (some 108, undef), (some 109, undef), (some 111, undef), (some 112, undef), (some 113, undef), (some 110, undef), (some 114, undef), (some 115,.bool false), (some 2,.bool false)] _ _ (by kernel_rfl) HC.out ?_
                     simp only [putAll,pG,Act.put]
                     have BE : Hid (Below w.heap.size w _) := HC.out.bel
                     clear HC
                     go_wp2
                     go_ret
                     rw [EV.out]
                     exact ⟨by simp, BE.out⟩
                   | true =>
                     refine stk (o := ⟨some 104, .pick (.tmp 94) (.tmp 103) (.const (.bool false)), 4, "form.go:44", #[⟨83, .data⟩, ⟨92, .data⟩], none⟩) (v := .bool true) ?_
                     simp only [pG,Act.put]
                     refine stk (o := ⟨some 105, .move (.tmp 104), 4, "form.go:44", #[⟨93, .data⟩, ⟨92, .chain⟩], none⟩) (v := .bool true) ?_
                     simp only [pG,Act.put]
                     refine stk (o := ⟨some 106, .fieldAddr 122 (.tmp 3) 7, 0, "form.go:44", #[⟨94, .guard⟩], some (94, true)⟩) (v := .pointer (some ⟨g3, 7, none⟩)) ?_
                     simp only [pG,Act.put]
                     refine sty (o := ⟨some 107, .load 4 (.tmp 106), 4, "form.go:44", #[⟨95, .data⟩, ⟨94, .guard⟩], some (94, true)⟩) (v := .bool (fD k)) (Or.inl ⟨by kernel_rfl, fun W hW => by have q0 := hW.f7; go_simp⟩) ?_
                     simp only [pG,Act.put]
                     refine stk (o := ⟨some 108, .fieldAddr 60 (.tmp 1) 9, 0, "form.go:44", #[⟨94, .guard⟩], some (94, true)⟩) (v := .pointer (some ⟨g1, 17, none⟩)) ?_
                     simp only [pG,Act.put]
                     refine sty (o := ⟨some 109, .load 3 (.tmp 108), 3, "form.go:44", #[⟨97, .data⟩, ⟨94, .guard⟩], some (94, true)⟩) (v := .int .i64 dy) (Or.inl ⟨by kernel_rfl, fun W hW => by have q0 := hW.c17; go_simp⟩) ?_
                     simp only [pG,Act.put]
                     refine stk (o := ⟨some 111, .fieldAddr 60 (.tmp 1) 9, 0, "form.go:44", #[⟨94, .guard⟩], some (94, true)⟩) (v := .pointer (some ⟨g1, 17, none⟩)) ?_
                     simp only [pG,Act.put]
                     refine sty (o := ⟨some 112, .load 3 (.tmp 111), 3, "form.go:44", #[⟨100, .data⟩, ⟨94, .guard⟩], some (94, true)⟩) (v := .int .i64 dy) (Or.inl ⟨by kernel_rfl, fun W hW => by have q0 := hW.c17; go_simp⟩) ?_
                     simp only [pG,Act.put]
                     refine sty (o := ⟨some 113, .binOp .eql 3 (.tmp 112) (.const (.int .i64 0)) 3, 4, "form.go:44", #[⟨101, .data⟩, ⟨94, .guard⟩], some (94, true)⟩) (v := .bool z9) (Or.inl ⟨by kernel_rfl, fun W hW => by have q0 := Ez9; go_simp; try (first | exact Dz9 | exact Dz9')⟩) ?_
                     simp only [pG,Act.put]
                     refine seq_call (o := ⟨some 110, .call { callee := .value (.func 53), args := #[.tmp 109], argTypes := #[3] }, 4, "form.go:52", #[⟨98, .data⟩, ⟨94, .chain⟩, ⟨94, .guard⟩], some (94, true)⟩) (by kernel_rfl) (fun K hK => ?_)
                     rw [if_pos (by kernel_rfl)]
                     go_simp
                     go_wp2_with (go_at_call 53; refine (isTime_n _ _).mono ?_; rintro e w0 ⟨rfl, h0⟩; rw [h0, Hb9.out]; clear h0)
                     refine hK.out _ _ HC.out ?_
                     clear hK K
                     try simp only [pG,Act.put]
                     refine seq_call (o := ⟨some 114, .call { callee := .value (.func 79), args := #[.tmp 107, .tmp 110, .tmp 113], argTypes := #[4, 4, 4] }, 4, "form.go:52", #[⟨96, .data⟩, ⟨99, .data⟩, ⟨102, .data⟩, ⟨99, .chain⟩, ⟨94, .guard⟩], some (94, true)⟩) (by kernel_rfl) (fun K hK => ?_)
                     rw [if_pos (by kernel_rfl)]
                     go_simp
                     go_wp2_with (go_at_call 79; refine (goz_n _ _ _ _).mono ?_; rintro e w0 ⟨rfl, h0⟩; rw [h0, Hr9.out]; clear h0)
                     refine hK.out _ _ HC.out ?_
                     clear hK K
                     try simp only [pG,Act.put]
                     cases r9 with
                     | false =>
                       refine seq_plain (fun _ _ _ d _ h => by cases d <;> exact h) _ [(some 115,.bool false), (some 2,.bool false)] _ _ (by kernel_rfl) HC.out ?_
                       simp only [putAll,pG,Act.put]
                       have BE : Hid (Below w.heap.size w _) := HC.out.bel
                       clear HC
                       go_wp2
                       go_ret
                       rw [EV.out]
                       exact ⟨by simp, BE.out⟩
                     | true =>
                       refine stk (o := ⟨some 115, .pick (.tmp 105) (.tmp 114) (.const (.bool false)), 4, "form.go:44", #[⟨94, .data⟩, ⟨103, .data⟩], none⟩) (v := .bool true) ?_
                       simp only [pG,Act.put]
                       refine stk (o := ⟨some 2, .assign (.tmp 115), 4, "form.go:44", ([⟨104, .data⟩, ⟨103, .chain⟩, ⟨0, .phase⟩, ⟨1, .phase⟩, ⟨2, .phase⟩, ⟨3, .phase⟩, ⟨4, .phase⟩, ⟨5, .phase⟩, ⟨6, .phase⟩, ⟨7, .phase⟩, ⟨8, .phase⟩, ⟨9, .phase⟩, ⟨10, .phase⟩, ⟨11, .phase⟩, ⟨12, .phase⟩, ⟨13, .phase⟩, ⟨14, .phase⟩, ⟨15, .phase⟩, ⟨16, .phase⟩, ⟨17, .phase⟩, ⟨18, .phase⟩, ⟨19, .phase⟩, ⟨20, .phase⟩, ⟨21, .phase⟩, ⟨22, .phase⟩, ⟨23, .phase⟩, ⟨24, .phase⟩, ⟨25, .phase⟩, ⟨26, .phase⟩, ⟨27, .phase⟩, ⟨28, .phase⟩, ⟨29, .phase⟩, ⟨30, .phase⟩, ⟨31, .phase⟩, ⟨32, .phase⟩, ⟨33, .phase⟩, ⟨34, .phase⟩, ⟨35, .phase⟩, ⟨36, .phase⟩, ⟨37, .phase⟩, ⟨38, .phase⟩, ⟨39, .phase⟩, ⟨40, .phase⟩, ⟨41, .phase⟩, ⟨42, .phase⟩, ⟨43, .phase⟩, ⟨44, .phase⟩, ⟨45, .phase⟩, ⟨46, .phase⟩, ⟨47, .phase⟩, ⟨48, .phase⟩, ⟨49, .phase⟩, ⟨50, .phase⟩].append [⟨51, .phase⟩, ⟨52, .phase⟩, ⟨53, .phase⟩, ⟨54, .phase⟩, ⟨55, .phase⟩, ⟨56, .phase⟩, ⟨57, .phase⟩, ⟨58, .phase⟩, ⟨59, .phase⟩, ⟨60, .phase⟩, ⟨61, .phase⟩, ⟨62, .phase⟩, ⟨63, .phase⟩, ⟨64, .phase⟩, ⟨65, .phase⟩, ⟨66, .phase⟩, ⟨67, .phase⟩, ⟨68, .phase⟩, ⟨69, .phase⟩, ⟨70, .phase⟩, ⟨71, .phase⟩, ⟨72, .phase⟩, ⟨73, .phase⟩, ⟨74, .phase⟩, ⟨75, .phase⟩, ⟨76, .phase⟩, ⟨77, .phase⟩, ⟨78, .phase⟩, ⟨79, .phase⟩, ⟨80, .phase⟩, ⟨81, .phase⟩, ⟨82, .phase⟩, ⟨83, .phase⟩, ⟨84, .phase⟩, ⟨85, .phase⟩, ⟨86, .phase⟩, ⟨87, .phase⟩, ⟨88, .phase⟩, ⟨89, .phase⟩, ⟨90, .phase⟩, ⟨91, .phase⟩, ⟨92, .phase⟩, ⟨93, .phase⟩, ⟨94, .phase⟩, ⟨95, .phase⟩, ⟨96, .phase⟩, ⟨97, .phase⟩, ⟨98, .phase⟩, ⟨99, .phase⟩, ⟨100, .phase⟩, ⟨101, .phase⟩, ⟨102, .phase⟩, ⟨103, .phase⟩, ⟨104, .phase⟩]).toArray, none⟩) (v := .bool true) ?_
                       simp only [pG,Act.put]
                       show (Exit.then _ _) .normal _ _
                       have BE : Hid (Below w.heap.size w _) := HC.out.bel
                       clear HC
                       go_wp2
                       go_ret
                       rw [EV.out]
                       exact ⟨by simp, BE.out⟩
end Go.Proofs.YtppibcambhmomaaDoor
