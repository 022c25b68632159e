import Derived.Test.YtoegfckafnlknaaDoorMCd
import Derived.Test.YtoegfckafnlknaaDoorMCe
/- Cf -/
/- Is a command in form? (inForm of package command) -/
namespace Go.Proofs.YtoegfckafnlknaaDoor
open Go.ChangeShapes Go.WideShapes Go.ChangeAt Go.RowKit
set_option maxRecDepth 20000
set_option linter.unusedVariables false
set_option linter.unusedSimpArgs false
def frm (x : Cm) : Bool := kOk x.k && (gdI x.i0 x.i1 x.i2 && (goz (fB x.k) (gdN x.bu) (decide (x.bu = ⟨#[]⟩)) && (goz (fK x.k) (gdK x.ke) (decide (x.ke = ⟨#[]⟩)) && (goz (fU x.k) (gdI x.u0 x.u1 x.u2) (decide (x.u0 = 0 ∧ x.u1 = 0 ∧ x.u2 = 0)) && (goz (fP x.k) (gdP x.b0 x.b1 x.b2 x.sz x.et && decide (x.b0 = x.i0 ∧ x.b1 = x.i1 ∧ x.b2 = x.i2)) (decide ((x.b0 = 0 ∧ x.b1 = 0 ∧ x.b2 = 0) ∧ x.sz = 0 ∧ x.et = ⟨#[]⟩)) && (goz (fT x.k) (ptP x.pt) (decide (x.pt = 0)) && (goz (fS x.k) (gdS x.ps) (decide (x.ps.length = 0)) && (goz (fM x.k) (tmT x.tm) (decide (x.tm = 0)) && goz (fD x.k) (tmT x.dy) (decide (x.dy = 0))))))))))
theorem str_empty (s : ByteArray) : s.toList.isEmpty = decide (s = ⟨#[]⟩) := by
  rw [ByteArray.toList_eq]
  by_cases h : s = ⟨#[]⟩
  · subst h; simp
  · rw [decide_eq_false h]
    cases hl : s.data.toList with
    | nil => exact absurd (ByteArray.ext (Array.toList_inj.1 hl)) h
    | cons x l => rfl
/- the operations of a region of a function's code -/
def regIn (n : Nat) : Code → Option (Array Oper)
  | .region i ops _ => if i = n then some ops else none
  | .seq a b => match regIn n a with
    | some c => some c
    | none => regIn n b
  | .cond _ a b => match regIn n a with
    | some c => some c
    | none => regIn n b
  | .block _ c => regIn n c
  | .loop c => regIn n c
  | .scope c => regIn n c
  | _ => none
noncomputable def ops32 : Array Oper := match Tryd.f32.body with
  | some c => match regIn 2 c with
    | some o => o
    | none => #[]
  | none => #[]
/- what inForm has before it -/
structure Fm (w W : World) (g1 g3 : Nat) (k i0 i1 i2 : Int) (bu ke : ByteArray) (u0 u1 u2 b0 b1 b2 sz : Int) (et : ByteArray) (pt : Int) (pa : Option Addr) (pn pc : Nat) (tm dy : Int) : Prop where
  h1 : W.heap[g1]? = some (.cells #[.int .i64 k, .int .i64 i0, .int .i64 i1, .int .i64 i2, .string bu, .string ke, .int .i64 u0, .int .i64 u1, .int .i64 u2, .int .i64 b0, .int .i64 b1, .int .i64 b2, .int .i64 sz, .string et, .int .i64 pt, .slice pa pn pc, .int .i64 tm, .int .i64 dy] 28 (0, 0))
  h3 : W.heap[g3]? = some (.cells (fcs k) 98 (0, 0))
  bel : Below w.heap.size w W
section
variable {w W : World} {g1 g3 : Nat} {k i0 i1 i2 : Int} {bu ke : ByteArray} {u0 u1 u2 b0 b1 b2 sz : Int} {et : ByteArray} {pt : Int} {pa : Option Addr} {pn pc : Nat} {tm dy : Int}
theorem Fm.below {W' : World} (h : Fm w W g1 g3 k i0 i1 i2 bu ke u0 u1 u2 b0 b1 b2 sz et pt pa pn pc tm dy) (hb : Below W.heap.size W W') : Fm w W' g1 g3 k i0 i1 i2 bu ke u0 u1 u2 b0 b1 b2 sz et pt pa pn pc tm dy :=
  ⟨(hb.block _ (Array.getElem?_eq_some_iff.1 h.h1).1).trans h.h1, (hb.block _ (Array.getElem?_eq_some_iff.1 h.h3).1).trans h.h3, h.bel.trans (hb.mono h.bel.size)⟩
theorem Fm.c0 (h : Fm w W g1 g3 k i0 i1 i2 bu ke u0 u1 u2 b0 b1 b2 sz et pt pa pn pc tm dy) : W.cell? ⟨g1, 0, none⟩ = some (.int .i64 k) := by simp [World.cell?, h.h1]
theorem Fm.c1 (h : Fm w W g1 g3 k i0 i1 i2 bu ke u0 u1 u2 b0 b1 b2 sz et pt pa pn pc tm dy) : W.cell? ⟨g1, 1, none⟩ = some (.int .i64 i0) := by simp [World.cell?, h.h1]
theorem Fm.c2 (h : Fm w W g1 g3 k i0 i1 i2 bu ke u0 u1 u2 b0 b1 b2 sz et pt pa pn pc tm dy) : W.cell? ⟨g1, 2, none⟩ = some (.int .i64 i1) := by simp [World.cell?, h.h1]
theorem Fm.c3 (h : Fm w W g1 g3 k i0 i1 i2 bu ke u0 u1 u2 b0 b1 b2 sz et pt pa pn pc tm dy) : W.cell? ⟨g1, 3, none⟩ = some (.int .i64 i2) := by simp [World.cell?, h.h1]
theorem Fm.c4 (h : Fm w W g1 g3 k i0 i1 i2 bu ke u0 u1 u2 b0 b1 b2 sz et pt pa pn pc tm dy) : W.cell? ⟨g1, 4, none⟩ = some (.string bu) := by simp [World.cell?, h.h1]
theorem Fm.c5 (h : Fm w W g1 g3 k i0 i1 i2 bu ke u0 u1 u2 b0 b1 b2 sz et pt pa pn pc tm dy) : W.cell? ⟨g1, 5, none⟩ = some (.string ke) := by simp [World.cell?, h.h1]
theorem Fm.c6 (h : Fm w W g1 g3 k i0 i1 i2 bu ke u0 u1 u2 b0 b1 b2 sz et pt pa pn pc tm dy) : W.cell? ⟨g1, 6, none⟩ = some (.int .i64 u0) := by simp [World.cell?, h.h1]
theorem Fm.c7 (h : Fm w W g1 g3 k i0 i1 i2 bu ke u0 u1 u2 b0 b1 b2 sz et pt pa pn pc tm dy) : W.cell? ⟨g1, 7, none⟩ = some (.int .i64 u1) := by simp [World.cell?, h.h1]
theorem Fm.c8 (h : Fm w W g1 g3 k i0 i1 i2 bu ke u0 u1 u2 b0 b1 b2 sz et pt pa pn pc tm dy) : W.cell? ⟨g1, 8, none⟩ = some (.int .i64 u2) := by simp [World.cell?, h.h1]
theorem Fm.c9 (h : Fm w W g1 g3 k i0 i1 i2 bu ke u0 u1 u2 b0 b1 b2 sz et pt pa pn pc tm dy) : W.cell? ⟨g1, 9, none⟩ = some (.int .i64 b0) := by simp [World.cell?, h.h1]
theorem Fm.c10 (h : Fm w W g1 g3 k i0 i1 i2 bu ke u0 u1 u2 b0 b1 b2 sz et pt pa pn pc tm dy) : W.cell? ⟨g1, 10, none⟩ = some (.int .i64 b1) := by simp [World.cell?, h.h1]
theorem Fm.c11 (h : Fm w W g1 g3 k i0 i1 i2 bu ke u0 u1 u2 b0 b1 b2 sz et pt pa pn pc tm dy) : W.cell? ⟨g1, 11, none⟩ = some (.int .i64 b2) := by simp [World.cell?, h.h1]
theorem Fm.c12 (h : Fm w W g1 g3 k i0 i1 i2 bu ke u0 u1 u2 b0 b1 b2 sz et pt pa pn pc tm dy) : W.cell? ⟨g1, 12, none⟩ = some (.int .i64 sz) := by simp [World.cell?, h.h1]
theorem Fm.c13 (h : Fm w W g1 g3 k i0 i1 i2 bu ke u0 u1 u2 b0 b1 b2 sz et pt pa pn pc tm dy) : W.cell? ⟨g1, 13, none⟩ = some (.string et) := by simp [World.cell?, h.h1]
theorem Fm.c14 (h : Fm w W g1 g3 k i0 i1 i2 bu ke u0 u1 u2 b0 b1 b2 sz et pt pa pn pc tm dy) : W.cell? ⟨g1, 14, none⟩ = some (.int .i64 pt) := by simp [World.cell?, h.h1]
theorem Fm.c15 (h : Fm w W g1 g3 k i0 i1 i2 bu ke u0 u1 u2 b0 b1 b2 sz et pt pa pn pc tm dy) : W.cell? ⟨g1, 15, none⟩ = some (.slice pa pn pc) := by simp [World.cell?, h.h1]
theorem Fm.c16 (h : Fm w W g1 g3 k i0 i1 i2 bu ke u0 u1 u2 b0 b1 b2 sz et pt pa pn pc tm dy) : W.cell? ⟨g1, 16, none⟩ = some (.int .i64 tm) := by simp [World.cell?, h.h1]
theorem Fm.c17 (h : Fm w W g1 g3 k i0 i1 i2 bu ke u0 u1 u2 b0 b1 b2 sz et pt pa pn pc tm dy) : W.cell? ⟨g1, 17, none⟩ = some (.int .i64 dy) := by simp [World.cell?, h.h1]
theorem Fm.f0 (h : Fm w W g1 g3 k i0 i1 i2 bu ke u0 u1 u2 b0 b1 b2 sz et pt pa pn pc tm dy) : W.cell? ⟨g3, 0, none⟩ = some (.bool (fB k)) := by simp [World.cell?, h.h3, fcs]
theorem Fm.f1 (h : Fm w W g1 g3 k i0 i1 i2 bu ke u0 u1 u2 b0 b1 b2 sz et pt pa pn pc tm dy) : W.cell? ⟨g3, 1, none⟩ = some (.bool (fK k)) := by simp [World.cell?, h.h3, fcs]
theorem Fm.f2 (h : Fm w W g1 g3 k i0 i1 i2 bu ke u0 u1 u2 b0 b1 b2 sz et pt pa pn pc tm dy) : W.cell? ⟨g3, 2, none⟩ = some (.bool (fU k)) := by simp [World.cell?, h.h3, fcs]
theorem Fm.f3 (h : Fm w W g1 g3 k i0 i1 i2 bu ke u0 u1 u2 b0 b1 b2 sz et pt pa pn pc tm dy) : W.cell? ⟨g3, 3, none⟩ = some (.bool (fP k)) := by simp [World.cell?, h.h3, fcs]
theorem Fm.f4 (h : Fm w W g1 g3 k i0 i1 i2 bu ke u0 u1 u2 b0 b1 b2 sz et pt pa pn pc tm dy) : W.cell? ⟨g3, 4, none⟩ = some (.bool (fT k)) := by simp [World.cell?, h.h3, fcs]
theorem Fm.f5 (h : Fm w W g1 g3 k i0 i1 i2 bu ke u0 u1 u2 b0 b1 b2 sz et pt pa pn pc tm dy) : W.cell? ⟨g3, 5, none⟩ = some (.bool (fS k)) := by simp [World.cell?, h.h3, fcs]
theorem Fm.f6 (h : Fm w W g1 g3 k i0 i1 i2 bu ke u0 u1 u2 b0 b1 b2 sz et pt pa pn pc tm dy) : W.cell? ⟨g3, 6, none⟩ = some (.bool (fM k)) := by simp [World.cell?, h.h3, fcs]
theorem Fm.f7 (h : Fm w W g1 g3 k i0 i1 i2 bu ke u0 u1 u2 b0 b1 b2 sz et pt pa pn pc tm dy) : W.cell? ⟨g3, 7, none⟩ = some (.bool (fD k)) := by simp [World.cell?, h.h3, fcs]
end
set_option maxHeartbeats 16000000 in
theorem inForm_n {w : World} {k i0 i1 i2 : Int} {bu ke : ByteArray} {u0 u1 u2 b0 b1 b2 sz : Int} {et : ByteArray} {pt : Int} {ps : List Int} {pa : Option Addr} {pn pc : Nat} {tm dy : Int} (hI : Hid (Irow w 0 pa pn ps)) :
    Calls Tryd.prog 32 #[.agg #[.int .i64 k, .int .i64 i0, .int .i64 i1, .int .i64 i2, .string bu, .string ke, .int .i64 u0, .int .i64 u1, .int .i64 u2, .int .i64 b0, .int .i64 b1, .int .i64 b2, .int .i64 sz, .string et, .int .i64 pt, .slice pa pn pc, .int .i64 tm, .int .i64 dy]] w fun e w' => e = .returned (.bool (frm ⟨k, i0, i1, i2, bu, ke, u0, u1, u2, b0, b1, b2, sz, et, pt, ps, tm, dy⟩)) ∧ Hid (Below w.heap.size w w') := by
  obtain ⟨ok, Hok⟩ : ∃ b, Hid (kOk k = b) := ⟨_, rfl⟩
  obtain ⟨r1, Hr1⟩ : ∃ b, Hid (gdI i0 i1 i2 = b) := ⟨_, rfl⟩
  obtain ⟨b2', Hb2⟩ : ∃ b, Hid (gdN bu = b) := ⟨_, rfl⟩
  obtain ⟨b3, Hb3⟩ : ∃ b, Hid (gdK ke = b) := ⟨_, rfl⟩
  obtain ⟨b4, Hb4⟩ : ∃ b, Hid (gdI u0 u1 u2 = b) := ⟨_, rfl⟩
  obtain ⟨b5, Hb5⟩ : ∃ b, Hid (gdP b0 b1 b2 sz et = b) := ⟨_, rfl⟩
  obtain ⟨b6, Hb6⟩ : ∃ b, Hid (ptP pt = b) := ⟨_, rfl⟩
  obtain ⟨b7, Hb7⟩ : ∃ b, Hid (gdS ps = b) := ⟨_, rfl⟩
  obtain ⟨b8, Hb8⟩ : ∃ b, Hid (tmT tm = b) := ⟨_, rfl⟩
  obtain ⟨b9, Hb9⟩ : ∃ b, Hid (tmT dy = b) := ⟨_, rfl⟩
  obtain ⟨z2, Hz2⟩ : ∃ b, Hid (decide (bu = ⟨#[]⟩) = b) := ⟨_, rfl⟩
  obtain ⟨z3, Hz3⟩ : ∃ b, Hid (decide (ke = ⟨#[]⟩) = b) := ⟨_, rfl⟩
  obtain ⟨z4, Hz4⟩ : ∃ b, Hid (decide (u0 = 0 ∧ u1 = 0 ∧ u2 = 0) = b) := ⟨_, rfl⟩
  obtain ⟨z5, Hz5⟩ : ∃ b, Hid (decide ((b0 = 0 ∧ b1 = 0 ∧ b2 = 0) ∧ sz = 0 ∧ et = ⟨#[]⟩) = b) := ⟨_, rfl⟩
  obtain ⟨z6, Hz6⟩ : ∃ b, Hid (decide (pt = 0) = b) := ⟨_, rfl⟩
  obtain ⟨z7, Hz7⟩ : ∃ b, Hid (decide ((pn : Int) = 0) = b) := ⟨_, rfl⟩
  obtain ⟨z8, Hz8⟩ : ∃ b, Hid (decide (tm = 0) = b) := ⟨_, rfl⟩
  obtain ⟨z9, Hz9⟩ : ∃ b, Hid (decide (dy = 0) = b) := ⟨_, rfl⟩
  obtain ⟨ze, Hze⟩ : ∃ b, Hid (decide (b0 = i0 ∧ b1 = i1 ∧ b2 = i2) = b) := ⟨_, rfl⟩
  obtain ⟨r2, Hr2⟩ : ∃ b, Hid (goz (fB k) b2' z2 = b) := ⟨_, rfl⟩
  obtain ⟨r3, Hr3⟩ : ∃ b, Hid (goz (fK k) b3 z3 = b) := ⟨_, rfl⟩
  obtain ⟨r4, Hr4⟩ : ∃ b, Hid (goz (fU k) b4 z4 = b) := ⟨_, rfl⟩
  obtain ⟨r5, Hr5⟩ : ∃ b, Hid (goz (fP k) (b5 && ze) z5 = b) := ⟨_, rfl⟩
  obtain ⟨r6, Hr6⟩ : ∃ b, Hid (goz (fT k) b6 z6 = b) := ⟨_, rfl⟩
  obtain ⟨r7, Hr7⟩ : ∃ b, Hid (goz (fS k) b7 z7 = b) := ⟨_, rfl⟩
  obtain ⟨r8, Hr8⟩ : ∃ b, Hid (goz (fM k) b8 z8 = b) := ⟨_, rfl⟩
  obtain ⟨r9, Hr9⟩ : ∃ b, Hid (goz (fD k) b9 z9 = b) := ⟨_, rfl⟩
  have EV : Hid (frm ⟨k, i0, i1, i2, bu, ke, u0, u1, u2, b0, b1, b2, sz, et, pt, ps, tm, dy⟩ = (ok && (r1 && (r2 && (r3 && (r4 && (r5 && (r6 && (r7 && (r8 && r9)))))))))) := by
    have e7 : decide (ps.length = 0) = z7 := by rw [← Hz7.out, ← hI.out.len]; exact decide_eq_decide.2 (by omega)
    show frm _ = _
    unfold frm
    simp only
    rw [Hok.out, Hr1.out, Hb2.out, Hb3.out, Hb4.out, Hb5.out, Hb6.out, Hb7.out, Hb8.out, Hb9.out, Hz2.out, Hz3.out, Hz4.out, Hz5.out, Hz6.out, e7, Hz8.out, Hz9.out, Hze.out, Hr2.out, Hr3.out, Hr4.out, Hr5.out, Hr6.out, Hr7.out, Hr8.out, Hr9.out]
  have Dz2 : bu.toList.isEmpty = z2 := (str_empty bu).trans Hz2.out
  have Dz3 : ke.toList.isEmpty = z3 := (str_empty ke).trans Hz3.out
  have Dz2' : bu.toList.isEmpty = z2 := Dz2
  have Dz3' : ke.toList.isEmpty = z3 := Dz3
  have Dz6 : decide (pt = 0) = z6 := Hz6.out
  have Dz7 : decide ((pn : Int) = 0) = z7 := Hz7.out
  have Dz8 : decide (tm = 0) = z8 := Hz8.out
  have Dz9 : decide (dy = 0) = z9 := Hz9.out
  have Dz6' : (pt == 0) = z6 := by rw [← Dz6]; by_cases h : pt = 0 <;> simp [h]
  have Dz7' : decide (pn = 0) = z7 := by rw [← Dz7]; exact decide_eq_decide.2 (by omega)
  have Dz8' : (tm == 0) = z8 := by rw [← Dz8]; by_cases h : tm = 0 <;> simp [h]
  have Dz9' : (dy == 0) = z9 := by rw [← Dz9]; by_cases h : dy = 0 <;> simp [h]
  have Ez2 : ∀ w, (Op.equalIn 10000 9 (.string bu) (.string ⟨#[]⟩)).run Tryd.prog w = .ok z2 w := fun w => by rw [eqS, Hz2.out]
  have Ez3 : ∀ w, (Op.equalIn 10000 9 (.string ke) (.string ⟨#[]⟩)).run Tryd.prog w = .ok z3 w := fun w => by rw [eqS, Hz3.out]
  have Ez4 : ∀ w, (Op.equalIn 10000 23 (idv u0 u1 u2) (idv 0 0 0)).run Tryd.prog w = .ok z4 w := fun w => by rw [eqId, Hz4.out]
  have Eze : ∀ w, (Op.equalIn 10000 23 (idv b0 b1 b2) (idv i0 i1 i2)).run Tryd.prog w = .ok ze w := fun w => by rw [eqId, Hze.out]
  have Ez5 : ∀ w, (Op.equalIn 10000 25 (.agg #[.int .i64 b0, .int .i64 b1, .int .i64 b2, .int .i64 sz, .string et]) (.agg #[.int .i64 0, .int .i64 0, .int .i64 0, .int .i64 0, .string ⟨#[]⟩])).run Tryd.prog w = .ok z5 w := fun w => by rw [eqPc, Hz5.out]
  have Ez6 : ∀ w, (Op.equalIn 10000 3 (.int .i64 pt) (.int .i64 0)).run Tryd.prog w = .ok z6 w := fun w => by rw [eqI, Hz6.out]
  have Ez7 : ∀ w, (Op.equalIn 10000 3 (.int .i64 (pn : Int)) (.int .i64 0)).run Tryd.prog w = .ok z7 w := fun w => by rw [eqI, Hz7.out]
  have Ez8 : ∀ w, (Op.equalIn 10000 3 (.int .i64 tm) (.int .i64 0)).run Tryd.prog w = .ok z8 w := fun w => by rw [eqI, Hz8.out]
  have Ez9 : ∀ w, (Op.equalIn 10000 3 (.int .i64 dy) (.int .i64 0)).run Tryd.prog w = .ok z9 w := fun w => by rw [eqI, Hz9.out]
  obtain ⟨g1, Hg1⟩ : ∃ g, Hid (w.heap.size = g) := ⟨_, rfl⟩
  obtain ⟨w1, Hw1⟩ : ∃ w1, Hid (w.alloc (.cells #[.int .i64 k, .int .i64 i0, .int .i64 i1, .int .i64 i2, .string bu, .string ke, .int .i64 u0, .int .i64 u1, .int .i64 u2, .int .i64 b0, .int .i64 b1, .int .i64 b2, .int .i64 sz, .string et, .int .i64 pt, .slice pa pn pc, .int .i64 tm, .int .i64 dy] 28) = w1) := ⟨_, rfl⟩
  have B1 : Hid (Below w.heap.size w w1) := by rw [← Hw1.out]; exact alloc1 w _
  have k1 : Hid (w1.heap[g1]? = some (.cells #[.int .i64 k, .int .i64 i0, .int .i64 i1, .int .i64 i2, .string bu, .string ke, .int .i64 u0, .int .i64 u1, .int .i64 u2, .int .i64 b0, .int .i64 b1, .int .i64 b2, .int .i64 sz, .string et, .int .i64 pt, .slice pa pn pc, .int .i64 tm, .int .i64 dy] 28 (0, 0))) := by rw [← Hw1.out, ← Hg1.out]; exact heap_alloc_new w _
  have x0 : w1.cell? ⟨g1, 0, none⟩ = some (.int .i64 k) := by simp [World.cell?, k1.out]
  go_enter Tryd.func32, Tryd.ntmps32
  go_upto_region 1 with (fail)
  rw [Hw1.out, Hg1.out]
  go_upto_region 2 with (go_at_call 62; refine (fieldsOf_n k _).mono ?_; rintro e w2 ⟨rfl, h2⟩; rw [Hok.out]; unfold fcs)
  obtain ⟨g3, Hg3⟩ : ∃ g, Hid (w2.heap.size = g) := ⟨_, rfl⟩
  obtain ⟨w3, Hw3⟩ : ∃ w3, Hid (w2.alloc (.cells #[.bool (fB k), .bool (fK k), .bool (fU k), .bool (fP k), .bool (fT k), .bool (fS k), .bool (fM k), .bool (fD k)] 98) = w3) := ⟨_, rfl⟩
  obtain ⟨w4, Hw4⟩ : ∃ w4, Hid (w3.drew = w4) := ⟨_, rfl⟩
  have HC : Hid (Fm w w4 g1 g3 k i0 i1 i2 bu ke u0 u1 u2 b0 b1 b2 sz et pt pa pn pc tm dy) := by
    have b3 : Below w2.heap.size w2 w3 := by rw [← Hw3.out]; exact alloc1 w2 _
    have k3 : w3.heap[g3]? = some (.cells (fcs k) 98 (0, 0)) := by rw [← Hw3.out, ← Hg3.out]; exact heap_alloc_new w2 _
    have b13 := h2.out.trans (b3.mono h2.out.size)
    have f3 : Fm w w3 g1 g3 k i0 i1 i2 bu ke u0 u1 u2 b0 b1 b2 sz et pt pa pn pc tm dy := ⟨(b13.block g1 (Array.getElem?_eq_some_iff.1 k1.out).1).trans k1.out, k3, B1.out.trans (b13.mono B1.out.size)⟩
    rw [← Hw4.out]
    exact f3.below (Below.refl _ _).drew
  rw [Hw3.out, Hg3.out]
  clear h2 k1 B1 x0 Hw3 Hg3 Hw1 Hg1
  refine wp_region_seq (ops := ops32) (C := fun W => Fm w W g1 g3 k i0 i1 i2 bu ke u0 u1 u2 b0 b1 b2 sz et pt pa pn pc tm dy) [(0, false), (1, false), (2, false), (3, false), (4, true), (5, false), (6, false), (7, false), (8, false), (9, false), (10, false), (12, false), (13, false), (14, false), (11, true), (15, true), (16, false), (17, false), (18, false), (19, false), (20, false), (21, false), (23, false), (24, false), (25, false), (22, true), (26, true), (27, false), (28, false), (29, false), (30, false), (31, false), (32, false), (34, false), (35, false), (36, false), (37, false), (33, true), (38, true), (39, false), (40, false), (41, false), (42, false), (43, false), (44, false), (54, false), (55, false), (56, false), (57, false), (45, true), (46, false), (47, false), (48, false), (49, false), (50, false), (51, false), (52, false), (53, false), (58, true), (59, false), (60, false), (61, false), (62, false), (63, false), (64, false), (66, false), (67, false), (68, false), (65, true), (69, true), (70, false), (71, false), (72, false), (73, false), (74, false), (75, false), (77, false), (78, false), (79, false), (80, false), (76, true), (81, true), (82, false), (83, false), (84, false), (85, false), (86, false), (87, false), (89, false), (90, false), (91, false), (88, true), (92, true), (93, false), (94, false), (95, false), (96, false), (97, false), (98, false), (100, false), (101, false), (102, false), (99, true), (103, true), (104, false), (105, false)] (by kernel_rfl) (by kernel_rfl) (by rw [Hw4.out]; exact HC.out) ?_
  rw [Hw4.out]
  clear Hw4
  cases ok with
  | false =>
    refine seq_plain (fun _ _ _ d _ h => by cases d <;> exact h) _ [(some 11, .bool false), (some 12, .bool false), (some 13, undef), (some 14, undef), (some 15, undef), (some 16, .bool false), (some 17, .bool false), (some 18, undef), (some 19, undef), (some 20, undef), (some 21, undef), (some 23, undef), (some 24, undef), (some 25, undef), (some 22, undef), (some 26, undef), (some 27, .bool false), (some 28, .bool false), (some 29, undef), (some 30, undef), (some 31, undef), (some 32, undef), (some 34, undef), (some 35, undef), (some 36, undef), (some 33, undef), (some 37, undef), (some 38, .bool false), (some 39, .bool false), (some 40, undef), (some 41, undef), (some 42, undef), (some 43, undef), (some 45, undef), (some 46, undef), (some 47, undef), (some 48, undef), (some 44, undef), (some 49, undef), (some 50, .bool false), (some 51, .bool false), (some 52, undef), (some 53, undef), (some 54, undef), (some 55, undef), (some 65, undef), (some 66, undef), (some 67, undef), (some 68, undef), (some 56, undef), (some 57, undef), (some 58, undef), (some 59, undef), (some 60, undef), (some 61, undef), (some 62, undef), (some 63, undef), (some 64, undef), (some 69, undef), (some 70, .bool false), (some 71, .bool false), (some 72, undef), (some 73, undef), (some 74, undef), (some 75, undef), (some 77, undef), (some 78, undef), (some 79, undef), (some 76, undef), (some 80, undef), (some 81, .bool false), (some 82, .bool false), (some 83, undef), (some 84, undef), (some 85, undef), (some 86, undef), (some 88, undef), (some 89, undef), (some 90, undef), (some 91, undef), (some 87, undef), (some 92, undef), (some 93, .bool false), (some 94, .bool false), (some 95, undef), (some 96, undef), (some 97, undef), (some 98, undef), (some 100, undef), (some 101, undef), (some 102, undef), (some 99, undef), (some 103, undef), (some 104, .bool false), (some 105, .bool false), (some 106, undef), (some 107, undef), (some 108, undef), (some 109, undef), (some 111, undef), (some 112, undef), (some 113, undef), (some 110, undef), (some 114, undef), (some 115, .bool false), (some 2, .bool false)] _ _ (by kernel_rfl) HC.out ?_
    simp only [putAll, List.getElem_toArray, List.getElem_cons_zero, List.getElem_cons_succ, Act.put, List.setIfInBounds_toArray, List.set_cons_zero, List.set_cons_succ]
    have BE : Hid (Below w.heap.size w _) := HC.out.bel
    clear HC
    go_wp2
    go_ret
    rw [EV.out]
    exact ⟨by simp, BE.out⟩
  | true =>
    refine seq_take (o := { dst := some 11, op := Go.Op.move (Go.Operand.tmp 4), type := 4, pos := "form.go:44", after := #[], guard := none }) (v := .bool true) (by kernel_rfl) (fun _ _ _ h => h) (Or.inl ⟨by kernel_rfl, fun W hW => by go_simp⟩) ?_
    simp only [List.getElem_toArray, List.getElem_cons_zero, List.getElem_cons_succ, Act.put, List.setIfInBounds_toArray, List.set_cons_zero, List.set_cons_succ]
    refine seq_take (o := { dst := some 12, op := Go.Op.move (Go.Operand.tmp 11), type := 4, pos := "form.go:44", after := #[{ on := 0, ground := Go.Ground.data }], guard := none }) (v := .bool true) (by kernel_rfl) (fun _ _ _ h => h) (Or.inl ⟨by kernel_rfl, fun W hW => by go_simp⟩) ?_
    simp only [List.getElem_toArray, List.getElem_cons_zero, List.getElem_cons_succ, Act.put, List.setIfInBounds_toArray, List.set_cons_zero, List.set_cons_succ]
    refine seq_take (o := { dst := some 13, op := Go.Op.fieldAddr 28 (Go.Operand.tmp 1) 1, type := 0, pos := "form.go:44", after := #[{ on := 1, ground := Go.Ground.guard }], guard := some (1, true) }) (v := .pointer (some ⟨g1, 1, none⟩)) (by kernel_rfl) (fun _ _ _ h => h) (Or.inl ⟨by kernel_rfl, fun W hW => by go_simp⟩) ?_
    simp only [List.getElem_toArray, List.getElem_cons_zero, List.getElem_cons_succ, Act.put, List.setIfInBounds_toArray, List.set_cons_zero, List.set_cons_succ]
    refine seq_take (o := { dst := some 14, op := Go.Op.load 23 (Go.Operand.tmp 13), type := 23, pos := "form.go:44", after := #[{ on := 2, ground := Go.Ground.data }, { on := 1, ground := Go.Ground.guard }], guard := some (1, true) }) (v := .agg #[.int .i64 i0, .int .i64 i1, .int .i64 i2]) (by kernel_rfl) (fun _ _ _ h => h) (Or.inl ⟨by kernel_rfl, fun W hW => by have q0 := hW.c1; have q1 := hW.c2; have q2 := hW.c3; go_simp⟩) ?_
    simp only [List.getElem_toArray, List.getElem_cons_zero, List.getElem_cons_succ, Act.put, List.setIfInBounds_toArray, List.set_cons_zero, List.set_cons_succ]
    refine seq_call (o := { dst := some 15, op := Go.Op.call { callee := Go.Callee.value (Go.Operand.func 30), args := #[Go.Operand.tmp 14], argTypes := #[23] }, type := 4, pos := "form.go:44", after := #[{ on := 3, ground := Go.Ground.data }, { on := 1, ground := Go.Ground.chain }, { on := 1, ground := Go.Ground.guard }], guard := some (1, true) }) (by kernel_rfl) (fun K hK => ?_)
    rw [if_pos (by kernel_rfl)]
    go_simp
    go_wp2_with (go_at_call 30; refine (goodId_n _ _ _ _).mono ?_; rintro e w104 ⟨rfl, h0⟩; rw [Hr1.out])
    have h9 : Below w4.heap.size w4 w104 := by rw [h0.out]; exact alloc1 _ _
    have HD := HC.out.below h9
    clear h0
    refine hK.out _ _ HD ?_
    clear hK K HC
    have HC : Hid (Fm w w104 g1 g3 k i0 i1 i2 bu ke u0 u1 u2 b0 b1 b2 sz et pt pa pn pc tm dy) := HD
    clear HD
    clear h9
    try simp only [List.getElem_toArray, List.getElem_cons_zero, List.getElem_cons_succ, Act.put, List.setIfInBounds_toArray, List.set_cons_zero, List.set_cons_succ]
    cases r1 with
    | false =>
      refine seq_plain (fun _ _ _ d _ h => by cases d <;> exact h) _ [(some 16, .bool false), (some 17, .bool false), (some 18, undef), (some 19, undef), (some 20, undef), (some 21, undef), (some 23, undef), (some 24, undef), (some 25, undef), (some 22, undef), (some 26, undef), (some 27, .bool false), (some 28, .bool false), (some 29, undef), (some 30, undef), (some 31, undef), (some 32, undef), (some 34, undef), (some 35, undef), (some 36, undef), (some 33, undef), (some 37, undef), (some 38, .bool false), (some 39, .bool false), (some 40, undef), (some 41, undef), (some 42, undef), (some 43, undef), (some 45, undef), (some 46, undef), (some 47, undef), (some 48, undef), (some 44, undef), (some 49, undef), (some 50, .bool false), (some 51, .bool false), (some 52, undef), (some 53, undef), (some 54, undef), (some 55, undef), (some 65, undef), (some 66, undef), (some 67, undef), (some 68, undef), (some 56, undef), (some 57, undef), (some 58, undef), (some 59, undef), (some 60, undef), (some 61, undef), (some 62, undef), (some 63, undef), (some 64, undef), (some 69, undef), (some 70, .bool false), (some 71, .bool false), (some 72, undef), (some 73, undef), (some 74, undef), (some 75, undef), (some 77, undef), (some 78, undef), (some 79, undef), (some 76, undef), (some 80, undef), (some 81, .bool false), (some 82, .bool false), (some 83, undef), (some 84, undef), (some 85, undef), (some 86, undef), (some 88, undef), (some 89, undef), (some 90, undef), (some 91, undef), (some 87, undef), (some 92, undef), (some 93, .bool false), (some 94, .bool false), (some 95, undef), (some 96, undef), (some 97, undef), (some 98, undef), (some 100, undef), (some 101, undef), (some 102, undef), (some 99, undef), (some 103, undef), (some 104, .bool false), (some 105, .bool false), (some 106, undef), (some 107, undef), (some 108, undef), (some 109, undef), (some 111, undef), (some 112, undef), (some 113, undef), (some 110, undef), (some 114, undef), (some 115, .bool false), (some 2, .bool false)] _ _ (by kernel_rfl) HC.out ?_
      simp only [putAll, List.getElem_toArray, List.getElem_cons_zero, List.getElem_cons_succ, Act.put, List.setIfInBounds_toArray, List.set_cons_zero, List.set_cons_succ]
      have BE : Hid (Below w.heap.size w _) := HC.out.bel
      clear HC
      go_wp2
      go_ret
      rw [EV.out]
      exact ⟨by simp, BE.out⟩
    | true =>
      refine seq_take (o := { dst := some 16, op := Go.Op.pick (Go.Operand.tmp 12) (Go.Operand.tmp 15) (Go.Operand.const (Go.Value.bool false)), type := 4, pos := "form.go:44", after := #[{ on := 1, ground := Go.Ground.data }, { on := 4, ground := Go.Ground.data }], guard := none }) (v := .bool true) (by kernel_rfl) (fun _ _ _ h => h) (Or.inl ⟨by kernel_rfl, fun W hW => by go_simp⟩) ?_
      simp only [List.getElem_toArray, List.getElem_cons_zero, List.getElem_cons_succ, Act.put, List.setIfInBounds_toArray, List.set_cons_zero, List.set_cons_succ]
      refine seq_take (o := { dst := some 17, op := Go.Op.move (Go.Operand.tmp 16), type := 4, pos := "form.go:44", after := #[{ on := 5, ground := Go.Ground.data }, { on := 4, ground := Go.Ground.chain }], guard := none }) (v := .bool true) (by kernel_rfl) (fun _ _ _ h => h) (Or.inl ⟨by kernel_rfl, fun W hW => by go_simp⟩) ?_
      simp only [List.getElem_toArray, List.getElem_cons_zero, List.getElem_cons_succ, Act.put, List.setIfInBounds_toArray, List.set_cons_zero, List.set_cons_succ]
      refine seq_take (o := { dst := some 18, op := Go.Op.fieldAddr 98 (Go.Operand.tmp 3) 0, type := 0, pos := "form.go:44", after := #[{ on := 6, ground := Go.Ground.guard }], guard := some (6, true) }) (v := .pointer (some ⟨g3, 0, none⟩)) (by kernel_rfl) (fun _ _ _ h => h) (Or.inl ⟨by kernel_rfl, fun W hW => by go_simp⟩) ?_
      simp only [List.getElem_toArray, List.getElem_cons_zero, List.getElem_cons_succ, Act.put, List.setIfInBounds_toArray, List.set_cons_zero, List.set_cons_succ]
      refine seq_take (o := { dst := some 19, op := Go.Op.load 4 (Go.Operand.tmp 18), type := 4, pos := "form.go:44", after := #[{ on := 7, ground := Go.Ground.data }, { on := 6, ground := Go.Ground.guard }], guard := some (6, true) }) (v := .bool (fB k)) (by kernel_rfl) (fun _ _ _ h => h) (Or.inl ⟨by kernel_rfl, fun W hW => by have q0 := hW.f0; go_simp⟩) ?_
      simp only [List.getElem_toArray, List.getElem_cons_zero, List.getElem_cons_succ, Act.put, List.setIfInBounds_toArray, List.set_cons_zero, List.set_cons_succ]
      refine seq_take (o := { dst := some 20, op := Go.Op.fieldAddr 28 (Go.Operand.tmp 1) 2, type := 0, pos := "form.go:44", after := #[{ on := 6, ground := Go.Ground.guard }], guard := some (6, true) }) (v := .pointer (some ⟨g1, 4, none⟩)) (by kernel_rfl) (fun _ _ _ h => h) (Or.inl ⟨by kernel_rfl, fun W hW => by go_simp⟩) ?_
      simp only [List.getElem_toArray, List.getElem_cons_zero, List.getElem_cons_succ, Act.put, List.setIfInBounds_toArray, List.set_cons_zero, List.set_cons_succ]
      refine seq_take (o := { dst := some 21, op := Go.Op.load 9 (Go.Operand.tmp 20), type := 9, pos := "form.go:44", after := #[{ on := 9, ground := Go.Ground.data }, { on := 6, ground := Go.Ground.guard }], guard := some (6, true) }) (v := .string bu) (by kernel_rfl) (fun _ _ _ h => h) (Or.inl ⟨by kernel_rfl, fun W hW => by have q0 := hW.c4; go_simp⟩) ?_
      simp only [List.getElem_toArray, List.getElem_cons_zero, List.getElem_cons_succ, Act.put, List.setIfInBounds_toArray, List.set_cons_zero, List.set_cons_succ]
      refine seq_take (o := { dst := some 23, op := Go.Op.fieldAddr 28 (Go.Operand.tmp 1) 2, type := 0, pos := "form.go:44", after := #[{ on := 6, ground := Go.Ground.guard }], guard := some (6, true) }) (v := .pointer (some ⟨g1, 4, none⟩)) (by kernel_rfl) (fun _ _ _ h => h) (Or.inl ⟨by kernel_rfl, fun W hW => by go_simp⟩) ?_
      simp only [List.getElem_toArray, List.getElem_cons_zero, List.getElem_cons_succ, Act.put, List.setIfInBounds_toArray, List.set_cons_zero, List.set_cons_succ]
      refine seq_take (o := { dst := some 24, op := Go.Op.load 9 (Go.Operand.tmp 23), type := 9, pos := "form.go:44", after := #[{ on := 12, ground := Go.Ground.data }, { on := 6, ground := Go.Ground.guard }], guard := some (6, true) }) (v := .string bu) (by kernel_rfl) (fun _ _ _ h => h) (Or.inl ⟨by kernel_rfl, fun W hW => by have q0 := hW.c4; go_simp⟩) ?_
      simp only [List.getElem_toArray, List.getElem_cons_zero, List.getElem_cons_succ, Act.put, List.setIfInBounds_toArray, List.set_cons_zero, List.set_cons_succ]
      refine seq_take (o := { dst := some 25, op := Go.Op.binOp Go.BinOp.eql 9 (Go.Operand.tmp 24) (Go.Operand.const (Go.Value.string { data := #[] })) 9, type := 4, pos := "form.go:44", after := #[{ on := 13, ground := Go.Ground.data }, { on := 6, ground := Go.Ground.guard }], guard := some (6, true) }) (v := .bool z2) (by kernel_rfl) (fun _ _ _ h => h) (Or.inl ⟨by kernel_rfl, fun W hW => by have q0 := Ez2; go_simp; try (first | exact Dz2 | exact Dz2')⟩) ?_
      simp only [List.getElem_toArray, List.getElem_cons_zero, List.getElem_cons_succ, Act.put, List.setIfInBounds_toArray, List.set_cons_zero, List.set_cons_succ]
      refine seq_call (o := { dst := some 22, op := Go.Op.call { callee := Go.Callee.value (Go.Operand.func 26), args := #[Go.Operand.tmp 21], argTypes := #[9] }, type := 4, pos := "form.go:45", after := #[{ on := 10, ground := Go.Ground.data }, { on := 6, ground := Go.Ground.chain }, { on := 6, ground := Go.Ground.guard }], guard := some (6, true) }) (by kernel_rfl) (fun K hK => ?_)
      rw [if_pos (by kernel_rfl)]
      go_simp
      go_wp2_with (go_at_call 26; refine (goodBucket_n _ _).mono ?_; rintro e w0 ⟨rfl, h0⟩; rw [h0, Hb2.out]; clear h0)
      refine hK.out _ _ HC.out ?_
      clear hK K
      try simp only [List.getElem_toArray, List.getElem_cons_zero, List.getElem_cons_succ, Act.put, List.setIfInBounds_toArray, List.set_cons_zero, List.set_cons_succ]
      refine seq_call (o := { dst := some 26, op := Go.Op.call { callee := Go.Callee.value (Go.Operand.func 63), args := #[Go.Operand.tmp 19, Go.Operand.tmp 22, Go.Operand.tmp 25], argTypes := #[4, 4, 4] }, type := 4, pos := "form.go:45", after := #[{ on := 8, ground := Go.Ground.data }, { on := 11, ground := Go.Ground.data }, { on := 14, ground := Go.Ground.data }, { on := 11, ground := Go.Ground.chain }, { on := 6, ground := Go.Ground.guard }], guard := some (6, true) }) (by kernel_rfl) (fun K hK => ?_)
      rw [if_pos (by kernel_rfl)]
      go_simp
      go_wp2_with (go_at_call 63; refine (goz_n _ _ _ _).mono ?_; rintro e w0 ⟨rfl, h0⟩; rw [h0, Hr2.out]; clear h0)
      refine hK.out _ _ HC.out ?_
      clear hK K
      try simp only [List.getElem_toArray, List.getElem_cons_zero, List.getElem_cons_succ, Act.put, List.setIfInBounds_toArray, List.set_cons_zero, List.set_cons_succ]
      cases r2 with
      | false =>
        refine seq_plain (fun _ _ _ d _ h => by cases d <;> exact h) _ [(some 27, .bool false), (some 28, .bool false), (some 29, undef), (some 30, undef), (some 31, undef), (some 32, undef), (some 34, undef), (some 35, undef), (some 36, undef), (some 33, undef), (some 37, undef), (some 38, .bool false), (some 39, .bool false), (some 40, undef), (some 41, undef), (some 42, undef), (some 43, undef), (some 45, undef), (some 46, undef), (some 47, undef), (some 48, undef), (some 44, undef), (some 49, undef), (some 50, .bool false), (some 51, .bool false), (some 52, undef), (some 53, undef), (some 54, undef), (some 55, undef), (some 65, undef), (some 66, undef), (some 67, undef), (some 68, undef), (some 56, undef), (some 57, undef), (some 58, undef), (some 59, undef), (some 60, undef), (some 61, undef), (some 62, undef), (some 63, undef), (some 64, undef), (some 69, undef), (some 70, .bool false), (some 71, .bool false), (some 72, undef), (some 73, undef), (some 74, undef), (some 75, undef), (some 77, undef), (some 78, undef), (some 79, undef), (some 76, undef), (some 80, undef), (some 81, .bool false), (some 82, .bool false), (some 83, undef), (some 84, undef), (some 85, undef), (some 86, undef), (some 88, undef), (some 89, undef), (some 90, undef), (some 91, undef), (some 87, undef), (some 92, undef), (some 93, .bool false), (some 94, .bool false), (some 95, undef), (some 96, undef), (some 97, undef), (some 98, undef), (some 100, undef), (some 101, undef), (some 102, undef), (some 99, undef), (some 103, undef), (some 104, .bool false), (some 105, .bool false), (some 106, undef), (some 107, undef), (some 108, undef), (some 109, undef), (some 111, undef), (some 112, undef), (some 113, undef), (some 110, undef), (some 114, undef), (some 115, .bool false), (some 2, .bool false)] _ _ (by kernel_rfl) HC.out ?_
        simp only [putAll, List.getElem_toArray, List.getElem_cons_zero, List.getElem_cons_succ, Act.put, List.setIfInBounds_toArray, List.set_cons_zero, List.set_cons_succ]
        have BE : Hid (Below w.heap.size w _) := HC.out.bel
        clear HC
        go_wp2
        go_ret
        rw [EV.out]
        exact ⟨by simp, BE.out⟩
      | true =>
        refine seq_take (o := { dst := some 27, op := Go.Op.pick (Go.Operand.tmp 17) (Go.Operand.tmp 26) (Go.Operand.const (Go.Value.bool false)), type := 4, pos := "form.go:44", after := #[{ on := 6, ground := Go.Ground.data }, { on := 15, ground := Go.Ground.data }], guard := none }) (v := .bool true) (by kernel_rfl) (fun _ _ _ h => h) (Or.inl ⟨by kernel_rfl, fun W hW => by go_simp⟩) ?_
        simp only [List.getElem_toArray, List.getElem_cons_zero, List.getElem_cons_succ, Act.put, List.setIfInBounds_toArray, List.set_cons_zero, List.set_cons_succ]
        refine seq_take (o := { dst := some 28, op := Go.Op.move (Go.Operand.tmp 27), type := 4, pos := "form.go:44", after := #[{ on := 16, ground := Go.Ground.data }, { on := 15, ground := Go.Ground.chain }], guard := none }) (v := .bool true) (by kernel_rfl) (fun _ _ _ h => h) (Or.inl ⟨by kernel_rfl, fun W hW => by go_simp⟩) ?_
        simp only [List.getElem_toArray, List.getElem_cons_zero, List.getElem_cons_succ, Act.put, List.setIfInBounds_toArray, List.set_cons_zero, List.set_cons_succ]
        refine seq_take (o := { dst := some 29, op := Go.Op.fieldAddr 98 (Go.Operand.tmp 3) 1, type := 0, pos := "form.go:44", after := #[{ on := 17, ground := Go.Ground.guard }], guard := some (17, true) }) (v := .pointer (some ⟨g3, 1, none⟩)) (by kernel_rfl) (fun _ _ _ h => h) (Or.inl ⟨by kernel_rfl, fun W hW => by go_simp⟩) ?_
        simp only [List.getElem_toArray, List.getElem_cons_zero, List.getElem_cons_succ, Act.put, List.setIfInBounds_toArray, List.set_cons_zero, List.set_cons_succ]
        refine seq_take (o := { dst := some 30, op := Go.Op.load 4 (Go.Operand.tmp 29), type := 4, pos := "form.go:44", after := #[{ on := 18, ground := Go.Ground.data }, { on := 17, ground := Go.Ground.guard }], guard := some (17, true) }) (v := .bool (fK k)) (by kernel_rfl) (fun _ _ _ h => h) (Or.inl ⟨by kernel_rfl, fun W hW => by have q0 := hW.f1; go_simp⟩) ?_
        simp only [List.getElem_toArray, List.getElem_cons_zero, List.getElem_cons_succ, Act.put, List.setIfInBounds_toArray, List.set_cons_zero, List.set_cons_succ]
        refine seq_take (o := { dst := some 31, op := Go.Op.fieldAddr 28 (Go.Operand.tmp 1) 3, type := 0, pos := "form.go:44", after := #[{ on := 17, ground := Go.Ground.guard }], guard := some (17, true) }) (v := .pointer (some ⟨g1, 5, none⟩)) (by kernel_rfl) (fun _ _ _ h => h) (Or.inl ⟨by kernel_rfl, fun W hW => by go_simp⟩) ?_
        simp only [List.getElem_toArray, List.getElem_cons_zero, List.getElem_cons_succ, Act.put, List.setIfInBounds_toArray, List.set_cons_zero, List.set_cons_succ]
        refine seq_take (o := { dst := some 32, op := Go.Op.load 9 (Go.Operand.tmp 31), type := 9, pos := "form.go:44", after := #[{ on := 20, ground := Go.Ground.data }, { on := 17, ground := Go.Ground.guard }], guard := some (17, true) }) (v := .string ke) (by kernel_rfl) (fun _ _ _ h => h) (Or.inl ⟨by kernel_rfl, fun W hW => by have q0 := hW.c5; go_simp⟩) ?_
        simp only [List.getElem_toArray, List.getElem_cons_zero, List.getElem_cons_succ, Act.put, List.setIfInBounds_toArray, List.set_cons_zero, List.set_cons_succ]
        refine seq_take (o := { dst := some 34, op := Go.Op.fieldAddr 28 (Go.Operand.tmp 1) 3, type := 0, pos := "form.go:44", after := #[{ on := 17, ground := Go.Ground.guard }], guard := some (17, true) }) (v := .pointer (some ⟨g1, 5, none⟩)) (by kernel_rfl) (fun _ _ _ h => h) (Or.inl ⟨by kernel_rfl, fun W hW => by go_simp⟩) ?_
        simp only [List.getElem_toArray, List.getElem_cons_zero, List.getElem_cons_succ, Act.put, List.setIfInBounds_toArray, List.set_cons_zero, List.set_cons_succ]
        refine seq_take (o := { dst := some 35, op := Go.Op.load 9 (Go.Operand.tmp 34), type := 9, pos := "form.go:44", after := #[{ on := 23, ground := Go.Ground.data }, { on := 17, ground := Go.Ground.guard }], guard := some (17, true) }) (v := .string ke) (by kernel_rfl) (fun _ _ _ h => h) (Or.inl ⟨by kernel_rfl, fun W hW => by have q0 := hW.c5; go_simp⟩) ?_
        simp only [List.getElem_toArray, List.getElem_cons_zero, List.getElem_cons_succ, Act.put, List.setIfInBounds_toArray, List.set_cons_zero, List.set_cons_succ]
        refine seq_take (o := { dst := some 36, op := Go.Op.binOp Go.BinOp.eql 9 (Go.Operand.tmp 35) (Go.Operand.const (Go.Value.string { data := #[] })) 9, type := 4, pos := "form.go:44", after := #[{ on := 24, ground := Go.Ground.data }, { on := 17, ground := Go.Ground.guard }], guard := some (17, true) }) (v := .bool z3) (by kernel_rfl) (fun _ _ _ h => h) (Or.inl ⟨by kernel_rfl, fun W hW => by have q0 := Ez3; go_simp; try (first | exact Dz3 | exact Dz3')⟩) ?_
        simp only [List.getElem_toArray, List.getElem_cons_zero, List.getElem_cons_succ, Act.put, List.setIfInBounds_toArray, List.set_cons_zero, List.set_cons_succ]
        refine seq_call (o := { dst := some 33, op := Go.Op.call { callee := Go.Callee.value (Go.Operand.func 28), args := #[Go.Operand.tmp 32], argTypes := #[9] }, type := 4, pos := "form.go:46", after := #[{ on := 21, ground := Go.Ground.data }, { on := 17, ground := Go.Ground.chain }, { on := 17, ground := Go.Ground.guard }], guard := some (17, true) }) (by kernel_rfl) (fun K hK => ?_)
        rw [if_pos (by kernel_rfl)]
        go_simp
        go_wp2_with (go_at_call 28; refine (goodKey_n _ _).mono ?_; rintro e w0 ⟨rfl, h0⟩; rw [h0, Hb3.out]; clear h0)
        refine hK.out _ _ HC.out ?_
        clear hK K
        try simp only [List.getElem_toArray, List.getElem_cons_zero, List.getElem_cons_succ, Act.put, List.setIfInBounds_toArray, List.set_cons_zero, List.set_cons_succ]
        refine seq_call (o := { dst := some 37, op := Go.Op.call { callee := Go.Callee.value (Go.Operand.func 63), args := #[Go.Operand.tmp 30, Go.Operand.tmp 33, Go.Operand.tmp 36], argTypes := #[4, 4, 4] }, type := 4, pos := "form.go:46", after := #[{ on := 19, ground := Go.Ground.data }, { on := 22, ground := Go.Ground.data }, { on := 25, ground := Go.Ground.data }, { on := 22, ground := Go.Ground.chain }, { on := 17, ground := Go.Ground.guard }], guard := some (17, true) }) (by kernel_rfl) (fun K hK => ?_)
        rw [if_pos (by kernel_rfl)]
        go_simp
        go_wp2_with (go_at_call 63; refine (goz_n _ _ _ _).mono ?_; rintro e w0 ⟨rfl, h0⟩; rw [h0, Hr3.out]; clear h0)
        refine hK.out _ _ HC.out ?_
        clear hK K
        try simp only [List.getElem_toArray, List.getElem_cons_zero, List.getElem_cons_succ, Act.put, List.setIfInBounds_toArray, List.set_cons_zero, List.set_cons_succ]
        cases r3 with
        | false =>
          refine seq_plain (fun _ _ _ d _ h => by cases d <;> exact h) _ [(some 38, .bool false), (some 39, .bool false), (some 40, undef), (some 41, undef), (some 42, undef), (some 43, undef), (some 45, undef), (some 46, undef), (some 47, undef), (some 48, undef), (some 44, undef), (some 49, undef), (some 50, .bool false), (some 51, .bool false), (some 52, undef), (some 53, undef), (some 54, undef), (some 55, undef), (some 65, undef), (some 66, undef), (some 67, undef), (some 68, undef), (some 56, undef), (some 57, undef), (some 58, undef), (some 59, undef), (some 60, undef), (some 61, undef), (some 62, undef), (some 63, undef), (some 64, undef), (some 69, undef), (some 70, .bool false), (some 71, .bool false), (some 72, undef), (some 73, undef), (some 74, undef), (some 75, undef), (some 77, undef), (some 78, undef), (some 79, undef), (some 76, undef), (some 80, undef), (some 81, .bool false), (some 82, .bool false), (some 83, undef), (some 84, undef), (some 85, undef), (some 86, undef), (some 88, undef), (some 89, undef), (some 90, undef), (some 91, undef), (some 87, undef), (some 92, undef), (some 93, .bool false), (some 94, .bool false), (some 95, undef), (some 96, undef), (some 97, undef), (some 98, undef), (some 100, undef), (some 101, undef), (some 102, undef), (some 99, undef), (some 103, undef), (some 104, .bool false), (some 105, .bool false), (some 106, undef), (some 107, undef), (some 108, undef), (some 109, undef), (some 111, undef), (some 112, undef), (some 113, undef), (some 110, undef), (some 114, undef), (some 115, .bool false), (some 2, .bool false)] _ _ (by kernel_rfl) HC.out ?_
          simp only [putAll, List.getElem_toArray, List.getElem_cons_zero, List.getElem_cons_succ, Act.put, List.setIfInBounds_toArray, List.set_cons_zero, List.set_cons_succ]
          have BE : Hid (Below w.heap.size w _) := HC.out.bel
          clear HC
          go_wp2
          go_ret
          rw [EV.out]
          exact ⟨by simp, BE.out⟩
        | true =>
          refine seq_take (o := { dst := some 38, op := Go.Op.pick (Go.Operand.tmp 28) (Go.Operand.tmp 37) (Go.Operand.const (Go.Value.bool false)), type := 4, pos := "form.go:44", after := #[{ on := 17, ground := Go.Ground.data }, { on := 26, ground := Go.Ground.data }], guard := none }) (v := .bool true) (by kernel_rfl) (fun _ _ _ h => h) (Or.inl ⟨by kernel_rfl, fun W hW => by go_simp⟩) ?_
          simp only [List.getElem_toArray, List.getElem_cons_zero, List.getElem_cons_succ, Act.put, List.setIfInBounds_toArray, List.set_cons_zero, List.set_cons_succ]
          refine seq_take (o := { dst := some 39, op := Go.Op.move (Go.Operand.tmp 38), type := 4, pos := "form.go:44", after := #[{ on := 27, ground := Go.Ground.data }, { on := 26, ground := Go.Ground.chain }], guard := none }) (v := .bool true) (by kernel_rfl) (fun _ _ _ h => h) (Or.inl ⟨by kernel_rfl, fun W hW => by go_simp⟩) ?_
          simp only [List.getElem_toArray, List.getElem_cons_zero, List.getElem_cons_succ, Act.put, List.setIfInBounds_toArray, List.set_cons_zero, List.set_cons_succ]
          refine seq_take (o := { dst := some 40, op := Go.Op.fieldAddr 98 (Go.Operand.tmp 3) 2, type := 0, pos := "form.go:44", after := #[{ on := 28, ground := Go.Ground.guard }], guard := some (28, true) }) (v := .pointer (some ⟨g3, 2, none⟩)) (by kernel_rfl) (fun _ _ _ h => h) (Or.inl ⟨by kernel_rfl, fun W hW => by go_simp⟩) ?_
          simp only [List.getElem_toArray, List.getElem_cons_zero, List.getElem_cons_succ, Act.put, List.setIfInBounds_toArray, List.set_cons_zero, List.set_cons_succ]
          refine seq_take (o := { dst := some 41, op := Go.Op.load 4 (Go.Operand.tmp 40), type := 4, pos := "form.go:44", after := #[{ on := 29, ground := Go.Ground.data }, { on := 28, ground := Go.Ground.guard }], guard := some (28, true) }) (v := .bool (fU k)) (by kernel_rfl) (fun _ _ _ h => h) (Or.inl ⟨by kernel_rfl, fun W hW => by have q0 := hW.f2; go_simp⟩) ?_
          simp only [List.getElem_toArray, List.getElem_cons_zero, List.getElem_cons_succ, Act.put, List.setIfInBounds_toArray, List.set_cons_zero, List.set_cons_succ]
          refine seq_take (o := { dst := some 42, op := Go.Op.fieldAddr 28 (Go.Operand.tmp 1) 4, type := 0, pos := "form.go:44", after := #[{ on := 28, ground := Go.Ground.guard }], guard := some (28, true) }) (v := .pointer (some ⟨g1, 6, none⟩)) (by kernel_rfl) (fun _ _ _ h => h) (Or.inl ⟨by kernel_rfl, fun W hW => by go_simp⟩) ?_
          simp only [List.getElem_toArray, List.getElem_cons_zero, List.getElem_cons_succ, Act.put, List.setIfInBounds_toArray, List.set_cons_zero, List.set_cons_succ]
          refine seq_take (o := { dst := some 43, op := Go.Op.load 23 (Go.Operand.tmp 42), type := 23, pos := "form.go:44", after := #[{ on := 31, ground := Go.Ground.data }, { on := 28, ground := Go.Ground.guard }], guard := some (28, true) }) (v := .agg #[.int .i64 u0, .int .i64 u1, .int .i64 u2]) (by kernel_rfl) (fun _ _ _ h => h) (Or.inl ⟨by kernel_rfl, fun W hW => by have q0 := hW.c6; have q1 := hW.c7; have q2 := hW.c8; go_simp⟩) ?_
          simp only [List.getElem_toArray, List.getElem_cons_zero, List.getElem_cons_succ, Act.put, List.setIfInBounds_toArray, List.set_cons_zero, List.set_cons_succ]
          refine seq_take (o := { dst := some 45, op := Go.Op.fieldAddr 28 (Go.Operand.tmp 1) 4, type := 0, pos := "form.go:44", after := #[{ on := 28, ground := Go.Ground.guard }], guard := some (28, true) }) (v := .pointer (some ⟨g1, 6, none⟩)) (by kernel_rfl) (fun _ _ _ h => h) (Or.inl ⟨by kernel_rfl, fun W hW => by go_simp⟩) ?_
          simp only [List.getElem_toArray, List.getElem_cons_zero, List.getElem_cons_succ, Act.put, List.setIfInBounds_toArray, List.set_cons_zero, List.set_cons_succ]
          refine seq_take (o := { dst := some 46, op := Go.Op.load 23 (Go.Operand.tmp 45), type := 23, pos := "form.go:44", after := #[{ on := 34, ground := Go.Ground.data }, { on := 28, ground := Go.Ground.guard }], guard := some (28, true) }) (v := .agg #[.int .i64 u0, .int .i64 u1, .int .i64 u2]) (by kernel_rfl) (fun _ _ _ h => h) (Or.inl ⟨by kernel_rfl, fun W hW => by have q0 := hW.c6; have q1 := hW.c7; have q2 := hW.c8; go_simp⟩) ?_
          simp only [List.getElem_toArray, List.getElem_cons_zero, List.getElem_cons_succ, Act.put, List.setIfInBounds_toArray, List.set_cons_zero, List.set_cons_succ]
          refine seq_take (o := { dst := some 47, op := Go.Op.build 23 #[], type := 23, pos := "form.go:44", after := #[{ on := 28, ground := Go.Ground.guard }], guard := some (28, true) }) (v := .agg #[.int .i64 0, .int .i64 0, .int .i64 0]) (by kernel_rfl) (fun _ _ _ h => h) (Or.inl ⟨by kernel_rfl, fun W hW => by go_simp⟩) ?_
          simp only [List.getElem_toArray, List.getElem_cons_zero, List.getElem_cons_succ, Act.put, List.setIfInBounds_toArray, List.set_cons_zero, List.set_cons_succ]
          refine seq_take (o := { dst := some 48, op := Go.Op.binOp Go.BinOp.eql 23 (Go.Operand.tmp 46) (Go.Operand.tmp 47) 23, type := 4, pos := "form.go:44", after := #[{ on := 35, ground := Go.Ground.data }, { on := 36, ground := Go.Ground.data }, { on := 28, ground := Go.Ground.guard }], guard := some (28, true) }) (v := .bool z4) (by kernel_rfl) (fun _ _ _ h => h) (Or.inl ⟨by kernel_rfl, fun W hW => by have q0 := Ez4; go_simp⟩) ?_
          simp only [List.getElem_toArray, List.getElem_cons_zero, List.getElem_cons_succ, Act.put, List.setIfInBounds_toArray, List.set_cons_zero, List.set_cons_succ]
          refine seq_call (o := { dst := some 44, op := Go.Op.call { callee := Go.Callee.value (Go.Operand.func 30), args := #[Go.Operand.tmp 43], argTypes := #[23] }, type := 4, pos := "form.go:47", after := #[{ on := 32, ground := Go.Ground.data }, { on := 28, ground := Go.Ground.chain }, { on := 28, ground := Go.Ground.guard }], guard := some (28, true) }) (by kernel_rfl) (fun K hK => ?_)
          rw [if_pos (by kernel_rfl)]
          go_simp
          go_wp2_with (go_at_call 30; refine (goodId_n _ _ _ _).mono ?_; rintro e w133 ⟨rfl, h0⟩; rw [Hb4.out])
          have h9 : Below w104.heap.size w104 w133 := by rw [h0.out]; exact alloc1 _ _
          have HD := HC.out.below h9
          clear h0
          refine hK.out _ _ HD ?_
          clear hK K HC
          have HC : Hid (Fm w w133 g1 g3 k i0 i1 i2 bu ke u0 u1 u2 b0 b1 b2 sz et pt pa pn pc tm dy) := HD
          clear HD
          clear h9
          try simp only [List.getElem_toArray, List.getElem_cons_zero, List.getElem_cons_succ, Act.put, List.setIfInBounds_toArray, List.set_cons_zero, List.set_cons_succ]
          refine seq_call (o := { dst := some 49, op := Go.Op.call { callee := Go.Callee.value (Go.Operand.func 63), args := #[Go.Operand.tmp 41, Go.Operand.tmp 44, Go.Operand.tmp 48], argTypes := #[4, 4, 4] }, type := 4, pos := "form.go:47", after := #[{ on := 30, ground := Go.Ground.data }, { on := 33, ground := Go.Ground.data }, { on := 37, ground := Go.Ground.data }, { on := 33, ground := Go.Ground.chain }, { on := 28, ground := Go.Ground.guard }], guard := some (28, true) }) (by kernel_rfl) (fun K hK => ?_)
          rw [if_pos (by kernel_rfl)]
          go_simp
          go_wp2_with (go_at_call 63; refine (goz_n _ _ _ _).mono ?_; rintro e w0 ⟨rfl, h0⟩; rw [h0, Hr4.out]; clear h0)
          refine hK.out _ _ HC.out ?_
          clear hK K
          try simp only [List.getElem_toArray, List.getElem_cons_zero, List.getElem_cons_succ, Act.put, List.setIfInBounds_toArray, List.set_cons_zero, List.set_cons_succ]
          cases r4 with
          | false =>
            refine seq_plain (fun _ _ _ d _ h => by cases d <;> exact h) _ [(some 50, .bool false), (some 51, .bool false), (some 52, undef), (some 53, undef), (some 54, undef), (some 55, undef), (some 65, undef), (some 66, undef), (some 67, undef), (some 68, undef), (some 56, undef), (some 57, undef), (some 58, undef), (some 59, undef), (some 60, undef), (some 61, undef), (some 62, undef), (some 63, undef), (some 64, undef), (some 69, undef), (some 70, .bool false), (some 71, .bool false), (some 72, undef), (some 73, undef), (some 74, undef), (some 75, undef), (some 77, undef), (some 78, undef), (some 79, undef), (some 76, undef), (some 80, undef), (some 81, .bool false), (some 82, .bool false), (some 83, undef), (some 84, undef), (some 85, undef), (some 86, undef), (some 88, undef), (some 89, undef), (some 90, undef), (some 91, undef), (some 87, undef), (some 92, undef), (some 93, .bool false), (some 94, .bool false), (some 95, undef), (some 96, undef), (some 97, undef), (some 98, undef), (some 100, undef), (some 101, undef), (some 102, undef), (some 99, undef), (some 103, undef), (some 104, .bool false), (some 105, .bool false), (some 106, undef), (some 107, undef), (some 108, undef), (some 109, undef), (some 111, undef), (some 112, undef), (some 113, undef), (some 110, undef), (some 114, undef), (some 115, .bool false), (some 2, .bool false)] _ _ (by kernel_rfl) HC.out ?_
            simp only [putAll, List.getElem_toArray, List.getElem_cons_zero, List.getElem_cons_succ, Act.put, List.setIfInBounds_toArray, List.set_cons_zero, List.set_cons_succ]
            have BE : Hid (Below w.heap.size w _) := HC.out.bel
            clear HC
            go_wp2
            go_ret
            rw [EV.out]
            exact ⟨by simp, BE.out⟩
          | true =>
            refine seq_take (o := { dst := some 50, op := Go.Op.pick (Go.Operand.tmp 39) (Go.Operand.tmp 49) (Go.Operand.const (Go.Value.bool false)), type := 4, pos := "form.go:44", after := #[{ on := 28, ground := Go.Ground.data }, { on := 38, ground := Go.Ground.data }], guard := none }) (v := .bool true) (by kernel_rfl) (fun _ _ _ h => h) (Or.inl ⟨by kernel_rfl, fun W hW => by go_simp⟩) ?_
            simp only [List.getElem_toArray, List.getElem_cons_zero, List.getElem_cons_succ, Act.put, List.setIfInBounds_toArray, List.set_cons_zero, List.set_cons_succ]
            refine seq_take (o := { dst := some 51, op := Go.Op.move (Go.Operand.tmp 50), type := 4, pos := "form.go:44", after := #[{ on := 39, ground := Go.Ground.data }, { on := 38, ground := Go.Ground.chain }], guard := none }) (v := .bool true) (by kernel_rfl) (fun _ _ _ h => h) (Or.inl ⟨by kernel_rfl, fun W hW => by go_simp⟩) ?_
            simp only [List.getElem_toArray, List.getElem_cons_zero, List.getElem_cons_succ, Act.put, List.setIfInBounds_toArray, List.set_cons_zero, List.set_cons_succ]
            refine seq_take (o := { dst := some 52, op := Go.Op.fieldAddr 98 (Go.Operand.tmp 3) 3, type := 0, pos := "form.go:44", after := #[{ on := 40, ground := Go.Ground.guard }], guard := some (40, true) }) (v := .pointer (some ⟨g3, 3, none⟩)) (by kernel_rfl) (fun _ _ _ h => h) (Or.inl ⟨by kernel_rfl, fun W hW => by go_simp⟩) ?_
            simp only [List.getElem_toArray, List.getElem_cons_zero, List.getElem_cons_succ, Act.put, List.setIfInBounds_toArray, List.set_cons_zero, List.set_cons_succ]
            refine seq_take (o := { dst := some 53, op := Go.Op.load 4 (Go.Operand.tmp 52), type := 4, pos := "form.go:44", after := #[{ on := 41, ground := Go.Ground.data }, { on := 40, ground := Go.Ground.guard }], guard := some (40, true) }) (v := .bool (fP k)) (by kernel_rfl) (fun _ _ _ h => h) (Or.inl ⟨by kernel_rfl, fun W hW => by have q0 := hW.f3; go_simp⟩) ?_
            simp only [List.getElem_toArray, List.getElem_cons_zero, List.getElem_cons_succ, Act.put, List.setIfInBounds_toArray, List.set_cons_zero, List.set_cons_succ]
            refine seq_take (o := { dst := some 54, op := Go.Op.fieldAddr 28 (Go.Operand.tmp 1) 5, type := 0, pos := "form.go:44", after := #[{ on := 40, ground := Go.Ground.guard }], guard := some (40, true) }) (v := .pointer (some ⟨g1, 9, none⟩)) (by kernel_rfl) (fun _ _ _ h => h) (Or.inl ⟨by kernel_rfl, fun W hW => by go_simp⟩) ?_
            simp only [List.getElem_toArray, List.getElem_cons_zero, List.getElem_cons_succ, Act.put, List.setIfInBounds_toArray, List.set_cons_zero, List.set_cons_succ]
            refine seq_take (o := { dst := some 55, op := Go.Op.load 25 (Go.Operand.tmp 54), type := 25, pos := "form.go:44", after := #[{ on := 43, ground := Go.Ground.data }, { on := 40, ground := Go.Ground.guard }], guard := some (40, true) }) (v := .agg #[.int .i64 b0, .int .i64 b1, .int .i64 b2, .int .i64 sz, .string et]) (by kernel_rfl) (fun _ _ _ h => h) (Or.inl ⟨by kernel_rfl, fun W hW => by have q0 := hW.c9; have q1 := hW.c10; have q2 := hW.c11; have q3 := hW.c12; have q4 := hW.c13; go_simp⟩) ?_
            simp only [List.getElem_toArray, List.getElem_cons_zero, List.getElem_cons_succ, Act.put, List.setIfInBounds_toArray, List.set_cons_zero, List.set_cons_succ]
            refine seq_take (o := { dst := some 65, op := Go.Op.fieldAddr 28 (Go.Operand.tmp 1) 5, type := 0, pos := "form.go:44", after := #[{ on := 40, ground := Go.Ground.guard }], guard := some (40, true) }) (v := .pointer (some ⟨g1, 9, none⟩)) (by kernel_rfl) (fun _ _ _ h => h) (Or.inl ⟨by kernel_rfl, fun W hW => by go_simp⟩) ?_
            simp only [List.getElem_toArray, List.getElem_cons_zero, List.getElem_cons_succ, Act.put, List.setIfInBounds_toArray, List.set_cons_zero, List.set_cons_succ]
            refine seq_take (o := { dst := some 66, op := Go.Op.load 25 (Go.Operand.tmp 65), type := 25, pos := "form.go:44", after := #[{ on := 54, ground := Go.Ground.data }, { on := 40, ground := Go.Ground.guard }], guard := some (40, true) }) (v := .agg #[.int .i64 b0, .int .i64 b1, .int .i64 b2, .int .i64 sz, .string et]) (by kernel_rfl) (fun _ _ _ h => h) (Or.inl ⟨by kernel_rfl, fun W hW => by have q0 := hW.c9; have q1 := hW.c10; have q2 := hW.c11; have q3 := hW.c12; have q4 := hW.c13; go_simp⟩) ?_
            simp only [List.getElem_toArray, List.getElem_cons_zero, List.getElem_cons_succ, Act.put, List.setIfInBounds_toArray, List.set_cons_zero, List.set_cons_succ]
            refine seq_take (o := { dst := some 67, op := Go.Op.build 25 #[], type := 25, pos := "form.go:44", after := #[{ on := 40, ground := Go.Ground.guard }], guard := some (40, true) }) (v := .agg #[.int .i64 0, .int .i64 0, .int .i64 0, .int .i64 0, .string ⟨#[]⟩]) (by kernel_rfl) (fun _ _ _ h => h) (Or.inl ⟨by kernel_rfl, fun W hW => by go_simp⟩) ?_
            simp only [List.getElem_toArray, List.getElem_cons_zero, List.getElem_cons_succ, Act.put, List.setIfInBounds_toArray, List.set_cons_zero, List.set_cons_succ]
            refine seq_take (o := { dst := some 68, op := Go.Op.binOp Go.BinOp.eql 25 (Go.Operand.tmp 66) (Go.Operand.tmp 67) 25, type := 4, pos := "form.go:44", after := #[{ on := 55, ground := Go.Ground.data }, { on := 56, ground := Go.Ground.data }, { on := 40, ground := Go.Ground.guard }], guard := some (40, true) }) (v := .bool z5) (by kernel_rfl) (fun _ _ _ h => h) (Or.inl ⟨by kernel_rfl, fun W hW => by have q0 := Ez5; go_simp⟩) ?_
            simp only [List.getElem_toArray, List.getElem_cons_zero, List.getElem_cons_succ, Act.put, List.setIfInBounds_toArray, List.set_cons_zero, List.set_cons_succ]
            refine seq_call (o := { dst := some 56, op := Go.Op.call { callee := Go.Callee.value (Go.Operand.func 64), args := #[Go.Operand.tmp 55], argTypes := #[25] }, type := 4, pos := "form.go:48", after := #[{ on := 44, ground := Go.Ground.data }, { on := 40, ground := Go.Ground.chain }, { on := 40, ground := Go.Ground.guard }], guard := some (40, true) }) (by kernel_rfl) (fun K hK => ?_)
            rw [if_pos (by kernel_rfl)]
            go_simp
            go_wp2_with (go_at_call 64; refine (goodPiece_n _ _ _ _ _ _).mono ?_; rintro e w145 ⟨rfl, h0⟩; rw [Hb5.out])
            have HD := HC.out.below h0.out
            clear h0
            refine hK.out _ _ HD ?_
            clear hK K HC
            have HC : Hid (Fm w w145 g1 g3 k i0 i1 i2 bu ke u0 u1 u2 b0 b1 b2 sz et pt pa pn pc tm dy) := HD
            clear HD
            try simp only [List.getElem_toArray, List.getElem_cons_zero, List.getElem_cons_succ, Act.put, List.setIfInBounds_toArray, List.set_cons_zero, List.set_cons_succ]
            cases b5 with
            | false =>
              rw [Bool.false_and] at Hr5
              refine seq_take (o := { dst := some 57, op := Go.Op.move (Go.Operand.tmp 56), type := 4, pos := "form.go:44", after := #[{ on := 45, ground := Go.Ground.data }, { on := 45, ground := Go.Ground.chain }, { on := 40, ground := Go.Ground.guard }], guard := some (40, true) }) (v := .bool false) (by kernel_rfl) (fun _ _ _ h => h) (Or.inl ⟨by kernel_rfl, fun W hW => by go_simp⟩) ?_
              simp only [List.getElem_toArray, List.getElem_cons_zero, List.getElem_cons_succ, Act.put, List.setIfInBounds_toArray, List.set_cons_zero, List.set_cons_succ]
              refine seq_take (o := { dst := some 58, op := Go.Op.fieldAddr 28 (Go.Operand.tmp 1) 5, type := 0, pos := "form.go:44", after := #[{ on := 46, ground := Go.Ground.guard }], guard := some (46, true) }) (v := undef) (by kernel_rfl) (fun _ _ _ h => h) (Or.inr ⟨by kernel_rfl, rfl⟩) ?_
              simp only [List.getElem_toArray, List.getElem_cons_zero, List.getElem_cons_succ, Act.put, List.setIfInBounds_toArray, List.set_cons_zero, List.set_cons_succ]
              refine seq_take (o := { dst := some 59, op := Go.Op.fieldAddr 25 (Go.Operand.tmp 58) 0, type := 0, pos := "form.go:44", after := #[{ on := 47, ground := Go.Ground.data }, { on := 46, ground := Go.Ground.guard }], guard := some (46, true) }) (v := undef) (by kernel_rfl) (fun _ _ _ h => h) (Or.inr ⟨by kernel_rfl, rfl⟩) ?_
              simp only [List.getElem_toArray, List.getElem_cons_zero, List.getElem_cons_succ, Act.put, List.setIfInBounds_toArray, List.set_cons_zero, List.set_cons_succ]
              refine seq_take (o := { dst := some 60, op := Go.Op.load 23 (Go.Operand.tmp 59), type := 23, pos := "form.go:44", after := #[{ on := 48, ground := Go.Ground.data }, { on := 46, ground := Go.Ground.guard }], guard := some (46, true) }) (v := undef) (by kernel_rfl) (fun _ _ _ h => h) (Or.inr ⟨by kernel_rfl, rfl⟩) ?_
              simp only [List.getElem_toArray, List.getElem_cons_zero, List.getElem_cons_succ, Act.put, List.setIfInBounds_toArray, List.set_cons_zero, List.set_cons_succ]
              refine seq_take (o := { dst := some 61, op := Go.Op.fieldAddr 28 (Go.Operand.tmp 1) 1, type := 0, pos := "form.go:44", after := #[{ on := 46, ground := Go.Ground.guard }], guard := some (46, true) }) (v := undef) (by kernel_rfl) (fun _ _ _ h => h) (Or.inr ⟨by kernel_rfl, rfl⟩) ?_
              simp only [List.getElem_toArray, List.getElem_cons_zero, List.getElem_cons_succ, Act.put, List.setIfInBounds_toArray, List.set_cons_zero, List.set_cons_succ]
              refine seq_take (o := { dst := some 62, op := Go.Op.load 23 (Go.Operand.tmp 61), type := 23, pos := "form.go:44", after := #[{ on := 50, ground := Go.Ground.data }, { on := 46, ground := Go.Ground.guard }], guard := some (46, true) }) (v := undef) (by kernel_rfl) (fun _ _ _ h => h) (Or.inr ⟨by kernel_rfl, rfl⟩) ?_
              simp only [List.getElem_toArray, List.getElem_cons_zero, List.getElem_cons_succ, Act.put, List.setIfInBounds_toArray, List.set_cons_zero, List.set_cons_succ]
              refine seq_take (o := { dst := some 63, op := Go.Op.binOp Go.BinOp.eql 23 (Go.Operand.tmp 60) (Go.Operand.tmp 62) 23, type := 4, pos := "form.go:44", after := #[{ on := 49, ground := Go.Ground.data }, { on := 51, ground := Go.Ground.data }, { on := 46, ground := Go.Ground.guard }], guard := some (46, true) }) (v := undef) (by kernel_rfl) (fun _ _ _ h => h) (Or.inr ⟨by kernel_rfl, rfl⟩) ?_
              simp only [List.getElem_toArray, List.getElem_cons_zero, List.getElem_cons_succ, Act.put, List.setIfInBounds_toArray, List.set_cons_zero, List.set_cons_succ]
              refine seq_take (o := { dst := some 64, op := Go.Op.pick (Go.Operand.tmp 57) (Go.Operand.tmp 63) (Go.Operand.const (Go.Value.bool false)), type := 4, pos := "form.go:44", after := #[{ on := 46, ground := Go.Ground.data }, { on := 52, ground := Go.Ground.data }, { on := 40, ground := Go.Ground.guard }], guard := some (40, true) }) (v := .bool false) (by kernel_rfl) (fun _ _ _ h => h) (Or.inl ⟨by kernel_rfl, fun W hW => by go_simp⟩) ?_
              simp only [List.getElem_toArray, List.getElem_cons_zero, List.getElem_cons_succ, Act.put, List.setIfInBounds_toArray, List.set_cons_zero, List.set_cons_succ]
              refine seq_call (o := { dst := some 69, op := Go.Op.call { callee := Go.Callee.value (Go.Operand.func 63), args := #[Go.Operand.tmp 53, Go.Operand.tmp 64, Go.Operand.tmp 68], argTypes := #[4, 4, 4] }, type := 4, pos := "form.go:48", after := #[{ on := 42, ground := Go.Ground.data }, { on := 53, ground := Go.Ground.data }, { on := 57, ground := Go.Ground.data }, { on := 46, ground := Go.Ground.chain }, { on := 40, ground := Go.Ground.guard }], guard := some (40, true) }) (by kernel_rfl) (fun K hK => ?_)
              rw [if_pos (by kernel_rfl)]
              go_simp
              go_wp2_with (go_at_call 63; refine (goz_n _ _ _ _).mono ?_; rintro e w0 ⟨rfl, h0⟩; rw [h0, Hr5.out]; clear h0)
              refine hK.out _ _ HC.out ?_
              clear hK K
              try simp only [List.getElem_toArray, List.getElem_cons_zero, List.getElem_cons_succ, Act.put, List.setIfInBounds_toArray, List.set_cons_zero, List.set_cons_succ]
              cases r5 with
              | false =>
                refine seq_plain (fun _ _ _ d _ h => by cases d <;> exact h) _ [(some 70, .bool false), (some 71, .bool false), (some 72, undef), (some 73, undef), (some 74, undef), (some 75, undef), (some 77, undef), (some 78, undef), (some 79, undef), (some 76, undef), (some 80, undef), (some 81, .bool false), (some 82, .bool false), (some 83, undef), (some 84, undef), (some 85, undef), (some 86, undef), (some 88, undef), (some 89, undef), (some 90, undef), (some 91, undef), (some 87, undef), (some 92, undef), (some 93, .bool false), (some 94, .bool false), (some 95, undef), (some 96, undef), (some 97, undef), (some 98, undef), (some 100, undef), (some 101, undef), (some 102, undef), (some 99, undef), (some 103, undef), (some 104, .bool false), (some 105, .bool false), (some 106, undef), (some 107, undef), (some 108, undef), (some 109, undef), (some 111, undef), (some 112, undef), (some 113, undef), (some 110, undef), (some 114, undef), (some 115, .bool false), (some 2, .bool false)] _ _ (by kernel_rfl) HC.out ?_
                simp only [putAll, List.getElem_toArray, List.getElem_cons_zero, List.getElem_cons_succ, Act.put, List.setIfInBounds_toArray, List.set_cons_zero, List.set_cons_succ]
                have BE : Hid (Below w.heap.size w _) := HC.out.bel
                clear HC
                go_wp2
                go_ret
                rw [EV.out]
                exact ⟨by simp, BE.out⟩
              | true =>
                refine seq_take (o := { dst := some 70, op := Go.Op.pick (Go.Operand.tmp 51) (Go.Operand.tmp 69) (Go.Operand.const (Go.Value.bool false)), type := 4, pos := "form.go:44", after := #[{ on := 40, ground := Go.Ground.data }, { on := 58, ground := Go.Ground.data }], guard := none }) (v := .bool true) (by kernel_rfl) (fun _ _ _ h => h) (Or.inl ⟨by kernel_rfl, fun W hW => by go_simp⟩) ?_
                simp only [List.getElem_toArray, List.getElem_cons_zero, List.getElem_cons_succ, Act.put, List.setIfInBounds_toArray, List.set_cons_zero, List.set_cons_succ]
                refine seq_take (o := { dst := some 71, op := Go.Op.move (Go.Operand.tmp 70), type := 4, pos := "form.go:44", after := #[{ on := 59, ground := Go.Ground.data }, { on := 58, ground := Go.Ground.chain }], guard := none }) (v := .bool true) (by kernel_rfl) (fun _ _ _ h => h) (Or.inl ⟨by kernel_rfl, fun W hW => by go_simp⟩) ?_
                simp only [List.getElem_toArray, List.getElem_cons_zero, List.getElem_cons_succ, Act.put, List.setIfInBounds_toArray, List.set_cons_zero, List.set_cons_succ]
                refine seq_take (o := { dst := some 72, op := Go.Op.fieldAddr 98 (Go.Operand.tmp 3) 4, type := 0, pos := "form.go:44", after := #[{ on := 60, ground := Go.Ground.guard }], guard := some (60, true) }) (v := .pointer (some ⟨g3, 4, none⟩)) (by kernel_rfl) (fun _ _ _ h => h) (Or.inl ⟨by kernel_rfl, fun W hW => by go_simp⟩) ?_
                simp only [List.getElem_toArray, List.getElem_cons_zero, List.getElem_cons_succ, Act.put, List.setIfInBounds_toArray, List.set_cons_zero, List.set_cons_succ]
                refine seq_take (o := { dst := some 73, op := Go.Op.load 4 (Go.Operand.tmp 72), type := 4, pos := "form.go:44", after := #[{ on := 61, ground := Go.Ground.data }, { on := 60, ground := Go.Ground.guard }], guard := some (60, true) }) (v := .bool (fT k)) (by kernel_rfl) (fun _ _ _ h => h) (Or.inl ⟨by kernel_rfl, fun W hW => by have q0 := hW.f4; go_simp⟩) ?_
                simp only [List.getElem_toArray, List.getElem_cons_zero, List.getElem_cons_succ, Act.put, List.setIfInBounds_toArray, List.set_cons_zero, List.set_cons_succ]
                refine seq_take (o := { dst := some 74, op := Go.Op.fieldAddr 28 (Go.Operand.tmp 1) 6, type := 0, pos := "form.go:44", after := #[{ on := 60, ground := Go.Ground.guard }], guard := some (60, true) }) (v := .pointer (some ⟨g1, 14, none⟩)) (by kernel_rfl) (fun _ _ _ h => h) (Or.inl ⟨by kernel_rfl, fun W hW => by go_simp⟩) ?_
                simp only [List.getElem_toArray, List.getElem_cons_zero, List.getElem_cons_succ, Act.put, List.setIfInBounds_toArray, List.set_cons_zero, List.set_cons_succ]
                refine seq_take (o := { dst := some 75, op := Go.Op.load 3 (Go.Operand.tmp 74), type := 3, pos := "form.go:44", after := #[{ on := 63, ground := Go.Ground.data }, { on := 60, ground := Go.Ground.guard }], guard := some (60, true) }) (v := .int .i64 pt) (by kernel_rfl) (fun _ _ _ h => h) (Or.inl ⟨by kernel_rfl, fun W hW => by have q0 := hW.c14; go_simp⟩) ?_
                simp only [List.getElem_toArray, List.getElem_cons_zero, List.getElem_cons_succ, Act.put, List.setIfInBounds_toArray, List.set_cons_zero, List.set_cons_succ]
                refine seq_take (o := { dst := some 77, op := Go.Op.fieldAddr 28 (Go.Operand.tmp 1) 6, type := 0, pos := "form.go:44", after := #[{ on := 60, ground := Go.Ground.guard }], guard := some (60, true) }) (v := .pointer (some ⟨g1, 14, none⟩)) (by kernel_rfl) (fun _ _ _ h => h) (Or.inl ⟨by kernel_rfl, fun W hW => by go_simp⟩) ?_
                simp only [List.getElem_toArray, List.getElem_cons_zero, List.getElem_cons_succ, Act.put, List.setIfInBounds_toArray, List.set_cons_zero, List.set_cons_succ]
                refine seq_take (o := { dst := some 78, op := Go.Op.load 3 (Go.Operand.tmp 77), type := 3, pos := "form.go:44", after := #[{ on := 66, ground := Go.Ground.data }, { on := 60, ground := Go.Ground.guard }], guard := some (60, true) }) (v := .int .i64 pt) (by kernel_rfl) (fun _ _ _ h => h) (Or.inl ⟨by kernel_rfl, fun W hW => by have q0 := hW.c14; go_simp⟩) ?_
                simp only [List.getElem_toArray, List.getElem_cons_zero, List.getElem_cons_succ, Act.put, List.setIfInBounds_toArray, List.set_cons_zero, List.set_cons_succ]
                refine seq_take (o := { dst := some 79, op := Go.Op.binOp Go.BinOp.eql 3 (Go.Operand.tmp 78) (Go.Operand.const (Go.Value.int Go.IntKind.i64 0)) 3, type := 4, pos := "form.go:44", after := #[{ on := 67, ground := Go.Ground.data }, { on := 60, ground := Go.Ground.guard }], guard := some (60, true) }) (v := .bool z6) (by kernel_rfl) (fun _ _ _ h => h) (Or.inl ⟨by kernel_rfl, fun W hW => by have q0 := Ez6; go_simp; try (first | exact Dz6 | exact Dz6')⟩) ?_
                simp only [List.getElem_toArray, List.getElem_cons_zero, List.getElem_cons_succ, Act.put, List.setIfInBounds_toArray, List.set_cons_zero, List.set_cons_succ]
                refine seq_call (o := { dst := some 76, op := Go.Op.call { callee := Go.Callee.value (Go.Operand.func 65), args := #[Go.Operand.tmp 75], argTypes := #[3] }, type := 4, pos := "form.go:49", after := #[{ on := 64, ground := Go.Ground.data }, { on := 60, ground := Go.Ground.chain }, { on := 60, ground := Go.Ground.guard }], guard := some (60, true) }) (by kernel_rfl) (fun K hK => ?_)
                rw [if_pos (by kernel_rfl)]
                go_simp
                go_wp2_with (go_at_call 65; refine (isPart_n _ _).mono ?_; rintro e w0 ⟨rfl, h0⟩; rw [h0, Hb6.out]; clear h0)
                refine hK.out _ _ HC.out ?_
                clear hK K
                try simp only [List.getElem_toArray, List.getElem_cons_zero, List.getElem_cons_succ, Act.put, List.setIfInBounds_toArray, List.set_cons_zero, List.set_cons_succ]
                refine seq_call (o := { dst := some 80, op := Go.Op.call { callee := Go.Callee.value (Go.Operand.func 63), args := #[Go.Operand.tmp 73, Go.Operand.tmp 76, Go.Operand.tmp 79], argTypes := #[4, 4, 4] }, type := 4, pos := "form.go:49", after := #[{ on := 62, ground := Go.Ground.data }, { on := 65, ground := Go.Ground.data }, { on := 68, ground := Go.Ground.data }, { on := 65, ground := Go.Ground.chain }, { on := 60, ground := Go.Ground.guard }], guard := some (60, true) }) (by kernel_rfl) (fun K hK => ?_)
                rw [if_pos (by kernel_rfl)]
                go_simp
                go_wp2_with (go_at_call 63; refine (goz_n _ _ _ _).mono ?_; rintro e w0 ⟨rfl, h0⟩; rw [h0, Hr6.out]; clear h0)
                refine hK.out _ _ HC.out ?_
                clear hK K
                try simp only [List.getElem_toArray, List.getElem_cons_zero, List.getElem_cons_succ, Act.put, List.setIfInBounds_toArray, List.set_cons_zero, List.set_cons_succ]
                cases r6 with
                | false =>
                  refine seq_plain (fun _ _ _ d _ h => by cases d <;> exact h) _ [(some 81, .bool false), (some 82, .bool false), (some 83, undef), (some 84, undef), (some 85, undef), (some 86, undef), (some 88, undef), (some 89, undef), (some 90, undef), (some 91, undef), (some 87, undef), (some 92, undef), (some 93, .bool false), (some 94, .bool false), (some 95, undef), (some 96, undef), (some 97, undef), (some 98, undef), (some 100, undef), (some 101, undef), (some 102, undef), (some 99, undef), (some 103, undef), (some 104, .bool false), (some 105, .bool false), (some 106, undef), (some 107, undef), (some 108, undef), (some 109, undef), (some 111, undef), (some 112, undef), (some 113, undef), (some 110, undef), (some 114, undef), (some 115, .bool false), (some 2, .bool false)] _ _ (by kernel_rfl) HC.out ?_
                  simp only [putAll, List.getElem_toArray, List.getElem_cons_zero, List.getElem_cons_succ, Act.put, List.setIfInBounds_toArray, List.set_cons_zero, List.set_cons_succ]
                  have BE : Hid (Below w.heap.size w _) := HC.out.bel
                  clear HC
                  go_wp2
                  go_ret
                  rw [EV.out]
                  exact ⟨by simp, BE.out⟩
                | true =>
                  refine seq_take (o := { dst := some 81, op := Go.Op.pick (Go.Operand.tmp 71) (Go.Operand.tmp 80) (Go.Operand.const (Go.Value.bool false)), type := 4, pos := "form.go:44", after := #[{ on := 60, ground := Go.Ground.data }, { on := 69, ground := Go.Ground.data }], guard := none }) (v := .bool true) (by kernel_rfl) (fun _ _ _ h => h) (Or.inl ⟨by kernel_rfl, fun W hW => by go_simp⟩) ?_
                  simp only [List.getElem_toArray, List.getElem_cons_zero, List.getElem_cons_succ, Act.put, List.setIfInBounds_toArray, List.set_cons_zero, List.set_cons_succ]
                  refine seq_take (o := { dst := some 82, op := Go.Op.move (Go.Operand.tmp 81), type := 4, pos := "form.go:44", after := #[{ on := 70, ground := Go.Ground.data }, { on := 69, ground := Go.Ground.chain }], guard := none }) (v := .bool true) (by kernel_rfl) (fun _ _ _ h => h) (Or.inl ⟨by kernel_rfl, fun W hW => by go_simp⟩) ?_
                  simp only [List.getElem_toArray, List.getElem_cons_zero, List.getElem_cons_succ, Act.put, List.setIfInBounds_toArray, List.set_cons_zero, List.set_cons_succ]
                  refine seq_take (o := { dst := some 83, op := Go.Op.fieldAddr 98 (Go.Operand.tmp 3) 5, type := 0, pos := "form.go:44", after := #[{ on := 71, ground := Go.Ground.guard }], guard := some (71, true) }) (v := .pointer (some ⟨g3, 5, none⟩)) (by kernel_rfl) (fun _ _ _ h => h) (Or.inl ⟨by kernel_rfl, fun W hW => by go_simp⟩) ?_
                  simp only [List.getElem_toArray, List.getElem_cons_zero, List.getElem_cons_succ, Act.put, List.setIfInBounds_toArray, List.set_cons_zero, List.set_cons_succ]
                  refine seq_take (o := { dst := some 84, op := Go.Op.load 4 (Go.Operand.tmp 83), type := 4, pos := "form.go:44", after := #[{ on := 72, ground := Go.Ground.data }, { on := 71, ground := Go.Ground.guard }], guard := some (71, true) }) (v := .bool (fS k)) (by kernel_rfl) (fun _ _ _ h => h) (Or.inl ⟨by kernel_rfl, fun W hW => by have q0 := hW.f5; go_simp⟩) ?_
                  simp only [List.getElem_toArray, List.getElem_cons_zero, List.getElem_cons_succ, Act.put, List.setIfInBounds_toArray, List.set_cons_zero, List.set_cons_succ]
                  refine seq_take (o := { dst := some 85, op := Go.Op.fieldAddr 28 (Go.Operand.tmp 1) 7, type := 0, pos := "form.go:44", after := #[{ on := 71, ground := Go.Ground.guard }], guard := some (71, true) }) (v := .pointer (some ⟨g1, 15, none⟩)) (by kernel_rfl) (fun _ _ _ h => h) (Or.inl ⟨by kernel_rfl, fun W hW => by go_simp⟩) ?_
                  simp only [List.getElem_toArray, List.getElem_cons_zero, List.getElem_cons_succ, Act.put, List.setIfInBounds_toArray, List.set_cons_zero, List.set_cons_succ]
                  refine seq_take (o := { dst := some 86, op := Go.Op.load 26 (Go.Operand.tmp 85), type := 26, pos := "form.go:44", after := #[{ on := 74, ground := Go.Ground.data }, { on := 71, ground := Go.Ground.guard }], guard := some (71, true) }) (v := .slice pa pn pc) (by kernel_rfl) (fun _ _ _ h => h) (Or.inl ⟨by kernel_rfl, fun W hW => by have q0 := hW.c15; go_simp⟩) ?_
                  simp only [List.getElem_toArray, List.getElem_cons_zero, List.getElem_cons_succ, Act.put, List.setIfInBounds_toArray, List.set_cons_zero, List.set_cons_succ]
                  refine seq_take (o := { dst := some 88, op := Go.Op.fieldAddr 28 (Go.Operand.tmp 1) 7, type := 0, pos := "form.go:44", after := #[{ on := 71, ground := Go.Ground.guard }], guard := some (71, true) }) (v := .pointer (some ⟨g1, 15, none⟩)) (by kernel_rfl) (fun _ _ _ h => h) (Or.inl ⟨by kernel_rfl, fun W hW => by go_simp⟩) ?_
                  simp only [List.getElem_toArray, List.getElem_cons_zero, List.getElem_cons_succ, Act.put, List.setIfInBounds_toArray, List.set_cons_zero, List.set_cons_succ]
                  refine seq_take (o := { dst := some 89, op := Go.Op.load 26 (Go.Operand.tmp 88), type := 26, pos := "form.go:44", after := #[{ on := 77, ground := Go.Ground.data }, { on := 71, ground := Go.Ground.guard }], guard := some (71, true) }) (v := .slice pa pn pc) (by kernel_rfl) (fun _ _ _ h => h) (Or.inl ⟨by kernel_rfl, fun W hW => by have q0 := hW.c15; go_simp⟩) ?_
                  simp only [List.getElem_toArray, List.getElem_cons_zero, List.getElem_cons_succ, Act.put, List.setIfInBounds_toArray, List.set_cons_zero, List.set_cons_succ]
                  refine seq_take (o := { dst := some 90, op := Go.Op.call { callee := Go.Callee.builtin Go.Builtin.len, args := #[Go.Operand.tmp 89], argTypes := #[26] }, type := 3, pos := "form.go:44", after := #[{ on := 78, ground := Go.Ground.data }, { on := 71, ground := Go.Ground.guard }], guard := some (71, true) }) (v := .int .i64 (pn : Int)) (by kernel_rfl) (fun _ _ _ h => h) (Or.inl ⟨by kernel_rfl, fun W hW => by go_simp⟩) ?_
                  simp only [List.getElem_toArray, List.getElem_cons_zero, List.getElem_cons_succ, Act.put, List.setIfInBounds_toArray, List.set_cons_zero, List.set_cons_succ]
                  refine seq_take (o := { dst := some 91, op := Go.Op.binOp Go.BinOp.eql 3 (Go.Operand.tmp 90) (Go.Operand.const (Go.Value.int Go.IntKind.i64 0)) 3, type := 4, pos := "form.go:44", after := #[{ on := 79, ground := Go.Ground.data }, { on := 71, ground := Go.Ground.guard }], guard := some (71, true) }) (v := .bool z7) (by kernel_rfl) (fun _ _ _ h => h) (Or.inl ⟨by kernel_rfl, fun W hW => by have q0 := Ez7; go_simp; try (first | exact Dz7 | exact Dz7')⟩) ?_
                  simp only [List.getElem_toArray, List.getElem_cons_zero, List.getElem_cons_succ, Act.put, List.setIfInBounds_toArray, List.set_cons_zero, List.set_cons_succ]
                  refine seq_call (o := { dst := some 87, op := Go.Op.call { callee := Go.Callee.value (Go.Operand.func 66), args := #[Go.Operand.tmp 86], argTypes := #[26] }, type := 4, pos := "form.go:50", after := #[{ on := 75, ground := Go.Ground.data }, { on := 71, ground := Go.Ground.chain }, { on := 71, ground := Go.Ground.guard }], guard := some (71, true) }) (by kernel_rfl) (fun K hK => ?_)
                  rw [if_pos (by kernel_rfl)]
                  go_simp
                  have HI : Hid (Irow _ 0 pa pn ps) := hI.out.keep HC.out.bel.size (fun q _ hq => HC.out.bel.block q hq)
                  go_wp2_with (go_at_call 66; refine (goodParts_n HI).mono ?_; rintro e w0 ⟨rfl, h0⟩; rw [h0, Hb7.out]; clear h0)
                  refine hK.out _ _ HC.out ?_
                  clear hK K
                  try simp only [List.getElem_toArray, List.getElem_cons_zero, List.getElem_cons_succ, Act.put, List.setIfInBounds_toArray, List.set_cons_zero, List.set_cons_succ]
                  refine seq_call (o := { dst := some 92, op := Go.Op.call { callee := Go.Callee.value (Go.Operand.func 63), args := #[Go.Operand.tmp 84, Go.Operand.tmp 87, Go.Operand.tmp 91], argTypes := #[4, 4, 4] }, type := 4, pos := "form.go:50", after := #[{ on := 73, ground := Go.Ground.data }, { on := 76, ground := Go.Ground.data }, { on := 80, ground := Go.Ground.data }, { on := 76, ground := Go.Ground.chain }, { on := 71, ground := Go.Ground.guard }], guard := some (71, true) }) (by kernel_rfl) (fun K hK => ?_)
                  rw [if_pos (by kernel_rfl)]
                  go_simp
                  go_wp2_with (go_at_call 63; refine (goz_n _ _ _ _).mono ?_; rintro e w0 ⟨rfl, h0⟩; rw [h0, Hr7.out]; clear h0)
                  refine hK.out _ _ HC.out ?_
                  clear hK K
                  try simp only [List.getElem_toArray, List.getElem_cons_zero, List.getElem_cons_succ, Act.put, List.setIfInBounds_toArray, List.set_cons_zero, List.set_cons_succ]
                  cases r7 with
                  | false =>
                    refine seq_plain (fun _ _ _ d _ h => by cases d <;> exact h) _ [(some 93, .bool false), (some 94, .bool false), (some 95, undef), (some 96, undef), (some 97, undef), (some 98, undef), (some 100, undef), (some 101, undef), (some 102, undef), (some 99, undef), (some 103, undef), (some 104, .bool false), (some 105, .bool false), (some 106, undef), (some 107, undef), (some 108, undef), (some 109, undef), (some 111, undef), (some 112, undef), (some 113, undef), (some 110, undef), (some 114, undef), (some 115, .bool false), (some 2, .bool false)] _ _ (by kernel_rfl) HC.out ?_
                    simp only [putAll, List.getElem_toArray, List.getElem_cons_zero, List.getElem_cons_succ, Act.put, List.setIfInBounds_toArray, List.set_cons_zero, List.set_cons_succ]
                    have BE : Hid (Below w.heap.size w _) := HC.out.bel
                    clear HC
                    go_wp2
                    go_ret
                    rw [EV.out]
                    exact ⟨by simp, BE.out⟩
                  | true =>
                    refine seq_take (o := { dst := some 93, op := Go.Op.pick (Go.Operand.tmp 82) (Go.Operand.tmp 92) (Go.Operand.const (Go.Value.bool false)), type := 4, pos := "form.go:44", after := #[{ on := 71, ground := Go.Ground.data }, { on := 81, ground := Go.Ground.data }], guard := none }) (v := .bool true) (by kernel_rfl) (fun _ _ _ h => h) (Or.inl ⟨by kernel_rfl, fun W hW => by go_simp⟩) ?_
                    simp only [List.getElem_toArray, List.getElem_cons_zero, List.getElem_cons_succ, Act.put, List.setIfInBounds_toArray, List.set_cons_zero, List.set_cons_succ]
                    refine seq_take (o := { dst := some 94, op := Go.Op.move (Go.Operand.tmp 93), type := 4, pos := "form.go:44", after := #[{ on := 82, ground := Go.Ground.data }, { on := 81, ground := Go.Ground.chain }], guard := none }) (v := .bool true) (by kernel_rfl) (fun _ _ _ h => h) (Or.inl ⟨by kernel_rfl, fun W hW => by go_simp⟩) ?_
                    simp only [List.getElem_toArray, List.getElem_cons_zero, List.getElem_cons_succ, Act.put, List.setIfInBounds_toArray, List.set_cons_zero, List.set_cons_succ]
                    refine seq_take (o := { dst := some 95, op := Go.Op.fieldAddr 98 (Go.Operand.tmp 3) 6, type := 0, pos := "form.go:44", after := #[{ on := 83, ground := Go.Ground.guard }], guard := some (83, true) }) (v := .pointer (some ⟨g3, 6, none⟩)) (by kernel_rfl) (fun _ _ _ h => h) (Or.inl ⟨by kernel_rfl, fun W hW => by go_simp⟩) ?_
                    simp only [List.getElem_toArray, List.getElem_cons_zero, List.getElem_cons_succ, Act.put, List.setIfInBounds_toArray, List.set_cons_zero, List.set_cons_succ]
                    refine seq_take (o := { dst := some 96, op := Go.Op.load 4 (Go.Operand.tmp 95), type := 4, pos := "form.go:44", after := #[{ on := 84, ground := Go.Ground.data }, { on := 83, ground := Go.Ground.guard }], guard := some (83, true) }) (v := .bool (fM k)) (by kernel_rfl) (fun _ _ _ h => h) (Or.inl ⟨by kernel_rfl, fun W hW => by have q0 := hW.f6; go_simp⟩) ?_
                    simp only [List.getElem_toArray, List.getElem_cons_zero, List.getElem_cons_succ, Act.put, List.setIfInBounds_toArray, List.set_cons_zero, List.set_cons_succ]
                    refine seq_take (o := { dst := some 97, op := Go.Op.fieldAddr 28 (Go.Operand.tmp 1) 8, type := 0, pos := "form.go:44", after := #[{ on := 83, ground := Go.Ground.guard }], guard := some (83, true) }) (v := .pointer (some ⟨g1, 16, none⟩)) (by kernel_rfl) (fun _ _ _ h => h) (Or.inl ⟨by kernel_rfl, fun W hW => by go_simp⟩) ?_
                    simp only [List.getElem_toArray, List.getElem_cons_zero, List.getElem_cons_succ, Act.put, List.setIfInBounds_toArray, List.set_cons_zero, List.set_cons_succ]
                    refine seq_take (o := { dst := some 98, op := Go.Op.load 3 (Go.Operand.tmp 97), type := 3, pos := "form.go:44", after := #[{ on := 86, ground := Go.Ground.data }, { on := 83, ground := Go.Ground.guard }], guard := some (83, true) }) (v := .int .i64 tm) (by kernel_rfl) (fun _ _ _ h => h) (Or.inl ⟨by kernel_rfl, fun W hW => by have q0 := hW.c16; go_simp⟩) ?_
                    simp only [List.getElem_toArray, List.getElem_cons_zero, List.getElem_cons_succ, Act.put, List.setIfInBounds_toArray, List.set_cons_zero, List.set_cons_succ]
                    refine seq_take (o := { dst := some 100, op := Go.Op.fieldAddr 28 (Go.Operand.tmp 1) 8, type := 0, pos := "form.go:44", after := #[{ on := 83, ground := Go.Ground.guard }], guard := some (83, true) }) (v := .pointer (some ⟨g1, 16, none⟩)) (by kernel_rfl) (fun _ _ _ h => h) (Or.inl ⟨by kernel_rfl, fun W hW => by go_simp⟩) ?_
                    simp only [List.getElem_toArray, List.getElem_cons_zero, List.getElem_cons_succ, Act.put, List.setIfInBounds_toArray, List.set_cons_zero, List.set_cons_succ]
                    refine seq_take (o := { dst := some 101, op := Go.Op.load 3 (Go.Operand.tmp 100), type := 3, pos := "form.go:44", after := #[{ on := 89, ground := Go.Ground.data }, { on := 83, ground := Go.Ground.guard }], guard := some (83, true) }) (v := .int .i64 tm) (by kernel_rfl) (fun _ _ _ h => h) (Or.inl ⟨by kernel_rfl, fun W hW => by have q0 := hW.c16; go_simp⟩) ?_
                    simp only [List.getElem_toArray, List.getElem_cons_zero, List.getElem_cons_succ, Act.put, List.setIfInBounds_toArray, List.set_cons_zero, List.set_cons_succ]
                    refine seq_take (o := { dst := some 102, op := Go.Op.binOp Go.BinOp.eql 3 (Go.Operand.tmp 101) (Go.Operand.const (Go.Value.int Go.IntKind.i64 0)) 3, type := 4, pos := "form.go:44", after := #[{ on := 90, ground := Go.Ground.data }, { on := 83, ground := Go.Ground.guard }], guard := some (83, true) }) (v := .bool z8) (by kernel_rfl) (fun _ _ _ h => h) (Or.inl ⟨by kernel_rfl, fun W hW => by have q0 := Ez8; go_simp; try (first | exact Dz8 | exact Dz8')⟩) ?_
                    simp only [List.getElem_toArray, List.getElem_cons_zero, List.getElem_cons_succ, Act.put, List.setIfInBounds_toArray, List.set_cons_zero, List.set_cons_succ]
                    refine seq_call (o := { dst := some 99, op := Go.Op.call { callee := Go.Callee.value (Go.Operand.func 61), args := #[Go.Operand.tmp 98], argTypes := #[3] }, type := 4, pos := "form.go:51", after := #[{ on := 87, ground := Go.Ground.data }, { on := 83, ground := Go.Ground.chain }, { on := 83, ground := Go.Ground.guard }], guard := some (83, true) }) (by kernel_rfl) (fun K hK => ?_)
                    rw [if_pos (by kernel_rfl)]
                    go_simp
                    go_wp2_with (go_at_call 61; refine (isTime_n _ _).mono ?_; rintro e w0 ⟨rfl, h0⟩; rw [h0, Hb8.out]; clear h0)
                    refine hK.out _ _ HC.out ?_
                    clear hK K
                    try simp only [List.getElem_toArray, List.getElem_cons_zero, List.getElem_cons_succ, Act.put, List.setIfInBounds_toArray, List.set_cons_zero, List.set_cons_succ]
                    refine seq_call (o := { dst := some 103, op := Go.Op.call { callee := Go.Callee.value (Go.Operand.func 63), args := #[Go.Operand.tmp 96, Go.Operand.tmp 99, Go.Operand.tmp 102], argTypes := #[4, 4, 4] }, type := 4, pos := "form.go:51", after := #[{ on := 85, ground := Go.Ground.data }, { on := 88, ground := Go.Ground.data }, { on := 91, ground := Go.Ground.data }, { on := 88, ground := Go.Ground.chain }, { on := 83, ground := Go.Ground.guard }], guard := some (83, true) }) (by kernel_rfl) (fun K hK => ?_)
                    rw [if_pos (by kernel_rfl)]
                    go_simp
                    go_wp2_with (go_at_call 63; refine (goz_n _ _ _ _).mono ?_; rintro e w0 ⟨rfl, h0⟩; rw [h0, Hr8.out]; clear h0)
                    refine hK.out _ _ HC.out ?_
                    clear hK K
                    try simp only [List.getElem_toArray, List.getElem_cons_zero, List.getElem_cons_succ, Act.put, List.setIfInBounds_toArray, List.set_cons_zero, List.set_cons_succ]
                    cases r8 with
                    | false =>
                      refine seq_plain (fun _ _ _ d _ h => by cases d <;> exact h) _ [(some 104, .bool false), (some 105, .bool false), (some 106, undef), (some 107, undef), (some 108, undef), (some 109, undef), (some 111, undef), (some 112, undef), (some 113, undef), (some 110, undef), (some 114, undef), (some 115, .bool false), (some 2, .bool false)] _ _ (by kernel_rfl) HC.out ?_
                      simp only [putAll, List.getElem_toArray, List.getElem_cons_zero, List.getElem_cons_succ, Act.put, List.setIfInBounds_toArray, List.set_cons_zero, List.set_cons_succ]
                      have BE : Hid (Below w.heap.size w _) := HC.out.bel
                      clear HC
                      go_wp2
                      go_ret
                      rw [EV.out]
                      exact ⟨by simp, BE.out⟩
                    | true =>
                      refine seq_take (o := { dst := some 104, op := Go.Op.pick (Go.Operand.tmp 94) (Go.Operand.tmp 103) (Go.Operand.const (Go.Value.bool false)), type := 4, pos := "form.go:44", after := #[{ on := 83, ground := Go.Ground.data }, { on := 92, ground := Go.Ground.data }], guard := none }) (v := .bool true) (by kernel_rfl) (fun _ _ _ h => h) (Or.inl ⟨by kernel_rfl, fun W hW => by go_simp⟩) ?_
                      simp only [List.getElem_toArray, List.getElem_cons_zero, List.getElem_cons_succ, Act.put, List.setIfInBounds_toArray, List.set_cons_zero, List.set_cons_succ]
                      refine seq_take (o := { dst := some 105, op := Go.Op.move (Go.Operand.tmp 104), type := 4, pos := "form.go:44", after := #[{ on := 93, ground := Go.Ground.data }, { on := 92, ground := Go.Ground.chain }], guard := none }) (v := .bool true) (by kernel_rfl) (fun _ _ _ h => h) (Or.inl ⟨by kernel_rfl, fun W hW => by go_simp⟩) ?_
                      simp only [List.getElem_toArray, List.getElem_cons_zero, List.getElem_cons_succ, Act.put, List.setIfInBounds_toArray, List.set_cons_zero, List.set_cons_succ]
                      refine seq_take (o := { dst := some 106, op := Go.Op.fieldAddr 98 (Go.Operand.tmp 3) 7, type := 0, pos := "form.go:44", after := #[{ on := 94, ground := Go.Ground.guard }], guard := some (94, true) }) (v := .pointer (some ⟨g3, 7, none⟩)) (by kernel_rfl) (fun _ _ _ h => h) (Or.inl ⟨by kernel_rfl, fun W hW => by go_simp⟩) ?_
                      simp only [List.getElem_toArray, List.getElem_cons_zero, List.getElem_cons_succ, Act.put, List.setIfInBounds_toArray, List.set_cons_zero, List.set_cons_succ]
                      refine seq_take (o := { dst := some 107, op := Go.Op.load 4 (Go.Operand.tmp 106), type := 4, pos := "form.go:44", after := #[{ on := 95, ground := Go.Ground.data }, { on := 94, ground := Go.Ground.guard }], guard := some (94, true) }) (v := .bool (fD k)) (by kernel_rfl) (fun _ _ _ h => h) (Or.inl ⟨by kernel_rfl, fun W hW => by have q0 := hW.f7; go_simp⟩) ?_
                      simp only [List.getElem_toArray, List.getElem_cons_zero, List.getElem_cons_succ, Act.put, List.setIfInBounds_toArray, List.set_cons_zero, List.set_cons_succ]
                      refine seq_take (o := { dst := some 108, op := Go.Op.fieldAddr 28 (Go.Operand.tmp 1) 9, type := 0, pos := "form.go:44", after := #[{ on := 94, ground := Go.Ground.guard }], guard := some (94, true) }) (v := .pointer (some ⟨g1, 17, none⟩)) (by kernel_rfl) (fun _ _ _ h => h) (Or.inl ⟨by kernel_rfl, fun W hW => by go_simp⟩) ?_
                      simp only [List.getElem_toArray, List.getElem_cons_zero, List.getElem_cons_succ, Act.put, List.setIfInBounds_toArray, List.set_cons_zero, List.set_cons_succ]
                      refine seq_take (o := { dst := some 109, op := Go.Op.load 3 (Go.Operand.tmp 108), type := 3, pos := "form.go:44", after := #[{ on := 97, ground := Go.Ground.data }, { on := 94, ground := Go.Ground.guard }], guard := some (94, true) }) (v := .int .i64 dy) (by kernel_rfl) (fun _ _ _ h => h) (Or.inl ⟨by kernel_rfl, fun W hW => by have q0 := hW.c17; go_simp⟩) ?_
                      simp only [List.getElem_toArray, List.getElem_cons_zero, List.getElem_cons_succ, Act.put, List.setIfInBounds_toArray, List.set_cons_zero, List.set_cons_succ]
                      refine seq_take (o := { dst := some 111, op := Go.Op.fieldAddr 28 (Go.Operand.tmp 1) 9, type := 0, pos := "form.go:44", after := #[{ on := 94, ground := Go.Ground.guard }], guard := some (94, true) }) (v := .pointer (some ⟨g1, 17, none⟩)) (by kernel_rfl) (fun _ _ _ h => h) (Or.inl ⟨by kernel_rfl, fun W hW => by go_simp⟩) ?_
                      simp only [List.getElem_toArray, List.getElem_cons_zero, List.getElem_cons_succ, Act.put, List.setIfInBounds_toArray, List.set_cons_zero, List.set_cons_succ]
                      refine seq_take (o := { dst := some 112, op := Go.Op.load 3 (Go.Operand.tmp 111), type := 3, pos := "form.go:44", after := #[{ on := 100, ground := Go.Ground.data }, { on := 94, ground := Go.Ground.guard }], guard := some (94, true) }) (v := .int .i64 dy) (by kernel_rfl) (fun _ _ _ h => h) (Or.inl ⟨by kernel_rfl, fun W hW => by have q0 := hW.c17; go_simp⟩) ?_
                      simp only [List.getElem_toArray, List.getElem_cons_zero, List.getElem_cons_succ, Act.put, List.setIfInBounds_toArray, List.set_cons_zero, List.set_cons_succ]
                      refine seq_take (o := { dst := some 113, op := Go.Op.binOp Go.BinOp.eql 3 (Go.Operand.tmp 112) (Go.Operand.const (Go.Value.int Go.IntKind.i64 0)) 3, type := 4, pos := "form.go:44", after := #[{ on := 101, ground := Go.Ground.data }, { on := 94, ground := Go.Ground.guard }], guard := some (94, true) }) (v := .bool z9) (by kernel_rfl) (fun _ _ _ h => h) (Or.inl ⟨by kernel_rfl, fun W hW => by have q0 := Ez9; go_simp; try (first | exact Dz9 | exact Dz9')⟩) ?_
                      simp only [List.getElem_toArray, List.getElem_cons_zero, List.getElem_cons_succ, Act.put, List.setIfInBounds_toArray, List.set_cons_zero, List.set_cons_succ]
                      refine seq_call (o := { dst := some 110, op := Go.Op.call { callee := Go.Callee.value (Go.Operand.func 61), args := #[Go.Operand.tmp 109], argTypes := #[3] }, type := 4, pos := "form.go:52", after := #[{ on := 98, ground := Go.Ground.data }, { on := 94, ground := Go.Ground.chain }, { on := 94, ground := Go.Ground.guard }], guard := some (94, true) }) (by kernel_rfl) (fun K hK => ?_)
                      rw [if_pos (by kernel_rfl)]
                      go_simp
                      go_wp2_with (go_at_call 61; refine (isTime_n _ _).mono ?_; rintro e w0 ⟨rfl, h0⟩; rw [h0, Hb9.out]; clear h0)
                      refine hK.out _ _ HC.out ?_
                      clear hK K
                      try simp only [List.getElem_toArray, List.getElem_cons_zero, List.getElem_cons_succ, Act.put, List.setIfInBounds_toArray, List.set_cons_zero, List.set_cons_succ]
                      refine seq_call (o := { dst := some 114, op := Go.Op.call { callee := Go.Callee.value (Go.Operand.func 63), args := #[Go.Operand.tmp 107, Go.Operand.tmp 110, Go.Operand.tmp 113], argTypes := #[4, 4, 4] }, type := 4, pos := "form.go:52", after := #[{ on := 96, ground := Go.Ground.data }, { on := 99, ground := Go.Ground.data }, { on := 102, ground := Go.Ground.data }, { on := 99, ground := Go.Ground.chain }, { on := 94, ground := Go.Ground.guard }], guard := some (94, true) }) (by kernel_rfl) (fun K hK => ?_)
                      rw [if_pos (by kernel_rfl)]
                      go_simp
                      go_wp2_with (go_at_call 63; refine (goz_n _ _ _ _).mono ?_; rintro e w0 ⟨rfl, h0⟩; rw [h0, Hr9.out]; clear h0)
                      refine hK.out _ _ HC.out ?_
                      clear hK K
                      try simp only [List.getElem_toArray, List.getElem_cons_zero, List.getElem_cons_succ, Act.put, List.setIfInBounds_toArray, List.set_cons_zero, List.set_cons_succ]
                      cases r9 with
                      | false =>
                        refine seq_plain (fun _ _ _ d _ h => by cases d <;> exact h) _ [(some 115, .bool false), (some 2, .bool false)] _ _ (by kernel_rfl) HC.out ?_
                        simp only [putAll, List.getElem_toArray, List.getElem_cons_zero, List.getElem_cons_succ, Act.put, List.setIfInBounds_toArray, List.set_cons_zero, List.set_cons_succ]
                        have BE : Hid (Below w.heap.size w _) := HC.out.bel
                        clear HC
                        go_wp2
                        go_ret
                        rw [EV.out]
                        exact ⟨by simp, BE.out⟩
                      | true =>
                        refine seq_take (o := { dst := some 115, op := Go.Op.pick (Go.Operand.tmp 105) (Go.Operand.tmp 114) (Go.Operand.const (Go.Value.bool false)), type := 4, pos := "form.go:44", after := #[{ on := 94, ground := Go.Ground.data }, { on := 103, ground := Go.Ground.data }], guard := none }) (v := .bool true) (by kernel_rfl) (fun _ _ _ h => h) (Or.inl ⟨by kernel_rfl, fun W hW => by go_simp⟩) ?_
                        simp only [List.getElem_toArray, List.getElem_cons_zero, List.getElem_cons_succ, Act.put, List.setIfInBounds_toArray, List.set_cons_zero, List.set_cons_succ]
                        refine seq_take (o := { dst := some 2, op := Go.Op.assign (Go.Operand.tmp 115), type := 4, pos := "form.go:44", after := ([{ on := 104, ground := Go.Ground.data }, { on := 103, ground := Go.Ground.chain }, { on := 0, ground := Go.Ground.phase }, { on := 1, ground := Go.Ground.phase }, { on := 2, ground := Go.Ground.phase }, { on := 3, ground := Go.Ground.phase }, { on := 4, ground := Go.Ground.phase }, { on := 5, ground := Go.Ground.phase }, { on := 6, ground := Go.Ground.phase }, { on := 7, ground := Go.Ground.phase }, { on := 8, ground := Go.Ground.phase }, { on := 9, ground := Go.Ground.phase }, { on := 10, ground := Go.Ground.phase }, { on := 11, ground := Go.Ground.phase }, { on := 12, ground := Go.Ground.phase }, { on := 13, ground := Go.Ground.phase }, { on := 14, ground := Go.Ground.phase }, { on := 15, ground := Go.Ground.phase }, { on := 16, ground := Go.Ground.phase }, { on := 17, ground := Go.Ground.phase }, { on := 18, ground := Go.Ground.phase }, { on := 19, ground := Go.Ground.phase }, { on := 20, ground := Go.Ground.phase }, { on := 21, ground := Go.Ground.phase }, { on := 22, ground := Go.Ground.phase }, { on := 23, ground := Go.Ground.phase }, { on := 24, ground := Go.Ground.phase }, { on := 25, ground := Go.Ground.phase }, { on := 26, ground := Go.Ground.phase }, { on := 27, ground := Go.Ground.phase }, { on := 28, ground := Go.Ground.phase }, { on := 29, ground := Go.Ground.phase }, { on := 30, ground := Go.Ground.phase }, { on := 31, ground := Go.Ground.phase }, { on := 32, ground := Go.Ground.phase }, { on := 33, ground := Go.Ground.phase }, { on := 34, ground := Go.Ground.phase }, { on := 35, ground := Go.Ground.phase }, { on := 36, ground := Go.Ground.phase }, { on := 37, ground := Go.Ground.phase }, { on := 38, ground := Go.Ground.phase }, { on := 39, ground := Go.Ground.phase }, { on := 40, ground := Go.Ground.phase }, { on := 41, ground := Go.Ground.phase }, { on := 42, ground := Go.Ground.phase }, { on := 43, ground := Go.Ground.phase }, { on := 44, ground := Go.Ground.phase }, { on := 45, ground := Go.Ground.phase }, { on := 46, ground := Go.Ground.phase }, { on := 47, ground := Go.Ground.phase }, { on := 48, ground := Go.Ground.phase }, { on := 49, ground := Go.Ground.phase }, { on := 50, ground := Go.Ground.phase }].append [{ on := 51, ground := Go.Ground.phase }, { on := 52, ground := Go.Ground.phase }, { on := 53, ground := Go.Ground.phase }, { on := 54, ground := Go.Ground.phase }, { on := 55, ground := Go.Ground.phase }, { on := 56, ground := Go.Ground.phase }, { on := 57, ground := Go.Ground.phase }, { on := 58, ground := Go.Ground.phase }, { on := 59, ground := Go.Ground.phase }, { on := 60, ground := Go.Ground.phase }, { on := 61, ground := Go.Ground.phase }, { on := 62, ground := Go.Ground.phase }, { on := 63, ground := Go.Ground.phase }, { on := 64, ground := Go.Ground.phase }, { on := 65, ground := Go.Ground.phase }, { on := 66, ground := Go.Ground.phase }, { on := 67, ground := Go.Ground.phase }, { on := 68, ground := Go.Ground.phase }, { on := 69, ground := Go.Ground.phase }, { on := 70, ground := Go.Ground.phase }, { on := 71, ground := Go.Ground.phase }, { on := 72, ground := Go.Ground.phase }, { on := 73, ground := Go.Ground.phase }, { on := 74, ground := Go.Ground.phase }, { on := 75, ground := Go.Ground.phase }, { on := 76, ground := Go.Ground.phase }, { on := 77, ground := Go.Ground.phase }, { on := 78, ground := Go.Ground.phase }, { on := 79, ground := Go.Ground.phase }, { on := 80, ground := Go.Ground.phase }, { on := 81, ground := Go.Ground.phase }, { on := 82, ground := Go.Ground.phase }, { on := 83, ground := Go.Ground.phase }, { on := 84, ground := Go.Ground.phase }, { on := 85, ground := Go.Ground.phase }, { on := 86, ground := Go.Ground.phase }, { on := 87, ground := Go.Ground.phase }, { on := 88, ground := Go.Ground.phase }, { on := 89, ground := Go.Ground.phase }, { on := 90, ground := Go.Ground.phase }, { on := 91, ground := Go.Ground.phase }, { on := 92, ground := Go.Ground.phase }, { on := 93, ground := Go.Ground.phase }, { on := 94, ground := Go.Ground.phase }, { on := 95, ground := Go.Ground.phase }, { on := 96, ground := Go.Ground.phase }, { on := 97, ground := Go.Ground.phase }, { on := 98, ground := Go.Ground.phase }, { on := 99, ground := Go.Ground.phase }, { on := 100, ground := Go.Ground.phase }, { on := 101, ground := Go.Ground.phase }, { on := 102, ground := Go.Ground.phase }, { on := 103, ground := Go.Ground.phase }, { on := 104, ground := Go.Ground.phase }]).toArray, guard := none }) (v := .bool true) (by kernel_rfl) (fun _ _ _ h => h) (Or.inl ⟨by kernel_rfl, fun W hW => by go_simp⟩) ?_
                        simp only [List.getElem_toArray, List.getElem_cons_zero, List.getElem_cons_succ, Act.put, List.setIfInBounds_toArray, List.set_cons_zero, List.set_cons_succ]
                        show (Exit.then _ _) .normal _ _
                        have BE : Hid (Below w.heap.size w _) := HC.out.bel
                        clear HC
                        go_wp2
                        go_ret
                        rw [EV.out]
                        exact ⟨by simp, BE.out⟩
            | true =>
              rw [Bool.true_and] at Hr5
              refine seq_take (o := { dst := some 57, op := Go.Op.move (Go.Operand.tmp 56), type := 4, pos := "form.go:44", after := #[{ on := 45, ground := Go.Ground.data }, { on := 45, ground := Go.Ground.chain }, { on := 40, ground := Go.Ground.guard }], guard := some (40, true) }) (v := .bool true) (by kernel_rfl) (fun _ _ _ h => h) (Or.inl ⟨by kernel_rfl, fun W hW => by go_simp⟩) ?_
              simp only [List.getElem_toArray, List.getElem_cons_zero, List.getElem_cons_succ, Act.put, List.setIfInBounds_toArray, List.set_cons_zero, List.set_cons_succ]
              refine seq_take (o := { dst := some 58, op := Go.Op.fieldAddr 28 (Go.Operand.tmp 1) 5, type := 0, pos := "form.go:44", after := #[{ on := 46, ground := Go.Ground.guard }], guard := some (46, true) }) (v := .pointer (some ⟨g1, 9, none⟩)) (by kernel_rfl) (fun _ _ _ h => h) (Or.inl ⟨by kernel_rfl, fun W hW => by go_simp⟩) ?_
              simp only [List.getElem_toArray, List.getElem_cons_zero, List.getElem_cons_succ, Act.put, List.setIfInBounds_toArray, List.set_cons_zero, List.set_cons_succ]
              refine seq_take (o := { dst := some 59, op := Go.Op.fieldAddr 25 (Go.Operand.tmp 58) 0, type := 0, pos := "form.go:44", after := #[{ on := 47, ground := Go.Ground.data }, { on := 46, ground := Go.Ground.guard }], guard := some (46, true) }) (v := .pointer (some ⟨g1, 9, none⟩)) (by kernel_rfl) (fun _ _ _ h => h) (Or.inl ⟨by kernel_rfl, fun W hW => by go_simp⟩) ?_
              simp only [List.getElem_toArray, List.getElem_cons_zero, List.getElem_cons_succ, Act.put, List.setIfInBounds_toArray, List.set_cons_zero, List.set_cons_succ]
              refine seq_take (o := { dst := some 60, op := Go.Op.load 23 (Go.Operand.tmp 59), type := 23, pos := "form.go:44", after := #[{ on := 48, ground := Go.Ground.data }, { on := 46, ground := Go.Ground.guard }], guard := some (46, true) }) (v := .agg #[.int .i64 b0, .int .i64 b1, .int .i64 b2]) (by kernel_rfl) (fun _ _ _ h => h) (Or.inl ⟨by kernel_rfl, fun W hW => by have q0 := hW.c9; have q1 := hW.c10; have q2 := hW.c11; go_simp⟩) ?_
              simp only [List.getElem_toArray, List.getElem_cons_zero, List.getElem_cons_succ, Act.put, List.setIfInBounds_toArray, List.set_cons_zero, List.set_cons_succ]
              refine seq_take (o := { dst := some 61, op := Go.Op.fieldAddr 28 (Go.Operand.tmp 1) 1, type := 0, pos := "form.go:44", after := #[{ on := 46, ground := Go.Ground.guard }], guard := some (46, true) }) (v := .pointer (some ⟨g1, 1, none⟩)) (by kernel_rfl) (fun _ _ _ h => h) (Or.inl ⟨by kernel_rfl, fun W hW => by go_simp⟩) ?_
              simp only [List.getElem_toArray, List.getElem_cons_zero, List.getElem_cons_succ, Act.put, List.setIfInBounds_toArray, List.set_cons_zero, List.set_cons_succ]
              refine seq_take (o := { dst := some 62, op := Go.Op.load 23 (Go.Operand.tmp 61), type := 23, pos := "form.go:44", after := #[{ on := 50, ground := Go.Ground.data }, { on := 46, ground := Go.Ground.guard }], guard := some (46, true) }) (v := .agg #[.int .i64 i0, .int .i64 i1, .int .i64 i2]) (by kernel_rfl) (fun _ _ _ h => h) (Or.inl ⟨by kernel_rfl, fun W hW => by have q0 := hW.c1; have q1 := hW.c2; have q2 := hW.c3; go_simp⟩) ?_
              simp only [List.getElem_toArray, List.getElem_cons_zero, List.getElem_cons_succ, Act.put, List.setIfInBounds_toArray, List.set_cons_zero, List.set_cons_succ]
              refine seq_take (o := { dst := some 63, op := Go.Op.binOp Go.BinOp.eql 23 (Go.Operand.tmp 60) (Go.Operand.tmp 62) 23, type := 4, pos := "form.go:44", after := #[{ on := 49, ground := Go.Ground.data }, { on := 51, ground := Go.Ground.data }, { on := 46, ground := Go.Ground.guard }], guard := some (46, true) }) (v := .bool ze) (by kernel_rfl) (fun _ _ _ h => h) (Or.inl ⟨by kernel_rfl, fun W hW => by have q0 := Eze; go_simp⟩) ?_
              simp only [List.getElem_toArray, List.getElem_cons_zero, List.getElem_cons_succ, Act.put, List.setIfInBounds_toArray, List.set_cons_zero, List.set_cons_succ]
              refine seq_take (o := { dst := some 64, op := Go.Op.pick (Go.Operand.tmp 57) (Go.Operand.tmp 63) (Go.Operand.const (Go.Value.bool false)), type := 4, pos := "form.go:44", after := #[{ on := 46, ground := Go.Ground.data }, { on := 52, ground := Go.Ground.data }, { on := 40, ground := Go.Ground.guard }], guard := some (40, true) }) (v := .bool ze) (by kernel_rfl) (fun _ _ _ h => h) (Or.inl ⟨by kernel_rfl, fun W hW => by go_simp⟩) ?_
              simp only [List.getElem_toArray, List.getElem_cons_zero, List.getElem_cons_succ, Act.put, List.setIfInBounds_toArray, List.set_cons_zero, List.set_cons_succ]
              refine seq_call (o := { dst := some 69, op := Go.Op.call { callee := Go.Callee.value (Go.Operand.func 63), args := #[Go.Operand.tmp 53, Go.Operand.tmp 64, Go.Operand.tmp 68], argTypes := #[4, 4, 4] }, type := 4, pos := "form.go:48", after := #[{ on := 42, ground := Go.Ground.data }, { on := 53, ground := Go.Ground.data }, { on := 57, ground := Go.Ground.data }, { on := 46, ground := Go.Ground.chain }, { on := 40, ground := Go.Ground.guard }], guard := some (40, true) }) (by kernel_rfl) (fun K hK => ?_)
              rw [if_pos (by kernel_rfl)]
              go_simp
              go_wp2_with (go_at_call 63; refine (goz_n _ _ _ _).mono ?_; rintro e w0 ⟨rfl, h0⟩; rw [h0, Hr5.out]; clear h0)
              refine hK.out _ _ HC.out ?_
              clear hK K
              try simp only [List.getElem_toArray, List.getElem_cons_zero, List.getElem_cons_succ, Act.put, List.setIfInBounds_toArray, List.set_cons_zero, List.set_cons_succ]
              cases r5 with
              | false =>
                refine seq_plain (fun _ _ _ d _ h => by cases d <;> exact h) _ [(some 70, .bool false), (some 71, .bool false), (some 72, undef), (some 73, undef), (some 74, undef), (some 75, undef), (some 77, undef), (some 78, undef), (some 79, undef), (some 76, undef), (some 80, undef), (some 81, .bool false), (some 82, .bool false), (some 83, undef), (some 84, undef), (some 85, undef), (some 86, undef), (some 88, undef), (some 89, undef), (some 90, undef), (some 91, undef), (some 87, undef), (some 92, undef), (some 93, .bool false), (some 94, .bool false), (some 95, undef), (some 96, undef), (some 97, undef), (some 98, undef), (some 100, undef), (some 101, undef), (some 102, undef), (some 99, undef), (some 103, undef), (some 104, .bool false), (some 105, .bool false), (some 106, undef), (some 107, undef), (some 108, undef), (some 109, undef), (some 111, undef), (some 112, undef), (some 113, undef), (some 110, undef), (some 114, undef), (some 115, .bool false), (some 2, .bool false)] _ _ (by kernel_rfl) HC.out ?_
                simp only [putAll, List.getElem_toArray, List.getElem_cons_zero, List.getElem_cons_succ, Act.put, List.setIfInBounds_toArray, List.set_cons_zero, List.set_cons_succ]
                have BE : Hid (Below w.heap.size w _) := HC.out.bel
                clear HC
                go_wp2
                go_ret
                rw [EV.out]
                exact ⟨by simp, BE.out⟩
              | true =>
                refine seq_take (o := { dst := some 70, op := Go.Op.pick (Go.Operand.tmp 51) (Go.Operand.tmp 69) (Go.Operand.const (Go.Value.bool false)), type := 4, pos := "form.go:44", after := #[{ on := 40, ground := Go.Ground.data }, { on := 58, ground := Go.Ground.data }], guard := none }) (v := .bool true) (by kernel_rfl) (fun _ _ _ h => h) (Or.inl ⟨by kernel_rfl, fun W hW => by go_simp⟩) ?_
                simp only [List.getElem_toArray, List.getElem_cons_zero, List.getElem_cons_succ, Act.put, List.setIfInBounds_toArray, List.set_cons_zero, List.set_cons_succ]
                refine seq_take (o := { dst := some 71, op := Go.Op.move (Go.Operand.tmp 70), type := 4, pos := "form.go:44", after := #[{ on := 59, ground := Go.Ground.data }, { on := 58, ground := Go.Ground.chain }], guard := none }) (v := .bool true) (by kernel_rfl) (fun _ _ _ h => h) (Or.inl ⟨by kernel_rfl, fun W hW => by go_simp⟩) ?_
                simp only [List.getElem_toArray, List.getElem_cons_zero, List.getElem_cons_succ, Act.put, List.setIfInBounds_toArray, List.set_cons_zero, List.set_cons_succ]
                refine seq_take (o := { dst := some 72, op := Go.Op.fieldAddr 98 (Go.Operand.tmp 3) 4, type := 0, pos := "form.go:44", after := #[{ on := 60, ground := Go.Ground.guard }], guard := some (60, true) }) (v := .pointer (some ⟨g3, 4, none⟩)) (by kernel_rfl) (fun _ _ _ h => h) (Or.inl ⟨by kernel_rfl, fun W hW => by go_simp⟩) ?_
                simp only [List.getElem_toArray, List.getElem_cons_zero, List.getElem_cons_succ, Act.put, List.setIfInBounds_toArray, List.set_cons_zero, List.set_cons_succ]
                refine seq_take (o := { dst := some 73, op := Go.Op.load 4 (Go.Operand.tmp 72), type := 4, pos := "form.go:44", after := #[{ on := 61, ground := Go.Ground.data }, { on := 60, ground := Go.Ground.guard }], guard := some (60, true) }) (v := .bool (fT k)) (by kernel_rfl) (fun _ _ _ h => h) (Or.inl ⟨by kernel_rfl, fun W hW => by have q0 := hW.f4; go_simp⟩) ?_
                simp only [List.getElem_toArray, List.getElem_cons_zero, List.getElem_cons_succ, Act.put, List.setIfInBounds_toArray, List.set_cons_zero, List.set_cons_succ]
                refine seq_take (o := { dst := some 74, op := Go.Op.fieldAddr 28 (Go.Operand.tmp 1) 6, type := 0, pos := "form.go:44", after := #[{ on := 60, ground := Go.Ground.guard }], guard := some (60, true) }) (v := .pointer (some ⟨g1, 14, none⟩)) (by kernel_rfl) (fun _ _ _ h => h) (Or.inl ⟨by kernel_rfl, fun W hW => by go_simp⟩) ?_
                simp only [List.getElem_toArray, List.getElem_cons_zero, List.getElem_cons_succ, Act.put, List.setIfInBounds_toArray, List.set_cons_zero, List.set_cons_succ]
                refine seq_take (o := { dst := some 75, op := Go.Op.load 3 (Go.Operand.tmp 74), type := 3, pos := "form.go:44", after := #[{ on := 63, ground := Go.Ground.data }, { on := 60, ground := Go.Ground.guard }], guard := some (60, true) }) (v := .int .i64 pt) (by kernel_rfl) (fun _ _ _ h => h) (Or.inl ⟨by kernel_rfl, fun W hW => by have q0 := hW.c14; go_simp⟩) ?_
                simp only [List.getElem_toArray, List.getElem_cons_zero, List.getElem_cons_succ, Act.put, List.setIfInBounds_toArray, List.set_cons_zero, List.set_cons_succ]
                refine seq_take (o := { dst := some 77, op := Go.Op.fieldAddr 28 (Go.Operand.tmp 1) 6, type := 0, pos := "form.go:44", after := #[{ on := 60, ground := Go.Ground.guard }], guard := some (60, true) }) (v := .pointer (some ⟨g1, 14, none⟩)) (by kernel_rfl) (fun _ _ _ h => h) (Or.inl ⟨by kernel_rfl, fun W hW => by go_simp⟩) ?_
                simp only [List.getElem_toArray, List.getElem_cons_zero, List.getElem_cons_succ, Act.put, List.setIfInBounds_toArray, List.set_cons_zero, List.set_cons_succ]
                refine seq_take (o := { dst := some 78, op := Go.Op.load 3 (Go.Operand.tmp 77), type := 3, pos := "form.go:44", after := #[{ on := 66, ground := Go.Ground.data }, { on := 60, ground := Go.Ground.guard }], guard := some (60, true) }) (v := .int .i64 pt) (by kernel_rfl) (fun _ _ _ h => h) (Or.inl ⟨by kernel_rfl, fun W hW => by have q0 := hW.c14; go_simp⟩) ?_
                simp only [List.getElem_toArray, List.getElem_cons_zero, List.getElem_cons_succ, Act.put, List.setIfInBounds_toArray, List.set_cons_zero, List.set_cons_succ]
                refine seq_take (o := { dst := some 79, op := Go.Op.binOp Go.BinOp.eql 3 (Go.Operand.tmp 78) (Go.Operand.const (Go.Value.int Go.IntKind.i64 0)) 3, type := 4, pos := "form.go:44", after := #[{ on := 67, ground := Go.Ground.data }, { on := 60, ground := Go.Ground.guard }], guard := some (60, true) }) (v := .bool z6) (by kernel_rfl) (fun _ _ _ h => h) (Or.inl ⟨by kernel_rfl, fun W hW => by have q0 := Ez6; go_simp; try (first | exact Dz6 | exact Dz6')⟩) ?_
                simp only [List.getElem_toArray, List.getElem_cons_zero, List.getElem_cons_succ, Act.put, List.setIfInBounds_toArray, List.set_cons_zero, List.set_cons_succ]
                refine seq_call (o := { dst := some 76, op := Go.Op.call { callee := Go.Callee.value (Go.Operand.func 65), args := #[Go.Operand.tmp 75], argTypes := #[3] }, type := 4, pos := "form.go:49", after := #[{ on := 64, ground := Go.Ground.data }, { on := 60, ground := Go.Ground.chain }, { on := 60, ground := Go.Ground.guard }], guard := some (60, true) }) (by kernel_rfl) (fun K hK => ?_)
                rw [if_pos (by kernel_rfl)]
                go_simp
                go_wp2_with (go_at_call 65; refine (isPart_n _ _).mono ?_; rintro e w0 ⟨rfl, h0⟩; rw [h0, Hb6.out]; clear h0)
                refine hK.out _ _ HC.out ?_
                clear hK K
                try simp only [List.getElem_toArray, List.getElem_cons_zero, List.getElem_cons_succ, Act.put, List.setIfInBounds_toArray, List.set_cons_zero, List.set_cons_succ]
                refine seq_call (o := { dst := some 80, op := Go.Op.call { callee := Go.Callee.value (Go.Operand.func 63), args := #[Go.Operand.tmp 73, Go.Operand.tmp 76, Go.Operand.tmp 79], argTypes := #[4, 4, 4] }, type := 4, pos := "form.go:49", after := #[{ on := 62, ground := Go.Ground.data }, { on := 65, ground := Go.Ground.data }, { on := 68, ground := Go.Ground.data }, { on := 65, ground := Go.Ground.chain }, { on := 60, ground := Go.Ground.guard }], guard := some (60, true) }) (by kernel_rfl) (fun K hK => ?_)
                rw [if_pos (by kernel_rfl)]
                go_simp
                go_wp2_with (go_at_call 63; refine (goz_n _ _ _ _).mono ?_; rintro e w0 ⟨rfl, h0⟩; rw [h0, Hr6.out]; clear h0)
                refine hK.out _ _ HC.out ?_
                clear hK K
                try simp only [List.getElem_toArray, List.getElem_cons_zero, List.getElem_cons_succ, Act.put, List.setIfInBounds_toArray, List.set_cons_zero, List.set_cons_succ]
                cases r6 with
                | false =>
                  refine seq_plain (fun _ _ _ d _ h => by cases d <;> exact h) _ [(some 81, .bool false), (some 82, .bool false), (some 83, undef), (some 84, undef), (some 85, undef), (some 86, undef), (some 88, undef), (some 89, undef), (some 90, undef), (some 91, undef), (some 87, undef), (some 92, undef), (some 93, .bool false), (some 94, .bool false), (some 95, undef), (some 96, undef), (some 97, undef), (some 98, undef), (some 100, undef), (some 101, undef), (some 102, undef), (some 99, undef), (some 103, undef), (some 104, .bool false), (some 105, .bool false), (some 106, undef), (some 107, undef), (some 108, undef), (some 109, undef), (some 111, undef), (some 112, undef), (some 113, undef), (some 110, undef), (some 114, undef), (some 115, .bool false), (some 2, .bool false)] _ _ (by kernel_rfl) HC.out ?_
                  simp only [putAll, List.getElem_toArray, List.getElem_cons_zero, List.getElem_cons_succ, Act.put, List.setIfInBounds_toArray, List.set_cons_zero, List.set_cons_succ]
                  have BE : Hid (Below w.heap.size w _) := HC.out.bel
                  clear HC
                  go_wp2
                  go_ret
                  rw [EV.out]
                  exact ⟨by simp, BE.out⟩
                | true =>
                  refine seq_take (o := { dst := some 81, op := Go.Op.pick (Go.Operand.tmp 71) (Go.Operand.tmp 80) (Go.Operand.const (Go.Value.bool false)), type := 4, pos := "form.go:44", after := #[{ on := 60, ground := Go.Ground.data }, { on := 69, ground := Go.Ground.data }], guard := none }) (v := .bool true) (by kernel_rfl) (fun _ _ _ h => h) (Or.inl ⟨by kernel_rfl, fun W hW => by go_simp⟩) ?_
                  simp only [List.getElem_toArray, List.getElem_cons_zero, List.getElem_cons_succ, Act.put, List.setIfInBounds_toArray, List.set_cons_zero, List.set_cons_succ]
                  refine seq_take (o := { dst := some 82, op := Go.Op.move (Go.Operand.tmp 81), type := 4, pos := "form.go:44", after := #[{ on := 70, ground := Go.Ground.data }, { on := 69, ground := Go.Ground.chain }], guard := none }) (v := .bool true) (by kernel_rfl) (fun _ _ _ h => h) (Or.inl ⟨by kernel_rfl, fun W hW => by go_simp⟩) ?_
                  simp only [List.getElem_toArray, List.getElem_cons_zero, List.getElem_cons_succ, Act.put, List.setIfInBounds_toArray, List.set_cons_zero, List.set_cons_succ]
                  refine seq_take (o := { dst := some 83, op := Go.Op.fieldAddr 98 (Go.Operand.tmp 3) 5, type := 0, pos := "form.go:44", after := #[{ on := 71, ground := Go.Ground.guard }], guard := some (71, true) }) (v := .pointer (some ⟨g3, 5, none⟩)) (by kernel_rfl) (fun _ _ _ h => h) (Or.inl ⟨by kernel_rfl, fun W hW => by go_simp⟩) ?_
                  simp only [List.getElem_toArray, List.getElem_cons_zero, List.getElem_cons_succ, Act.put, List.setIfInBounds_toArray, List.set_cons_zero, List.set_cons_succ]
                  refine seq_take (o := { dst := some 84, op := Go.Op.load 4 (Go.Operand.tmp 83), type := 4, pos := "form.go:44", after := #[{ on := 72, ground := Go.Ground.data }, { on := 71, ground := Go.Ground.guard }], guard := some (71, true) }) (v := .bool (fS k)) (by kernel_rfl) (fun _ _ _ h => h) (Or.inl ⟨by kernel_rfl, fun W hW => by have q0 := hW.f5; go_simp⟩) ?_
                  simp only [List.getElem_toArray, List.getElem_cons_zero, List.getElem_cons_succ, Act.put, List.setIfInBounds_toArray, List.set_cons_zero, List.set_cons_succ]
                  refine seq_take (o := { dst := some 85, op := Go.Op.fieldAddr 28 (Go.Operand.tmp 1) 7, type := 0, pos := "form.go:44", after := #[{ on := 71, ground := Go.Ground.guard }], guard := some (71, true) }) (v := .pointer (some ⟨g1, 15, none⟩)) (by kernel_rfl) (fun _ _ _ h => h) (Or.inl ⟨by kernel_rfl, fun W hW => by go_simp⟩) ?_
                  simp only [List.getElem_toArray, List.getElem_cons_zero, List.getElem_cons_succ, Act.put, List.setIfInBounds_toArray, List.set_cons_zero, List.set_cons_succ]
                  refine seq_take (o := { dst := some 86, op := Go.Op.load 26 (Go.Operand.tmp 85), type := 26, pos := "form.go:44", after := #[{ on := 74, ground := Go.Ground.data }, { on := 71, ground := Go.Ground.guard }], guard := some (71, true) }) (v := .slice pa pn pc) (by kernel_rfl) (fun _ _ _ h => h) (Or.inl ⟨by kernel_rfl, fun W hW => by have q0 := hW.c15; go_simp⟩) ?_
                  simp only [List.getElem_toArray, List.getElem_cons_zero, List.getElem_cons_succ, Act.put, List.setIfInBounds_toArray, List.set_cons_zero, List.set_cons_succ]
                  refine seq_take (o := { dst := some 88, op := Go.Op.fieldAddr 28 (Go.Operand.tmp 1) 7, type := 0, pos := "form.go:44", after := #[{ on := 71, ground := Go.Ground.guard }], guard := some (71, true) }) (v := .pointer (some ⟨g1, 15, none⟩)) (by kernel_rfl) (fun _ _ _ h => h) (Or.inl ⟨by kernel_rfl, fun W hW => by go_simp⟩) ?_
                  simp only [List.getElem_toArray, List.getElem_cons_zero, List.getElem_cons_succ, Act.put, List.setIfInBounds_toArray, List.set_cons_zero, List.set_cons_succ]
                  refine seq_take (o := { dst := some 89, op := Go.Op.load 26 (Go.Operand.tmp 88), type := 26, pos := "form.go:44", after := #[{ on := 77, ground := Go.Ground.data }, { on := 71, ground := Go.Ground.guard }], guard := some (71, true) }) (v := .slice pa pn pc) (by kernel_rfl) (fun _ _ _ h => h) (Or.inl ⟨by kernel_rfl, fun W hW => by have q0 := hW.c15; go_simp⟩) ?_
                  simp only [List.getElem_toArray, List.getElem_cons_zero, List.getElem_cons_succ, Act.put, List.setIfInBounds_toArray, List.set_cons_zero, List.set_cons_succ]
                  refine seq_take (o := { dst := some 90, op := Go.Op.call { callee := Go.Callee.builtin Go.Builtin.len, args := #[Go.Operand.tmp 89], argTypes := #[26] }, type := 3, pos := "form.go:44", after := #[{ on := 78, ground := Go.Ground.data }, { on := 71, ground := Go.Ground.guard }], guard := some (71, true) }) (v := .int .i64 (pn : Int)) (by kernel_rfl) (fun _ _ _ h => h) (Or.inl ⟨by kernel_rfl, fun W hW => by go_simp⟩) ?_
                  simp only [List.getElem_toArray, List.getElem_cons_zero, List.getElem_cons_succ, Act.put, List.setIfInBounds_toArray, List.set_cons_zero, List.set_cons_succ]
                  refine seq_take (o := { dst := some 91, op := Go.Op.binOp Go.BinOp.eql 3 (Go.Operand.tmp 90) (Go.Operand.const (Go.Value.int Go.IntKind.i64 0)) 3, type := 4, pos := "form.go:44", after := #[{ on := 79, ground := Go.Ground.data }, { on := 71, ground := Go.Ground.guard }], guard := some (71, true) }) (v := .bool z7) (by kernel_rfl) (fun _ _ _ h => h) (Or.inl ⟨by kernel_rfl, fun W hW => by have q0 := Ez7; go_simp; try (first | exact Dz7 | exact Dz7')⟩) ?_
                  simp only [List.getElem_toArray, List.getElem_cons_zero, List.getElem_cons_succ, Act.put, List.setIfInBounds_toArray, List.set_cons_zero, List.set_cons_succ]
                  refine seq_call (o := { dst := some 87, op := Go.Op.call { callee := Go.Callee.value (Go.Operand.func 66), args := #[Go.Operand.tmp 86], argTypes := #[26] }, type := 4, pos := "form.go:50", after := #[{ on := 75, ground := Go.Ground.data }, { on := 71, ground := Go.Ground.chain }, { on := 71, ground := Go.Ground.guard }], guard := some (71, true) }) (by kernel_rfl) (fun K hK => ?_)
                  rw [if_pos (by kernel_rfl)]
                  go_simp
                  have HI : Hid (Irow _ 0 pa pn ps) := hI.out.keep HC.out.bel.size (fun q _ hq => HC.out.bel.block q hq)
                  go_wp2_with (go_at_call 66; refine (goodParts_n HI).mono ?_; rintro e w0 ⟨rfl, h0⟩; rw [h0, Hb7.out]; clear h0)
                  refine hK.out _ _ HC.out ?_
                  clear hK K
                  try simp only [List.getElem_toArray, List.getElem_cons_zero, List.getElem_cons_succ, Act.put, List.setIfInBounds_toArray, List.set_cons_zero, List.set_cons_succ]
                  refine seq_call (o := { dst := some 92, op := Go.Op.call { callee := Go.Callee.value (Go.Operand.func 63), args := #[Go.Operand.tmp 84, Go.Operand.tmp 87, Go.Operand.tmp 91], argTypes := #[4, 4, 4] }, type := 4, pos := "form.go:50", after := #[{ on := 73, ground := Go.Ground.data }, { on := 76, ground := Go.Ground.data }, { on := 80, ground := Go.Ground.data }, { on := 76, ground := Go.Ground.chain }, { on := 71, ground := Go.Ground.guard }], guard := some (71, true) }) (by kernel_rfl) (fun K hK => ?_)
                  rw [if_pos (by kernel_rfl)]
                  go_simp
                  go_wp2_with (go_at_call 63; refine (goz_n _ _ _ _).mono ?_; rintro e w0 ⟨rfl, h0⟩; rw [h0, Hr7.out]; clear h0)
                  refine hK.out _ _ HC.out ?_
                  clear hK K
                  try simp only [List.getElem_toArray, List.getElem_cons_zero, List.getElem_cons_succ, Act.put, List.setIfInBounds_toArray, List.set_cons_zero, List.set_cons_succ]
                  cases r7 with
                  | false =>
                    refine seq_plain (fun _ _ _ d _ h => by cases d <;> exact h) _ [(some 93, .bool false), (some 94, .bool false), (some 95, undef), (some 96, undef), (some 97, undef), (some 98, undef), (some 100, undef), (some 101, undef), (some 102, undef), (some 99, undef), (some 103, undef), (some 104, .bool false), (some 105, .bool false), (some 106, undef), (some 107, undef), (some 108, undef), (some 109, undef), (some 111, undef), (some 112, undef), (some 113, undef), (some 110, undef), (some 114, undef), (some 115, .bool false), (some 2, .bool false)] _ _ (by kernel_rfl) HC.out ?_
                    simp only [putAll, List.getElem_toArray, List.getElem_cons_zero, List.getElem_cons_succ, Act.put, List.setIfInBounds_toArray, List.set_cons_zero, List.set_cons_succ]
                    have BE : Hid (Below w.heap.size w _) := HC.out.bel
                    clear HC
                    go_wp2
                    go_ret
                    rw [EV.out]
                    exact ⟨by simp, BE.out⟩
                  | true =>
                    refine seq_take (o := { dst := some 93, op := Go.Op.pick (Go.Operand.tmp 82) (Go.Operand.tmp 92) (Go.Operand.const (Go.Value.bool false)), type := 4, pos := "form.go:44", after := #[{ on := 71, ground := Go.Ground.data }, { on := 81, ground := Go.Ground.data }], guard := none }) (v := .bool true) (by kernel_rfl) (fun _ _ _ h => h) (Or.inl ⟨by kernel_rfl, fun W hW => by go_simp⟩) ?_
                    simp only [List.getElem_toArray, List.getElem_cons_zero, List.getElem_cons_succ, Act.put, List.setIfInBounds_toArray, List.set_cons_zero, List.set_cons_succ]
                    refine seq_take (o := { dst := some 94, op := Go.Op.move (Go.Operand.tmp 93), type := 4, pos := "form.go:44", after := #[{ on := 82, ground := Go.Ground.data }, { on := 81, ground := Go.Ground.chain }], guard := none }) (v := .bool true) (by kernel_rfl) (fun _ _ _ h => h) (Or.inl ⟨by kernel_rfl, fun W hW => by go_simp⟩) ?_
                    simp only [List.getElem_toArray, List.getElem_cons_zero, List.getElem_cons_succ, Act.put, List.setIfInBounds_toArray, List.set_cons_zero, List.set_cons_succ]
                    refine seq_take (o := { dst := some 95, op := Go.Op.fieldAddr 98 (Go.Operand.tmp 3) 6, type := 0, pos := "form.go:44", after := #[{ on := 83, ground := Go.Ground.guard }], guard := some (83, true) }) (v := .pointer (some ⟨g3, 6, none⟩)) (by kernel_rfl) (fun _ _ _ h => h) (Or.inl ⟨by kernel_rfl, fun W hW => by go_simp⟩) ?_
                    simp only [List.getElem_toArray, List.getElem_cons_zero, List.getElem_cons_succ, Act.put, List.setIfInBounds_toArray, List.set_cons_zero, List.set_cons_succ]
                    refine seq_take (o := { dst := some 96, op := Go.Op.load 4 (Go.Operand.tmp 95), type := 4, pos := "form.go:44", after := #[{ on := 84, ground := Go.Ground.data }, { on := 83, ground := Go.Ground.guard }], guard := some (83, true) }) (v := .bool (fM k)) (by kernel_rfl) (fun _ _ _ h => h) (Or.inl ⟨by kernel_rfl, fun W hW => by have q0 := hW.f6; go_simp⟩) ?_
                    simp only [List.getElem_toArray, List.getElem_cons_zero, List.getElem_cons_succ, Act.put, List.setIfInBounds_toArray, List.set_cons_zero, List.set_cons_succ]
                    refine seq_take (o := { dst := some 97, op := Go.Op.fieldAddr 28 (Go.Operand.tmp 1) 8, type := 0, pos := "form.go:44", after := #[{ on := 83, ground := Go.Ground.guard }], guard := some (83, true) }) (v := .pointer (some ⟨g1, 16, none⟩)) (by kernel_rfl) (fun _ _ _ h => h) (Or.inl ⟨by kernel_rfl, fun W hW => by go_simp⟩) ?_
                    simp only [List.getElem_toArray, List.getElem_cons_zero, List.getElem_cons_succ, Act.put, List.setIfInBounds_toArray, List.set_cons_zero, List.set_cons_succ]
                    refine seq_take (o := { dst := some 98, op := Go.Op.load 3 (Go.Operand.tmp 97), type := 3, pos := "form.go:44", after := #[{ on := 86, ground := Go.Ground.data }, { on := 83, ground := Go.Ground.guard }], guard := some (83, true) }) (v := .int .i64 tm) (by kernel_rfl) (fun _ _ _ h => h) (Or.inl ⟨by kernel_rfl, fun W hW => by have q0 := hW.c16; go_simp⟩) ?_
                    simp only [List.getElem_toArray, List.getElem_cons_zero, List.getElem_cons_succ, Act.put, List.setIfInBounds_toArray, List.set_cons_zero, List.set_cons_succ]
                    refine seq_take (o := { dst := some 100, op := Go.Op.fieldAddr 28 (Go.Operand.tmp 1) 8, type := 0, pos := "form.go:44", after := #[{ on := 83, ground := Go.Ground.guard }], guard := some (83, true) }) (v := .pointer (some ⟨g1, 16, none⟩)) (by kernel_rfl) (fun _ _ _ h => h) (Or.inl ⟨by kernel_rfl, fun W hW => by go_simp⟩) ?_
                    simp only [List.getElem_toArray, List.getElem_cons_zero, List.getElem_cons_succ, Act.put, List.setIfInBounds_toArray, List.set_cons_zero, List.set_cons_succ]
                    refine seq_take (o := { dst := some 101, op := Go.Op.load 3 (Go.Operand.tmp 100), type := 3, pos := "form.go:44", after := #[{ on := 89, ground := Go.Ground.data }, { on := 83, ground := Go.Ground.guard }], guard := some (83, true) }) (v := .int .i64 tm) (by kernel_rfl) (fun _ _ _ h => h) (Or.inl ⟨by kernel_rfl, fun W hW => by have q0 := hW.c16; go_simp⟩) ?_
                    simp only [List.getElem_toArray, List.getElem_cons_zero, List.getElem_cons_succ, Act.put, List.setIfInBounds_toArray, List.set_cons_zero, List.set_cons_succ]
                    refine seq_take (o := { dst := some 102, op := Go.Op.binOp Go.BinOp.eql 3 (Go.Operand.tmp 101) (Go.Operand.const (Go.Value.int Go.IntKind.i64 0)) 3, type := 4, pos := "form.go:44", after := #[{ on := 90, ground := Go.Ground.data }, { on := 83, ground := Go.Ground.guard }], guard := some (83, true) }) (v := .bool z8) (by kernel_rfl) (fun _ _ _ h => h) (Or.inl ⟨by kernel_rfl, fun W hW => by have q0 := Ez8; go_simp; try (first | exact Dz8 | exact Dz8')⟩) ?_
                    simp only [List.getElem_toArray, List.getElem_cons_zero, List.getElem_cons_succ, Act.put, List.setIfInBounds_toArray, List.set_cons_zero, List.set_cons_succ]
                    refine seq_call (o := { dst := some 99, op := Go.Op.call { callee := Go.Callee.value (Go.Operand.func 61), args := #[Go.Operand.tmp 98], argTypes := #[3] }, type := 4, pos := "form.go:51", after := #[{ on := 87, ground := Go.Ground.data }, { on := 83, ground := Go.Ground.chain }, { on := 83, ground := Go.Ground.guard }], guard := some (83, true) }) (by kernel_rfl) (fun K hK => ?_)
                    rw [if_pos (by kernel_rfl)]
                    go_simp
                    go_wp2_with (go_at_call 61; refine (isTime_n _ _).mono ?_; rintro e w0 ⟨rfl, h0⟩; rw [h0, Hb8.out]; clear h0)
                    refine hK.out _ _ HC.out ?_
                    clear hK K
                    try simp only [List.getElem_toArray, List.getElem_cons_zero, List.getElem_cons_succ, Act.put, List.setIfInBounds_toArray, List.set_cons_zero, List.set_cons_succ]
                    refine seq_call (o := { dst := some 103, op := Go.Op.call { callee := Go.Callee.value (Go.Operand.func 63), args := #[Go.Operand.tmp 96, Go.Operand.tmp 99, Go.Operand.tmp 102], argTypes := #[4, 4, 4] }, type := 4, pos := "form.go:51", after := #[{ on := 85, ground := Go.Ground.data }, { on := 88, ground := Go.Ground.data }, { on := 91, ground := Go.Ground.data }, { on := 88, ground := Go.Ground.chain }, { on := 83, ground := Go.Ground.guard }], guard := some (83, true) }) (by kernel_rfl) (fun K hK => ?_)
                    rw [if_pos (by kernel_rfl)]
                    go_simp
                    go_wp2_with (go_at_call 63; refine (goz_n _ _ _ _).mono ?_; rintro e w0 ⟨rfl, h0⟩; rw [h0, Hr8.out]; clear h0)
                    refine hK.out _ _ HC.out ?_
                    clear hK K
                    try simp only [List.getElem_toArray, List.getElem_cons_zero, List.getElem_cons_succ, Act.put, List.setIfInBounds_toArray, List.set_cons_zero, List.set_cons_succ]
                    cases r8 with
                    | false =>
                      refine seq_plain (fun _ _ _ d _ h => by cases d <;> exact h) _ [(some 104, .bool false), (some 105, .bool false), (some 106, undef), (some 107, undef), (some 108, undef), (some 109, undef), (some 111, undef), (some 112, undef), (some 113, undef), (some 110, undef), (some 114, undef), (some 115, .bool false), (some 2, .bool false)] _ _ (by kernel_rfl) HC.out ?_
                      simp only [putAll, List.getElem_toArray, List.getElem_cons_zero, List.getElem_cons_succ, Act.put, List.setIfInBounds_toArray, List.set_cons_zero, List.set_cons_succ]
                      have BE : Hid (Below w.heap.size w _) := HC.out.bel
                      clear HC
                      go_wp2
                      go_ret
                      rw [EV.out]
                      exact ⟨by simp, BE.out⟩
                    | true =>
                      refine seq_take (o := { dst := some 104, op := Go.Op.pick (Go.Operand.tmp 94) (Go.Operand.tmp 103) (Go.Operand.const (Go.Value.bool false)), type := 4, pos := "form.go:44", after := #[{ on := 83, ground := Go.Ground.data }, { on := 92, ground := Go.Ground.data }], guard := none }) (v := .bool true) (by kernel_rfl) (fun _ _ _ h => h) (Or.inl ⟨by kernel_rfl, fun W hW => by go_simp⟩) ?_
                      simp only [List.getElem_toArray, List.getElem_cons_zero, List.getElem_cons_succ, Act.put, List.setIfInBounds_toArray, List.set_cons_zero, List.set_cons_succ]
                      refine seq_take (o := { dst := some 105, op := Go.Op.move (Go.Operand.tmp 104), type := 4, pos := "form.go:44", after := #[{ on := 93, ground := Go.Ground.data }, { on := 92, ground := Go.Ground.chain }], guard := none }) (v := .bool true) (by kernel_rfl) (fun _ _ _ h => h) (Or.inl ⟨by kernel_rfl, fun W hW => by go_simp⟩) ?_
                      simp only [List.getElem_toArray, List.getElem_cons_zero, List.getElem_cons_succ, Act.put, List.setIfInBounds_toArray, List.set_cons_zero, List.set_cons_succ]
                      refine seq_take (o := { dst := some 106, op := Go.Op.fieldAddr 98 (Go.Operand.tmp 3) 7, type := 0, pos := "form.go:44", after := #[{ on := 94, ground := Go.Ground.guard }], guard := some (94, true) }) (v := .pointer (some ⟨g3, 7, none⟩)) (by kernel_rfl) (fun _ _ _ h => h) (Or.inl ⟨by kernel_rfl, fun W hW => by go_simp⟩) ?_
                      simp only [List.getElem_toArray, List.getElem_cons_zero, List.getElem_cons_succ, Act.put, List.setIfInBounds_toArray, List.set_cons_zero, List.set_cons_succ]
                      refine seq_take (o := { dst := some 107, op := Go.Op.load 4 (Go.Operand.tmp 106), type := 4, pos := "form.go:44", after := #[{ on := 95, ground := Go.Ground.data }, { on := 94, ground := Go.Ground.guard }], guard := some (94, true) }) (v := .bool (fD k)) (by kernel_rfl) (fun _ _ _ h => h) (Or.inl ⟨by kernel_rfl, fun W hW => by have q0 := hW.f7; go_simp⟩) ?_
                      simp only [List.getElem_toArray, List.getElem_cons_zero, List.getElem_cons_succ, Act.put, List.setIfInBounds_toArray, List.set_cons_zero, List.set_cons_succ]
                      refine seq_take (o := { dst := some 108, op := Go.Op.fieldAddr 28 (Go.Operand.tmp 1) 9, type := 0, pos := "form.go:44", after := #[{ on := 94, ground := Go.Ground.guard }], guard := some (94, true) }) (v := .pointer (some ⟨g1, 17, none⟩)) (by kernel_rfl) (fun _ _ _ h => h) (Or.inl ⟨by kernel_rfl, fun W hW => by go_simp⟩) ?_
                      simp only [List.getElem_toArray, List.getElem_cons_zero, List.getElem_cons_succ, Act.put, List.setIfInBounds_toArray, List.set_cons_zero, List.set_cons_succ]
                      refine seq_take (o := { dst := some 109, op := Go.Op.load 3 (Go.Operand.tmp 108), type := 3, pos := "form.go:44", after := #[{ on := 97, ground := Go.Ground.data }, { on := 94, ground := Go.Ground.guard }], guard := some (94, true) }) (v := .int .i64 dy) (by kernel_rfl) (fun _ _ _ h => h) (Or.inl ⟨by kernel_rfl, fun W hW => by have q0 := hW.c17; go_simp⟩) ?_
                      simp only [List.getElem_toArray, List.getElem_cons_zero, List.getElem_cons_succ, Act.put, List.setIfInBounds_toArray, List.set_cons_zero, List.set_cons_succ]
                      refine seq_take (o := { dst := some 111, op := Go.Op.fieldAddr 28 (Go.Operand.tmp 1) 9, type := 0, pos := "form.go:44", after := #[{ on := 94, ground := Go.Ground.guard }], guard := some (94, true) }) (v := .pointer (some ⟨g1, 17, none⟩)) (by kernel_rfl) (fun _ _ _ h => h) (Or.inl ⟨by kernel_rfl, fun W hW => by go_simp⟩) ?_
                      simp only [List.getElem_toArray, List.getElem_cons_zero, List.getElem_cons_succ, Act.put, List.setIfInBounds_toArray, List.set_cons_zero, List.set_cons_succ]
                      refine seq_take (o := { dst := some 112, op := Go.Op.load 3 (Go.Operand.tmp 111), type := 3, pos := "form.go:44", after := #[{ on := 100, ground := Go.Ground.data }, { on := 94, ground := Go.Ground.guard }], guard := some (94, true) }) (v := .int .i64 dy) (by kernel_rfl) (fun _ _ _ h => h) (Or.inl ⟨by kernel_rfl, fun W hW => by have q0 := hW.c17; go_simp⟩) ?_
                      simp only [List.getElem_toArray, List.getElem_cons_zero, List.getElem_cons_succ, Act.put, List.setIfInBounds_toArray, List.set_cons_zero, List.set_cons_succ]
                      refine seq_take (o := { dst := some 113, op := Go.Op.binOp Go.BinOp.eql 3 (Go.Operand.tmp 112) (Go.Operand.const (Go.Value.int Go.IntKind.i64 0)) 3, type := 4, pos := "form.go:44", after := #[{ on := 101, ground := Go.Ground.data }, { on := 94, ground := Go.Ground.guard }], guard := some (94, true) }) (v := .bool z9) (by kernel_rfl) (fun _ _ _ h => h) (Or.inl ⟨by kernel_rfl, fun W hW => by have q0 := Ez9; go_simp; try (first | exact Dz9 | exact Dz9')⟩) ?_
                      simp only [List.getElem_toArray, List.getElem_cons_zero, List.getElem_cons_succ, Act.put, List.setIfInBounds_toArray, List.set_cons_zero, List.set_cons_succ]
                      refine seq_call (o := { dst := some 110, op := Go.Op.call { callee := Go.Callee.value (Go.Operand.func 61), args := #[Go.Operand.tmp 109], argTypes := #[3] }, type := 4, pos := "form.go:52", after := #[{ on := 98, ground := Go.Ground.data }, { on := 94, ground := Go.Ground.chain }, { on := 94, ground := Go.Ground.guard }], guard := some (94, true) }) (by kernel_rfl) (fun K hK => ?_)
                      rw [if_pos (by kernel_rfl)]
                      go_simp
                      go_wp2_with (go_at_call 61; refine (isTime_n _ _).mono ?_; rintro e w0 ⟨rfl, h0⟩; rw [h0, Hb9.out]; clear h0)
                      refine hK.out _ _ HC.out ?_
                      clear hK K
                      try simp only [List.getElem_toArray, List.getElem_cons_zero, List.getElem_cons_succ, Act.put, List.setIfInBounds_toArray, List.set_cons_zero, List.set_cons_succ]
                      refine seq_call (o := { dst := some 114, op := Go.Op.call { callee := Go.Callee.value (Go.Operand.func 63), args := #[Go.Operand.tmp 107, Go.Operand.tmp 110, Go.Operand.tmp 113], argTypes := #[4, 4, 4] }, type := 4, pos := "form.go:52", after := #[{ on := 96, ground := Go.Ground.data }, { on := 99, ground := Go.Ground.data }, { on := 102, ground := Go.Ground.data }, { on := 99, ground := Go.Ground.chain }, { on := 94, ground := Go.Ground.guard }], guard := some (94, true) }) (by kernel_rfl) (fun K hK => ?_)
                      rw [if_pos (by kernel_rfl)]
                      go_simp
                      go_wp2_with (go_at_call 63; refine (goz_n _ _ _ _).mono ?_; rintro e w0 ⟨rfl, h0⟩; rw [h0, Hr9.out]; clear h0)
                      refine hK.out _ _ HC.out ?_
                      clear hK K
                      try simp only [List.getElem_toArray, List.getElem_cons_zero, List.getElem_cons_succ, Act.put, List.setIfInBounds_toArray, List.set_cons_zero, List.set_cons_succ]
                      cases r9 with
                      | false =>
                        refine seq_plain (fun _ _ _ d _ h => by cases d <;> exact h) _ [(some 115, .bool false), (some 2, .bool false)] _ _ (by kernel_rfl) HC.out ?_
                        simp only [putAll, List.getElem_toArray, List.getElem_cons_zero, List.getElem_cons_succ, Act.put, List.setIfInBounds_toArray, List.set_cons_zero, List.set_cons_succ]
                        have BE : Hid (Below w.heap.size w _) := HC.out.bel
                        clear HC
                        go_wp2
                        go_ret
                        rw [EV.out]
                        exact ⟨by simp, BE.out⟩
                      | true =>
                        refine seq_take (o := { dst := some 115, op := Go.Op.pick (Go.Operand.tmp 105) (Go.Operand.tmp 114) (Go.Operand.const (Go.Value.bool false)), type := 4, pos := "form.go:44", after := #[{ on := 94, ground := Go.Ground.data }, { on := 103, ground := Go.Ground.data }], guard := none }) (v := .bool true) (by kernel_rfl) (fun _ _ _ h => h) (Or.inl ⟨by kernel_rfl, fun W hW => by go_simp⟩) ?_
                        simp only [List.getElem_toArray, List.getElem_cons_zero, List.getElem_cons_succ, Act.put, List.setIfInBounds_toArray, List.set_cons_zero, List.set_cons_succ]
                        refine seq_take (o := { dst := some 2, op := Go.Op.assign (Go.Operand.tmp 115), type := 4, pos := "form.go:44", after := ([{ on := 104, ground := Go.Ground.data }, { on := 103, ground := Go.Ground.chain }, { on := 0, ground := Go.Ground.phase }, { on := 1, ground := Go.Ground.phase }, { on := 2, ground := Go.Ground.phase }, { on := 3, ground := Go.Ground.phase }, { on := 4, ground := Go.Ground.phase }, { on := 5, ground := Go.Ground.phase }, { on := 6, ground := Go.Ground.phase }, { on := 7, ground := Go.Ground.phase }, { on := 8, ground := Go.Ground.phase }, { on := 9, ground := Go.Ground.phase }, { on := 10, ground := Go.Ground.phase }, { on := 11, ground := Go.Ground.phase }, { on := 12, ground := Go.Ground.phase }, { on := 13, ground := Go.Ground.phase }, { on := 14, ground := Go.Ground.phase }, { on := 15, ground := Go.Ground.phase }, { on := 16, ground := Go.Ground.phase }, { on := 17, ground := Go.Ground.phase }, { on := 18, ground := Go.Ground.phase }, { on := 19, ground := Go.Ground.phase }, { on := 20, ground := Go.Ground.phase }, { on := 21, ground := Go.Ground.phase }, { on := 22, ground := Go.Ground.phase }, { on := 23, ground := Go.Ground.phase }, { on := 24, ground := Go.Ground.phase }, { on := 25, ground := Go.Ground.phase }, { on := 26, ground := Go.Ground.phase }, { on := 27, ground := Go.Ground.phase }, { on := 28, ground := Go.Ground.phase }, { on := 29, ground := Go.Ground.phase }, { on := 30, ground := Go.Ground.phase }, { on := 31, ground := Go.Ground.phase }, { on := 32, ground := Go.Ground.phase }, { on := 33, ground := Go.Ground.phase }, { on := 34, ground := Go.Ground.phase }, { on := 35, ground := Go.Ground.phase }, { on := 36, ground := Go.Ground.phase }, { on := 37, ground := Go.Ground.phase }, { on := 38, ground := Go.Ground.phase }, { on := 39, ground := Go.Ground.phase }, { on := 40, ground := Go.Ground.phase }, { on := 41, ground := Go.Ground.phase }, { on := 42, ground := Go.Ground.phase }, { on := 43, ground := Go.Ground.phase }, { on := 44, ground := Go.Ground.phase }, { on := 45, ground := Go.Ground.phase }, { on := 46, ground := Go.Ground.phase }, { on := 47, ground := Go.Ground.phase }, { on := 48, ground := Go.Ground.phase }, { on := 49, ground := Go.Ground.phase }, { on := 50, ground := Go.Ground.phase }].append [{ on := 51, ground := Go.Ground.phase }, { on := 52, ground := Go.Ground.phase }, { on := 53, ground := Go.Ground.phase }, { on := 54, ground := Go.Ground.phase }, { on := 55, ground := Go.Ground.phase }, { on := 56, ground := Go.Ground.phase }, { on := 57, ground := Go.Ground.phase }, { on := 58, ground := Go.Ground.phase }, { on := 59, ground := Go.Ground.phase }, { on := 60, ground := Go.Ground.phase }, { on := 61, ground := Go.Ground.phase }, { on := 62, ground := Go.Ground.phase }, { on := 63, ground := Go.Ground.phase }, { on := 64, ground := Go.Ground.phase }, { on := 65, ground := Go.Ground.phase }, { on := 66, ground := Go.Ground.phase }, { on := 67, ground := Go.Ground.phase }, { on := 68, ground := Go.Ground.phase }, { on := 69, ground := Go.Ground.phase }, { on := 70, ground := Go.Ground.phase }, { on := 71, ground := Go.Ground.phase }, { on := 72, ground := Go.Ground.phase }, { on := 73, ground := Go.Ground.phase }, { on := 74, ground := Go.Ground.phase }, { on := 75, ground := Go.Ground.phase }, { on := 76, ground := Go.Ground.phase }, { on := 77, ground := Go.Ground.phase }, { on := 78, ground := Go.Ground.phase }, { on := 79, ground := Go.Ground.phase }, { on := 80, ground := Go.Ground.phase }, { on := 81, ground := Go.Ground.phase }, { on := 82, ground := Go.Ground.phase }, { on := 83, ground := Go.Ground.phase }, { on := 84, ground := Go.Ground.phase }, { on := 85, ground := Go.Ground.phase }, { on := 86, ground := Go.Ground.phase }, { on := 87, ground := Go.Ground.phase }, { on := 88, ground := Go.Ground.phase }, { on := 89, ground := Go.Ground.phase }, { on := 90, ground := Go.Ground.phase }, { on := 91, ground := Go.Ground.phase }, { on := 92, ground := Go.Ground.phase }, { on := 93, ground := Go.Ground.phase }, { on := 94, ground := Go.Ground.phase }, { on := 95, ground := Go.Ground.phase }, { on := 96, ground := Go.Ground.phase }, { on := 97, ground := Go.Ground.phase }, { on := 98, ground := Go.Ground.phase }, { on := 99, ground := Go.Ground.phase }, { on := 100, ground := Go.Ground.phase }, { on := 101, ground := Go.Ground.phase }, { on := 102, ground := Go.Ground.phase }, { on := 103, ground := Go.Ground.phase }, { on := 104, ground := Go.Ground.phase }]).toArray, guard := none }) (v := .bool true) (by kernel_rfl) (fun _ _ _ h => h) (Or.inl ⟨by kernel_rfl, fun W hW => by go_simp⟩) ?_
                        simp only [List.getElem_toArray, List.getElem_cons_zero, List.getElem_cons_succ, Act.put, List.setIfInBounds_toArray, List.set_cons_zero, List.set_cons_succ]
                        show (Exit.then _ _) .normal _ _
                        have BE : Hid (Below w.heap.size w _) := HC.out.bel
                        clear HC
                        go_wp2
                        go_ret
                        rw [EV.out]
                        exact ⟨by simp, BE.out⟩
end Go.Proofs.YtoegfckafnlknaaDoor
