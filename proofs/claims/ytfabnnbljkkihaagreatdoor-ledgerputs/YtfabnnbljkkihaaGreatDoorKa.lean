/- The catalog on plain data: what a command makes of it, as package catalog does it. -/
import Derived.Test.YtfabnnbljkkihaaGreatDoorAb
import Derived.Lib.Bytealg
namespace Go.Proofs.YtfabnnbljkkihaaGreatDoor
open Go.ChangeShapes Go.WideShapes Go.ChangeAt Go.RowKit
set_option maxRecDepth 20000
set_option linter.unusedVariables false
set_option linter.unusedSimpArgs false
structure Pcd where
  b0 : Int
  b1 : Int
  b2 : Int
  sz : Int
  et : ByteArray
structure Ptd where
  no : Int
  pc : Pcd
structure Obd where
  key : ByteArray
  size : Int
  etag : ByteArray
  time : Int
  pcs : List Pcd
structure Uld where
  i0 : Int
  i1 : Int
  i2 : Int
  key : ByteArray
  pts : List Ptd
structure Bkd where
  name : ByteArray
  time : Int
  days : Int
  obs : List Obd
  uls : List Uld
structure Idd where
  i0 : Int
  i1 : Int
  i2 : Int
structure Ctd where
  bks : List Bkd
  fls : List Idd
/- a search by halves: p h: what stands at h precedes the mark -/
def bsr (p : Nat → Bool) : Nat → Nat → Nat → Nat
  | 0, lo, _ => lo
  | k + 1, lo, hi => if lo < hi then (if p ((lo + hi) / 2) then bsr p k ((lo + hi) / 2 + 1) hi else bsr p k lo ((lo + hi) / 2)) else lo
theorem bsr_done (p : Nat → Bool) (k lo hi : Nat) (h : ¬ lo < hi) : bsr p k lo hi = lo := by
  cases k with
  | zero => rfl
  | succ k => simp [bsr, h]
theorem bsr_le (p : Nat → Bool) : ∀ k lo hi, lo ≤ hi → bsr p k lo hi ≤ hi := by
  intro k
  induction k with
  | zero => intro lo hi h; exact h
  | succ k ih =>
    intro lo hi h
    unfold bsr
    by_cases h1 : lo < hi
    · rw [if_pos h1]
      by_cases h2 : p ((lo + hi) / 2) = true
      · rw [if_pos h2]; exact ih _ _ (by omega)
      · rw [if_neg h2]; exact Nat.le_trans (ih _ _ (by omega)) (by omega)
    · rw [if_neg h1]; exact h
/- enough halvings: one more makes no difference -/
theorem bsr_more (p : Nat → Bool) : ∀ k lo hi, hi - lo ≤ k → bsr p (k + 1) lo hi = bsr p k lo hi := by
  intro k
  induction k with
  | zero => intro lo hi h; rw [bsr_done _ _ _ _ (by omega), bsr_done _ _ _ _ (by omega)]
  | succ k ih =>
    intro lo hi h
    by_cases h1 : lo < hi
    · conv => lhs; unfold bsr
      conv => rhs; unfold bsr
      rw [if_pos h1, if_pos h1]
      by_cases h2 : p ((lo + hi) / 2) = true
      · rw [if_pos h2, if_pos h2]; exact ih _ _ (by omega)
      · rw [if_neg h2, if_neg h2]; exact ih _ _ (by omega)
    · rw [bsr_done _ _ _ _ h1, bsr_done _ _ _ _ h1]
theorem bsr_step (p : Nat → Bool) {k lo hi : Nat} (h : hi - lo ≤ k) (h1 : lo < hi) : bsr p k lo hi = if p ((lo + hi) / 2) then bsr p k ((lo + hi) / 2 + 1) hi else bsr p k lo ((lo + hi) / 2) := by
  cases k with
  | zero => omega
  | succ k =>
    conv => lhs; unfold bsr
    rw [if_pos h1]
    by_cases h2 : p ((lo + hi) / 2) = true
    · rw [if_pos h2, if_pos h2, bsr_more _ _ _ _ (by omega)]
    · rw [if_neg h2, if_neg h2, bsr_more _ _ _ _ (by omega)]
/- where the one with the mark stands, or would stand; c x: how x stands to the mark -/
def plcB {α : Type} (c : α → Int) (l : List α) : Nat := bsr (fun h => (l[h]?).any (fun x => decide (c x < 0))) l.length 0 l.length
def isB {α : Type} (c : α → Int) (l : List α) : Bool := (l[plcB c l]?).any (fun x => decide (c x = 0))
theorem plcB_le {α : Type} (c : α → Int) (l : List α) : plcB c l ≤ l.length := bsr_le _ _ _ _ (Nat.zero_le _)
theorem isB_lt {α : Type} {c : α → Int} {l : List α} (h : isB c l = true) : plcB c l < l.length := by
  unfold isB at h
  by_cases h1 : plcB c l < l.length
  · exact h1
  · rw [List.getElem?_eq_none (by omega)] at h; cases h
/- one put in, or in the place of the one that is there; one taken out -/
def setB {α : Type} (c : α → Int) (l : List α) (x : α) : List α := if isB c l then l.set (plcB c l) x else l.take (plcB c l) ++ x :: l.drop (plcB c l)
def outB {α : Type} (c : α → Int) (l : List α) : List α := if isB c l then l.eraseIdx (plcB c l) else l
def cmI (a b : Int) : Int := if a < b then -1 else if b < a then 1 else 0
def cmS (a b : ByteArray) : Int := Lib.compareBytes a.data.toList b.data.toList
def cmD (a0 a1 a2 b0 b1 b2 : Int) : Int := if cmI a0 b0 ≠ 0 then cmI a0 b0 else if cmI a1 b1 ≠ 0 then cmI a1 b1 else cmI a2 b2
def byN (s : ByteArray) (b : Bkd) : Int := cmS b.name s
def byK (s : ByteArray) (o : Obd) : Int := cmS o.key s
def byU (i j k : Int) (u : Uld) : Int := cmD u.i0 u.i1 u.i2 i j k
def byP (n : Int) (p : Ptd) : Int := cmI p.no n
def byF (n : Int) (f : Idd) : Int := cmI f.i0 n
/- what a command comes to -/
structure Outc where
  code : Int
  etag : ByteArray
def okO : Outc := ⟨0, ⟨#[]⟩⟩
def noO (k : Int) : Outc := ⟨k, ⟨#[]⟩⟩
def pcO (x : Cm) : Pcd := ⟨x.b0, x.b1, x.b2, x.sz, x.et⟩
def sizO (l : List Pcd) : Int := l.foldl (fun s p => IntKind.i64.wrap (s + p.sz)) 0
def obO (x : Cm) (etag : ByteArray) (l : List Pcd) : Obd := ⟨x.ke, sizO l, etag, x.tm, l⟩
def roomO (b : Bkd) (s : ByteArray) : Bool := isB (byK s) b.obs || decide (b.obs.length < 128)
def putO (b : Bkd) (x : Cm) : Bkd × Outc :=
  if roomO b x.ke then ({ b with obs := setB (byK x.ke) b.obs (obO x x.et [pcO x]) }, ⟨0, x.et⟩) else (b, noO 7)
def delO (b : Bkd) (x : Cm) : Bkd × Outc := ({ b with obs := outB (byK x.ke) b.obs }, okO)
def staO (b : Bkd) (x : Cm) : Bkd × Outc :=
  if 16 ≤ b.uls.length then (b, noO 7) else ({ b with uls := setB (byU x.i0 x.i1 x.i2) b.uls ⟨x.i0, x.i1, x.i2, x.ke, []⟩ }, okO)
def dayO (b : Bkd) (x : Cm) : Bkd × Outc := ({ b with days := x.dy }, okO)
/- the command's upload -/
def upB (b : Bkd) (x : Cm) : Option Uld := (b.uls[plcB (byU x.u0 x.u1 x.u2) b.uls]?).filter (fun u => isB (byU x.u0 x.u1 x.u2) b.uls && decide (u.key = x.ke))
def parO (b : Bkd) (x : Cm) : Bkd × Outc :=
  match upB b x with
  | none => (b, noO 3)
  | some u => ({ b with uls := b.uls.set (plcB (byU x.u0 x.u1 x.u2) b.uls) { u with pts := setB (byP x.pt) u.pts ⟨x.pt, pcO x⟩ } }, ⟨0, x.et⟩)
def aboO (b : Bkd) (x : Cm) : Bkd × Outc :=
  match upB b x with
  | none => (b, noO 3)
  | some _ => ({ b with uls := outB (byU x.u0 x.u1 x.u2) b.uls }, okO)
def pcsO (pts : List Ptd) : List Int → Option (List Pcd)
  | [] => some []
  | n :: r => if isB (byP n) pts then (pts[plcB (byP n) pts]?).bind (fun p => (pcsO pts r).map (fun q => p.pc :: q)) else none
def comO (sum : List Pcd → ByteArray) (b : Bkd) (x : Cm) : Bkd × Outc :=
  match upB b x with
  | none => (b, noO 3)
  | some u =>
    match pcsO u.pts x.ps with
    | none => (b, noO 6)
    | some l => if roomO b x.ke then ({ b with uls := outB (byU x.u0 x.u1 x.u2) b.uls, obs := setB (byK x.ke) b.obs (obO x (sum l) l) }, ⟨0, sum l⟩) else (b, noO 7)
/- what the command does to its bucket, if it is there -/
def inB (C : Ctd) (x : Cm) (f : Bkd → Cm → Bkd × Outc) : Ctd × Outc :=
  if isB (byN x.bu) C.bks then
    match C.bks[plcB (byN x.bu) C.bks]? with
    | none => (C, noO 1)
    | some b => ({ C with bks := C.bks.set (plcB (byN x.bu) C.bks) (f b x).1 }, (f b x).2)
  else (C, noO 1)
def makO (C : Ctd) (x : Cm) : Ctd × Outc :=
  if isB (byN x.bu) C.bks then (C, noO 4) else if 16 ≤ C.bks.length then (C, noO 7) else ({ C with bks := setB (byN x.bu) C.bks ⟨x.bu, x.tm, 0, [], []⟩ }, okO)
def droO (C : Ctd) (x : Cm) : Ctd × Outc :=
  if isB (byN x.bu) C.bks then
    match C.bks[plcB (byN x.bu) C.bks]? with
    | none => (C, noO 1)
    | some b => if b.obs ≠ [] ∨ b.uls ≠ [] then (C, noO 5) else ({ C with bks := outB (byN x.bu) C.bks }, okO)
  else (C, noO 1)
def expB (b : Bkd) (t : Int) : Bkd := if b.days = 0 then b else { b with obs := b.obs.filter (fun o => !decide (IntKind.i64.wrap (o.time + b.days) ≤ t)) }
def expO (C : Ctd) (x : Cm) : Ctd × Outc := ({ C with bks := C.bks.map (fun b => expB b x.tm) }, okO)
def fltO (C : Ctd) (x : Cm) : Bool := !isB (byF x.i0) C.fls || (C.fls[plcB (byF x.i0) C.fls]?).any (fun f => decide (cmD f.i0 f.i1 f.i2 x.i0 x.i1 x.i2 < 0))
def flrO (C : Ctd) (x : Cm) : Ctd × Outc := (if fltO C x then { C with fls := setB (byF x.i0) C.fls ⟨x.i0, x.i1, x.i2⟩ } else C, okO)
def app (sum : List Pcd → ByteArray) (C : Ctd) (x : Cm) : Ctd × Outc :=
  if x.k = 1 then makO C x else if x.k = 2 then droO C x else if x.k = 3 then inB C x putO else if x.k = 4 then inB C x delO else if x.k = 5 then inB C x staO
  else if x.k = 6 then inB C x parO else if x.k = 7 then inB C x (comO sum) else if x.k = 8 then inB C x aboO else if x.k = 9 then inB C x dayO
  else if x.k = 10 then expO C x else if x.k = 11 then flrO C x else (C, noO 8)
end Go.Proofs.YtfabnnbljkkihaaGreatDoor
