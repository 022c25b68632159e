import Derived.Test.YtfabnnbljkkihaaGreatDoorMxp
import Derived.Test.YtfabnnbljkkihaaGreatDoorRows
import Derived.WalkKit
import Derived.ProofKit
import Derived.OpenShut
import Derived.Outline
import Derived.Handy
import Derived.Deep.QuietTactic
import Derived.BigQuiet
import Derived.WalkSmall
import Derived.Laws.Tables
import Derived.Laws.CopyOwn
import Derived.Laws.OwnMore
import Derived.Deep.MidRow
import Derived.Deep.WholeRow
import Derived.StillTailTactics
import Derived.WalkLawsBesides
import Derived.SizedLaws
import Derived.ChangeOld
import Derived.Below
import Derived.Lib.SmallJoins
import Derived.Lib.Bytealg
namespace Go.Proofs.YtfabnnbljkkihaaGreatDoor
open Go.ChangeShapes Go.WideShapes Go.ChangeAt Go.RowKit
set_option maxRecDepth 20000
set_option linter.unusedVariables false
set_option linter.unusedSimpArgs false
theorem cell_lt {w : World} {b off : Nat} {v : Value} (h : w.cell? ⟨b, off, none⟩ = some v) : b < w.heap.size := by
 unfold World.cell? at h
 rcases hb : w.heap[b]? with _ | o
 . simp [hb] at h
 . exact (gl hb)
structure Ch (w w' : World) (S : Nat -> Prop) : Prop where
 os : w'.os = w.os
 tape : w'.tape = w.tape
 output : w'.output = w.output
 size : w.heap.size <= w'.heap.size
 block : ∀ k, k < w.heap.size -> ¬ S k -> w'.heap[k]? = w.heap[k]?
theorem Ch.below {w w' : World} {S : Nat -> Prop} (h : Below w.heap.size w w') : Ch w w' S := ⟨h.os, h.tape, h.output, h.size, fun k hk _ => h.block k hk⟩
theorem Ch.refl (w : World) (S : Nat -> Prop) : Ch w w S := ⟨rfl, rfl, rfl, Nat.le_refl _, fun _ _ _ => rfl⟩
theorem Ch.trans {a b c : World} {S : Nat -> Prop} (h : Ch a b S) (k : Ch b c S) : Ch a c S :=
 ⟨k.os.trans h.os, k.tape.trans h.tape, k.output.trans h.output, Nat.le_trans h.size k.size, fun i hi hn => (k.block i (Nat.lt_of_lt_of_le hi h.size) hn).trans (h.block i hi hn)⟩
theorem Ch.weak {a b : World} {S T : Nat -> Prop} (h : Ch a b S) (hs : ∀ q, q < a.heap.size -> S q -> T q) : Ch a b T :=
 ⟨h.os, h.tape, h.output, h.size, fun i hi hn => h.block i hi (fun hs' => hn (hs i hi hs'))⟩
theorem Ch.then {a b c : World} {S T U : Nat -> Prop} (h : Ch a b S) (k : Ch b c T) (hs : ∀ q, q < a.heap.size -> S q -> U q) (ht : ∀ q, q < a.heap.size -> T q -> U q) : Ch a c U :=
 ⟨k.os.trans h.os, k.tape.trans h.tape, k.output.trans h.output, Nat.le_trans h.size k.size, fun i hi hn => (k.block i (Nat.lt_of_lt_of_le hi h.size) (fun x => hn (ht i hi x))).trans (h.block i hi (fun x => hn (hs i hi x)))⟩
theorem Ch.toBelow {a b : World} {S : Nat -> Prop} {B : Nat} (h : Ch a b S) (hB : B <= a.heap.size) (hs : ∀ q, q < B -> ¬ S q) : Below B a b :=
 ⟨h.os, h.tape, h.output, h.size, fun k hk => h.block k (Nat.lt_of_lt_of_le hk hB) (hs k hk)⟩
theorem Ch.set (w : World) (g i : Nat) (v : Value) : Ch w (w.setCell ⟨g, i, none⟩ v) (fun q => q = g) := ⟨rfl, rfl, rfl, by simp [World.setCell], fun k _ hk => Below.heap_setCell _ _ _ _ hk⟩
theorem Ch.drew (w : World) (S : Nat -> Prop) : Ch w w.drew S := ⟨rfl, rfl, rfl, Nat.le_refl _, fun _ _ _ => rfl⟩
theorem alloc1 (w : World) (o : Obj) : Below w.heap.size w (w.alloc o) := (Below.refl _ w).alloc (Nat.le_refl _) o
theorem alloc2 (w : World) (o o2 : Obj) : Below w.heap.size w ((w.alloc o).alloc o2) := (alloc1 w o).alloc (by simp) o2
theorem set_blk {w : World} {g : Nat} {C : Array Value} {t : TypeId} {fr : Nat × Nat} (h : w.heap[g]? = some (.cells C t fr)) (i : Nat) (v : Value) : (w.setCell ⟨g, i, none⟩ v).heap[g]? = some (.cells (C.setIfInBounds i v) t fr) := by
 rw [setCell_eq_setRow w g i _ t fr _ h]
 exact setRow_heap w g _ _ t fr h
def blkOf (a : Option Addr) : Option Nat := a.map Addr.block
theorem ownBlock_slice (a : Option Addr) (n c : Nat) : (Value.slice a n c).ownBlock = blkOf a := by cases a <;> rfl
theorem rown_bel {w w' : World} {B : Nat} {t : TypeId} {z : Nat} {v : Value} {n : Nat} {xs : List Value} (h : w.ownsRow B t z v n xs) (hb : ∀ q, v.ownBlock = some q -> w'.heap[q]? = w.heap[q]?) : w'.ownsRow B t z v n xs := by
 refine ⟨h.1, h.2.imp id ?_⟩
 rintro ⟨q, cap, cur, rfl, e2, e3, e4⟩
 exact ⟨q, cap, cur, rfl, e2, (hb q rfl).trans e3, e4⟩
theorem rown_mono {w : World} {B B' : Nat} {t : TypeId} {z : Nat} {v : Value} {n : Nat} {xs : List Value} (h : w.ownsRow B t z v n xs) (hb : B' <= B) : w.ownsRow B' t z v n xs := by
 refine ⟨h.1, h.2.imp id ?_⟩
 rintro ⟨q, cap, cur, e1, e2, e3, e4⟩
 exact ⟨q, cap, cur, e1, by omega, e3, e4⟩
theorem rown_slice {w : World} {B : Nat} {t : TypeId} {z : Nat} {v : Value} {n : Nat} {xs : List Value} (h : w.ownsRow B t z v n xs) : ∃ a c, v = .slice a n c := by
 rcases h.2 with ⟨h1, h2⟩ | ⟨g, cap, cur, h1, _⟩
 . exact ⟨none, 0, by rw [h1, h2]⟩
 . exact ⟨_, _, h1⟩
theorem rown_cap0 {w : World} {B : Nat} {t : TypeId} {z : Nat} {a : Option Addr} {n c : Nat} {xs : List Value} (h : w.ownsRow B t z (.slice a n c) n xs) : a = none -> c = 0 := by
 rcases h.2 with ⟨h1, _⟩ | ⟨g, cap, cur, h1, _⟩
 . simp at h1
   exact fun _ => h1.2.2
 . simp at h1
   intro e
   rw [e] at h1
   simp at h1
theorem rown_cap {w : World} {B : Nat} {t : TypeId} {z : Nat} {a : Option Addr} {n c : Nat} {xs : List Value} (h : w.ownsRow B t z (.slice a n c) n xs) : n <= c := by
 rcases h.2 with ⟨h1, h2⟩ | ⟨g, cap, cur, h1, _, _, h4, _⟩
 . omega
 . cases h1; exact h4
theorem rown_at {w : World} {B : Nat} {t : TypeId} {z : Nat} {a : Option Addr} {n c : Nat} {xs : List Value} (h : w.ownsRow B t z (.slice a n c) n xs) (hn : 0 < n) : ∃ g, a = some ⟨g, 0, none⟩ /\ B <= g /\ g < w.heap.size /\ ∃ cur, w.heap[g]? = some (.cells cur t (0, 0)) /\ n * z <= cur.size := by
 rcases h.2 with ⟨h1, h2⟩ | ⟨g, cap, cur, h1, h2, h3, h4, h5, h6, h7⟩
 . omega
 . cases h1
   exact ⟨g, rfl, h2, (gl h3), cur, h3, by rw [h6]; exact Nat.mul_le_mul_right _ h4⟩
theorem row_set {W : World} {B : Nat} {e : TypeId} {z g n c : Nat} {xs : List Value} (h : W.ownsRow B e z (.slice (some ⟨g, 0, none⟩) n c) n xs) (k : Nat) (v : Value) : (W.setCell ⟨g, k, none⟩ v).ownsRow B e z (.slice (some ⟨g, 0, none⟩) n c) n (xs.set k v) := by
 rcases h with ⟨hl, ⟨h1, _⟩ | ⟨q, cap, cur, h1, h2, h3, h4, h5, h6, h7⟩⟩
 . cases h1
 . cases h1
   refine ⟨by rw [List.length_set]; exact hl, .inr ⟨_, _, cur.setIfInBounds k v, rfl, h2, set_blk h3 k v, h4, h5, by rw [Array.size_setIfInBounds]; exact h6, ?_⟩⟩
   rw [Array.toList_setIfInBounds, List.take_set, h7]
def iv (x : Int) : Value := .int .i64 x
structure Irow (w : World) (lo : Nat) (a : Option Addr) (n : Nat) (l : List Int) : Prop where
 len : n = l.length
 sz : n <= 17592186043904
 row : n = 0 ∨ ∃ b off, a = some ⟨b, off, none⟩ /\ lo <= b /\ b < w.heap.size /\ ∀ i, i < n -> w.cell? ⟨b, off + i, none⟩ = some (.int .i64 (l.getD i 0))
theorem Irow.keep {w w' : World} {lo : Nat} {a : Option Addr} {n : Nat} {l : List Int} (h : Irow w lo a n l) (hs : w.heap.size <= w'.heap.size) (hb : ∀ q, lo <= q -> q < w.heap.size -> w'.heap[q]? = w.heap[q]?) : Irow w' lo a n l := by
 refine ⟨h.len, h.sz, h.row.imp id ?_⟩
 rintro ⟨b, off, h1, h2, h3, h4⟩
 exact ⟨b, off, h1, h2, Nat.lt_of_lt_of_le h3 hs, fun i hi => (World.cell?_of_block (a := ⟨b, off + i, none⟩) (hb b h2 h3)).trans (h4 i hi)⟩
theorem Irow.below {w w' : World} {lo : Nat} {a : Option Addr} {n : Nat} {l : List Int} (h : Irow w lo a n l) (hb : Below w.heap.size w w') : Irow w' lo a n l := h.keep hb.size fun q _ hq => hb.block q hq
theorem Irow.at_ {w : World} {lo : Nat} {a : Option Addr} {n : Nat} {l : List Int} (h : Irow w lo a n l) {i : Nat} (hi : i < n) : ∃ b off, a = some ⟨b, off, none⟩ /\ w.cell? ⟨b, off + i, none⟩ = some (.int .i64 (l.getD i 0)) := by
 rcases h.row with h0 | ⟨b, off, h1, _, _, h4⟩
 . omega
 . exact ⟨b, off, h1, h4 i hi⟩
structure Cm where
 k : Int
 i0 : Int
 i1 : Int
 i2 : Int
 bu : ByteArray
 ke : ByteArray
 u0 : Int
 u1 : Int
 u2 : Int
 b0 : Int
 b1 : Int
 b2 : Int
 sz : Int
 et : ByteArray
 pt : Int
 ps : List Int
 tm : Int
 dy : Int
theorem Cm.eq_iff (x y : Cm) : (x.k = y.k /\ x.i0 = y.i0 /\ x.i1 = y.i1 /\ x.i2 = y.i2 /\ x.bu = y.bu /\ x.ke = y.ke /\ x.u0 = y.u0 /\ x.u1 = y.u1 /\ x.u2 = y.u2 /\ x.b0 = y.b0 /\ x.b1 = y.b1 /\ x.b2 = y.b2 /\ x.sz = y.sz /\ x.et = y.et /\ x.pt = y.pt /\ x.ps = y.ps /\ x.tm = y.tm /\ x.dy = y.dy) ↔ x = y := by
 cases x; cases y; simp
instance : DecidableEq Cm := fun x y => decidable_of_iff _ (Cm.eq_iff x y)
structure Cx where
 cm : Cm
 pa : Option Addr
 pn : Nat
 pc : Nat
def encX (x : Cx) : List Value := [.int .i64 x.cm.k,.int .i64 x.cm.i0,.int .i64 x.cm.i1,.int .i64 x.cm.i2,.string x.cm.bu,.string x.cm.ke,.int .i64 x.cm.u0,.int .i64 x.cm.u1,.int .i64 x.cm.u2,.int .i64 x.cm.b0,.int .i64 x.cm.b1,.int .i64 x.cm.b2,.int .i64 x.cm.sz,.string x.cm.et,.int .i64 x.cm.pt,.slice x.pa x.pn x.pc,.int .i64 x.cm.tm,.int .i64 x.cm.dy]
theorem encX_len (x : Cx) : (encX x).length = 18 := rfl
theorem encX_one (x : Cx) : ∀ v ∈ encX x, v.oneCell' = true := fun v hv => by
 simp only [encX, List.mem_cons, List.not_mem_nil, or_false] at hv
 rcases hv with rfl | rfl | rfl | rfl | rfl | rfl | rfl | rfl | rfl | rfl | rfl | rfl | rfl | rfl | rfl | rfl | rfl | rfl <;> rfl
theorem partI (xs : Array Value) (i : Nat) (x : Int) (h : xs[i]? = some (.int .i64 x)) (w : World) : (part 3 xs i).run Tryz.prog w = .ok (.int .i64 x) w := by simp [part, go_sem, h]
theorem partS (xs : Array Value) (i : Nat) (x : ByteArray) (h : xs[i]? = some (.string x)) (w : World) : (part 9 xs i).run Tryz.prog w = .ok (.string x) w := by simp [part, go_sem, h]
theorem eqI (d : Nat) (x y : Int) (w : World) : (Op.equalIn (d + 1) 3 (.int .i64 x) (.int .i64 y)).run Tryz.prog w = .ok (decide (x = y)) w := by
 rw [run_equalIn_int w d 3 .i64 .i64 x y Tryz.underlying3]
 by_cases h : x = y <;> simp [h]
theorem eqS (d : Nat) (x y : ByteArray) (w : World) : (Op.equalIn (d + 1) 9 (.string x) (.string y)).run Tryz.prog w = .ok (decide (x = y)) w := by
 rw [run_equalIn_string w d 9 x y Tryz.underlying9]
 have e : (x.toList == y.toList) = decide (x = y) := by
  rw [ByteArray.toList_eq, ByteArray.toList_eq]
  by_cases h : x = y
  . subst h; simp
  . have h2 : ¬ (x.data.toList = y.data.toList) := fun e => h (ByteArray.ext (Array.toList_inj.1 e))
    rw [decide_eq_false h]
    simpa using h2
 rw [e]
theorem fstep {d : Nat} {xs ys : Array Value} {f : Field} {fs : List Field} {a b : Value} {r s : Bool} {w : World} (hn : f.name ≠ "_") (ha : (part f.type xs f.offset).run Tryz.prog w = .ok a w) (hb : (part f.type ys f.offset).run Tryz.prog w = .ok b w) (he : (Op.equalIn d f.type a b).run Tryz.prog w = .ok r w) (hs : (Op.eqFields d xs ys fs).run Tryz.prog w = .ok s w) :
  (Op.eqFields d xs ys (f :: fs)).run Tryz.prog w = .ok (r && s) w := by
 simp only [Op.eqFields, if_pos hn, Sem.run_bind, ha, hb, he, Result.andThen_ok]
 cases r
 . simp
 . simpa using hs
theorem fend (d : Nat) (xs ys : Array Value) (w : World) : (Op.eqFields d xs ys []).run Tryz.prog w = .ok true w := by simp [Op.eqFields]
abbrev bal (r n : Int) : Value := .agg #[.int .i64 r,.int .i64 n]
abbrev idv (a b c : Int) : Value := .agg #[.int .i64 a,.int .i64 b,.int .i64 c]
theorem eqId (a b c a' b' c' : Int) (k : Nat) (w : World) : (Op.equalIn (k + 2) 24 (idv a b c) (idv a' b' c')).run Tryz.prog w = .ok (decide (a = a' /\ b = b' /\ c = c')) w := by
 rw [run_equalIn_struct w (k + 1) 24 _ _ (by kernel_rfl) (by kernel_rfl)]
 simp only [Program.fieldsOf, Tryz.underlying24]
 rw [fstep (by decide) (partI _ _ a rfl w) (partI _ _ a' rfl w) (eqI _ a a' w) (fstep (by decide) (partI _ _ b rfl w) (partI _ _ b' rfl w) (eqI _ b b' w) (fstep (by decide) (partI _ _ c rfl w) (partI _ _ c' rfl w) (eqI _ c c' w) (fend _ _ _ w)))]
 congr 1
 simp
theorem partId (xs : Array Value) (a b c : Int) (h0 : xs[0]? = some (.int .i64 a)) (h1 : xs[1]? = some (.int .i64 b)) (h2 : xs[2]? = some (.int .i64 c)) (w : World) : (part 24 xs 0).run Tryz.prog w = .ok (idv a b c) w := by
 obtain ⟨l⟩ := xs
 match l, h0, h1, h2 with
 | x :: y :: z :: r, h0, h1, h2 =>
   simp at h0 h1 h2
   subst h0 h1 h2
   simp [part, go_sem]
theorem eqPc (a b c s : Int) (t : ByteArray) (a' b' c' s' : Int) (t' : ByteArray) (w : World) : (Op.equalIn 10000 26 (.agg #[.int .i64 a,.int .i64 b,.int .i64 c,.int .i64 s,.string t]) (.agg #[.int .i64 a',.int .i64 b',.int .i64 c',.int .i64 s',.string t'])).run Tryz.prog w = .ok (decide ((a = a' /\ b = b' /\ c = c') /\ s = s' /\ t = t')) w := by
 rw [run_equalIn_struct w 9999 26 _ _ (by kernel_rfl) (by kernel_rfl)]
 simp only [Program.fieldsOf, Tryz.underlying26]
 rw [fstep (by decide) (partId _ a b c rfl rfl rfl w) (partId _ a' b' c' rfl rfl rfl w) (eqId a b c a' b' c' 9997 w) (fstep (by decide) (partI _ _ s rfl w) (partI _ _ s' rfl w) (eqI _ s s' w) (fstep (by decide) (partS _ _ t rfl w) (partS _ _ t' rfl w) (eqS _ t t' w) (fend _ _ _ w)))]
 congr 1
 simp
structure Pcd where
 b0 : Int
 b1 : Int
 b2 : Int
 sz : Int
 et : ByteArray
structure Ptd where
 no : Int
 pc : Pcd
structure Obd where
 key : ByteArray
 size : Int
 etag : ByteArray
 time : Int
 pcs : List Pcd
structure Uld where
 i0 : Int
 i1 : Int
 i2 : Int
 key : ByteArray
 pts : List Ptd
structure Bkd where
 name : ByteArray
 time : Int
 days : Int
 obs : List Obd
 uls : List Uld
structure Idd where
 i0 : Int
 i1 : Int
 i2 : Int
structure Ctd where
 bks : List Bkd
 fls : List Idd
def bsr (p : Nat -> Bool) : Nat -> Nat -> Nat -> Nat
 | 0, lo, _ => lo
 | k + 1, lo, hi => if lo < hi then (if p ((lo + hi) / 2) then bsr p k ((lo + hi) / 2 + 1) hi else bsr p k lo ((lo + hi) / 2)) else lo
theorem bsr_done (p : Nat -> Bool) (k lo hi : Nat) (h : ¬ lo < hi) : bsr p k lo hi = lo := by
 cases k with
 | zero => rfl
 | succ k => simp [bsr, h]
theorem bsr_le (p : Nat -> Bool) : ∀ k lo hi, lo <= hi -> bsr p k lo hi <= hi := by
 intro k
 induction k with
 | zero => intro lo hi h; exact h
 | succ k ih =>
   intro lo hi h
   unfold bsr
   by_cases h1 : lo < hi
   . rw [if_pos h1]
     by_cases h2 : p ((lo + hi) / 2) = true
     . rw [if_pos h2]; exact ih _ _ (by omega)
     . rw [if_neg h2]; exact Nat.le_trans (ih _ _ (by omega)) (by omega)
   . rw [if_neg h1]; exact h
theorem bsr_more (p : Nat -> Bool) : ∀ k lo hi, hi - lo <= k -> bsr p (k + 1) lo hi = bsr p k lo hi := by
 intro k
 induction k with
 | zero => intro lo hi h; rw [bsr_done _ _ _ _ (by omega), bsr_done _ _ _ _ (by omega)]
 | succ k ih =>
   intro lo hi h
   by_cases h1 : lo < hi
   . conv => lhs; unfold bsr
     conv => rhs; unfold bsr
     rw [if_pos h1, if_pos h1]
     by_cases h2 : p ((lo + hi) / 2) = true
     . rw [if_pos h2, if_pos h2]; exact ih _ _ (by omega)
     . rw [if_neg h2, if_neg h2]; exact ih _ _ (by omega)
   . rw [bsr_done _ _ _ _ h1, bsr_done _ _ _ _ h1]
theorem bsr_step (p : Nat -> Bool) {k lo hi : Nat} (h : hi - lo <= k) (h1 : lo < hi) : bsr p k lo hi = if p ((lo + hi) / 2) then bsr p k ((lo + hi) / 2 + 1) hi else bsr p k lo ((lo + hi) / 2) := by
 cases k with
 | zero => omega
 | succ k =>
   conv => lhs; unfold bsr
   rw [if_pos h1]
   by_cases h2 : p ((lo + hi) / 2) = true
   . rw [if_pos h2, if_pos h2, bsr_more _ _ _ _ (by omega)]
   . rw [if_neg h2, if_neg h2, bsr_more _ _ _ _ (by omega)]
def plcB {α : Type} (c : α -> Int) (l : List α) : Nat := bsr (fun h => (l[h]?).any (fun x => decide (c x < 0))) l.length 0 l.length
def isB {α : Type} (c : α -> Int) (l : List α) : Bool := (l[plcB c l]?).any (fun x => decide (c x = 0))
theorem plcB_le {α : Type} (c : α -> Int) (l : List α) : plcB c l <= l.length := bsr_le _ _ _ _ (Nat.zero_le _)
theorem isB_lt {α : Type} {c : α -> Int} {l : List α} (h : isB c l = true) : plcB c l < l.length := by
 unfold isB at h
 by_cases h1 : plcB c l < l.length
 . exact h1
 . rw [List.getElem?_eq_none (by omega)] at h; cases h
def setB {α : Type} (c : α -> Int) (l : List α) (x : α) : List α := if isB c l then l.set (plcB c l) x else l.take (plcB c l) ++ x :: l.drop (plcB c l)
def outB {α : Type} (c : α -> Int) (l : List α) : List α := if isB c l then l.eraseIdx (plcB c l) else l
def cmI (a b : Int) : Int := if a < b then -1 else if b < a then 1 else 0
def cmS (a b : ByteArray) : Int := Lib.compareBytes a.data.toList b.data.toList
def cmD (a0 a1 a2 b0 b1 b2 : Int) : Int := if cmI a0 b0 ≠ 0 then cmI a0 b0 else if cmI a1 b1 ≠ 0 then cmI a1 b1 else cmI a2 b2
def byN (s : ByteArray) (b : Bkd) : Int := cmS b.name s
def byK (s : ByteArray) (o : Obd) : Int := cmS o.key s
def byU (i j k : Int) (u : Uld) : Int := cmD u.i0 u.i1 u.i2 i j k
def byP (n : Int) (p : Ptd) : Int := cmI p.no n
def byF (n : Int) (f : Idd) : Int := cmI f.i0 n
structure Outc where
 code : Int
 etag : ByteArray
def okO : Outc := ⟨0, ⟨#[]⟩⟩
def noO (k : Int) : Outc := ⟨k, ⟨#[]⟩⟩
def pcO (x : Cm) : Pcd := ⟨x.b0, x.b1, x.b2, x.sz, x.et⟩
def sizO (l : List Pcd) : Int := l.foldl (fun s p => IntKind.i64.wrap (s + p.sz)) 0
def obO (x : Cm) (etag : ByteArray) (l : List Pcd) : Obd := ⟨x.ke, sizO l, etag, x.tm, l⟩
def roomO (b : Bkd) (s : ByteArray) : Bool := isB (byK s) b.obs || decide (b.obs.length < 128)
def putO (b : Bkd) (x : Cm) : Bkd × Outc :=
 if roomO b x.ke then ({ b with obs := setB (byK x.ke) b.obs (obO x x.et [pcO x]) }, ⟨0, x.et⟩) else (b, noO 7)
def delO (b : Bkd) (x : Cm) : Bkd × Outc := ({ b with obs := outB (byK x.ke) b.obs }, okO)
def staO (b : Bkd) (x : Cm) : Bkd × Outc :=
 if 16 <= b.uls.length then (b, noO 7) else ({ b with uls := setB (byU x.i0 x.i1 x.i2) b.uls ⟨x.i0, x.i1, x.i2, x.ke, []⟩ }, okO)
def dayO (b : Bkd) (x : Cm) : Bkd × Outc := ({ b with days := x.dy }, okO)
def upB (b : Bkd) (x : Cm) : Option Uld := (b.uls[plcB (byU x.u0 x.u1 x.u2) b.uls]?).filter (fun u => isB (byU x.u0 x.u1 x.u2) b.uls && decide (u.key = x.ke))
def parO (b : Bkd) (x : Cm) : Bkd × Outc :=
 match upB b x with
 | none => (b, noO 3)
 | some u => ({ b with uls := b.uls.set (plcB (byU x.u0 x.u1 x.u2) b.uls) { u with pts := setB (byP x.pt) u.pts ⟨x.pt, pcO x⟩ } }, ⟨0, x.et⟩)
def aboO (b : Bkd) (x : Cm) : Bkd × Outc :=
 match upB b x with
 | none => (b, noO 3)
 | some _ => ({ b with uls := outB (byU x.u0 x.u1 x.u2) b.uls }, okO)
def pcsO (pts : List Ptd) : List Int -> Option (List Pcd)
 | [] => some []
 | n :: r => if isB (byP n) pts then (pts[plcB (byP n) pts]?).bind (fun p => (pcsO pts r).map (fun q => p.pc :: q)) else none
def comO (sum : List Pcd -> ByteArray) (b : Bkd) (x : Cm) : Bkd × Outc :=
 match upB b x with
 | none => (b, noO 3)
 | some u =>
   match pcsO u.pts x.ps with
   | none => (b, noO 6)
   | some l => if roomO b x.ke then ({ b with uls := outB (byU x.u0 x.u1 x.u2) b.uls, obs := setB (byK x.ke) b.obs (obO x (sum l) l) }, ⟨0, sum l⟩) else (b, noO 7)
def inB (C : Ctd) (x : Cm) (f : Bkd -> Cm -> Bkd × Outc) : Ctd × Outc :=
 if isB (byN x.bu) C.bks then
  match C.bks[plcB (byN x.bu) C.bks]? with
  | none => (C, noO 1)
  | some b => ({ C with bks := C.bks.set (plcB (byN x.bu) C.bks) (f b x).1 }, (f b x).2)
 else (C, noO 1)
def makO (C : Ctd) (x : Cm) : Ctd × Outc :=
 if isB (byN x.bu) C.bks then (C, noO 4) else if 16 <= C.bks.length then (C, noO 7) else ({ C with bks := setB (byN x.bu) C.bks ⟨x.bu, x.tm, 0, [], []⟩ }, okO)
def droO (C : Ctd) (x : Cm) : Ctd × Outc :=
 if isB (byN x.bu) C.bks then
  match C.bks[plcB (byN x.bu) C.bks]? with
  | none => (C, noO 1)
  | some b => if b.obs ≠ [] ∨ b.uls ≠ [] then (C, noO 5) else ({ C with bks := outB (byN x.bu) C.bks }, okO)
 else (C, noO 1)
def expB (b : Bkd) (t : Int) : Bkd := if b.days = 0 then b else { b with obs := b.obs.filter (fun o => !decide (IntKind.i64.wrap (o.time + b.days) <= t)) }
def expO (C : Ctd) (x : Cm) : Ctd × Outc := ({ C with bks := C.bks.map (fun b => expB b x.tm) }, okO)
def fltO (C : Ctd) (x : Cm) : Bool := !isB (byF x.i0) C.fls || (C.fls[plcB (byF x.i0) C.fls]?).any (fun f => decide (cmD f.i0 f.i1 f.i2 x.i0 x.i1 x.i2 < 0))
def flrO (C : Ctd) (x : Cm) : Ctd × Outc := (if fltO C x then { C with fls := setB (byF x.i0) C.fls ⟨x.i0, x.i1, x.i2⟩ } else C, okO)
def app (sum : List Pcd -> ByteArray) (C : Ctd) (x : Cm) : Ctd × Outc :=
 if x.k = 1 then makO C x else if x.k = 2 then droO C x else if x.k = 3 then inB C x putO else if x.k = 4 then inB C x delO else if x.k = 5 then inB C x staO
 else if x.k = 6 then inB C x parO else if x.k = 7 then inB C x (comO sum) else if x.k = 8 then inB C x aboO else if x.k = 9 then inB C x dayO
 else if x.k = 10 then expO C x else if x.k = 11 then flrO C x else (C, noO 8)
end Go.Proofs.YtfabnnbljkkihaaGreatDoor
namespace Go.Proofs.YtfabnnbljkkihaaGreatDoor
set_option linter.unusedVariables false
structure Ord {κ : Type} (cp : κ -> κ -> Int) : Prop where
 eq : ∀ a b, cp a b = 0 ↔ a = b
 sw : ∀ a b, cp a b < 0 ↔ 0 < cp b a
 tr : ∀ a b c, cp a b < 0 -> cp b c < 0 -> cp a c < 0
theorem bsr_spec (p : Nat -> Bool) (k : Nat) (h1 : ∀ i, i < k -> p i = true) (h2 : ∀ i, k <= i -> p i = false) : ∀ m lo hi, hi - lo <= m -> lo <= k -> k <= hi -> bsr p m lo hi = k := by
 intro m
 induction m with
 | zero => intro lo hi h a b; unfold bsr; omega
 | succ m ih =>
   intro lo hi h a b
   unfold bsr
   by_cases hl : lo < hi
   . rw [if_pos hl]
     by_cases hm : (lo + hi) / 2 < k
     . rw [if_pos (h1 _ hm)]; exact ih _ _ (by omega) (by omega) b
     . rw [if_neg (by rw [h2 _ (by omega)]; decide)]; exact ih _ _ (by omega) a (by omega)
   . rw [if_neg hl]; omega
def cntL {α : Type} (c : α -> Int) : List α -> Nat
 | [] => 0
 | x :: l => if c x < 0 then cntL c l + 1 else 0
theorem cntL_le {α : Type} (c : α -> Int) (l : List α) : cntL c l <= l.length := by
 induction l with
 | nil => simp [cntL]
 | cons x l ih => unfold cntL; split <;> simp <;> omega
section
variable {α κ : Type} {cp : κ -> κ -> Int} (O : Ord cp) (key : α -> κ)
include O
def Srt (cp : κ -> κ -> Int) (key : α -> κ) (l : List α) : Prop := l.Pairwise (fun x y => cp (key x) (key y) < 0)
theorem Ord.irr (a : κ) : ¬ cp a a < 0 := fun h => by have := (O.eq a a).2 rfl; omega
theorem srt_cut (m : κ) {l : List α} (h : Srt cp key l) : (∀ i x, i < cntL (fun y => cp (key y) m) l -> l[i]? = some x -> cp (key x) m < 0) /\ (∀ i x, cntL (fun y => cp (key y) m) l <= i -> l[i]? = some x -> ¬ cp (key x) m < 0) := by
 induction l with
 | nil => simp
 | cons a l ih =>
   obtain ⟨ha, hl⟩ := List.pairwise_cons.1 h
   obtain ⟨i1, i2⟩ := ih hl
   unfold cntL
   by_cases hc : cp (key a) m < 0
   . rw [if_pos hc]
     refine ⟨fun i x hi hx => ?_, fun i x hi hx => ?_⟩
     . cases i with
       | zero => simp at hx; subst hx; exact hc
       | succ i => exact i1 i x (by omega) (by simpa using hx)
     . cases i with
       | zero => omega
       | succ i => exact i2 i x (by omega) (by simpa using hx)
   . rw [if_neg hc]
     refine ⟨fun i x hi hx => by omega, fun i x hi hx hlt => ?_⟩
     cases i with
     | zero => simp at hx; subst hx; exact hc hlt
     | succ i => exact hc (O.tr _ _ _ (ha x (List.mem_of_getElem? (by simpa using hx : l[i]? = some x))) hlt)
theorem srt_plc (m : κ) {l : List α} (h : Srt cp key l) : plcB (fun y => cp (key y) m) l = cntL (fun y => cp (key y) m) l := by
 obtain ⟨h1, h2⟩ := srt_cut O key m h
 have hle := cntL_le (fun y => cp (key y) m) l
 refine bsr_spec _ _ (fun i hi => ?_) (fun i hi => ?_) _ _ _ (by omega) (Nat.zero_le _) hle
 . have hx := List.getElem?_eq_getElem (l := l) (i := i) (by omega)
   rw [hx]
   simpa using h1 i _ hi hx
 . by_cases hl : i < l.length
   . have hx := List.getElem?_eq_getElem hl
     rw [hx]
     have := h2 i _ hi hx
     simpa using this
   . rw [List.getElem?_eq_none (by omega)]; rfl
theorem srt_is (m : κ) {l : List α} (h : Srt cp key l) : isB (fun y => cp (key y) m) l = true ↔ ∃ x ∈ l, key x = m := by
 have hp := srt_plc O key m h
 obtain ⟨h1, h2⟩ := srt_cut O key m h
 unfold isB
 rw [hp]
 constructor
 . intro hi
   cases hx : l[cntL (fun y => cp (key y) m) l]? with
   | none => rw [hx] at hi; cases hi
   | some x => rw [hx] at hi; exact ⟨x, List.mem_of_getElem? hx, (O.eq _ _).1 (by simpa using hi)⟩
 . rintro ⟨x, hx, rfl⟩
   obtain ⟨i, hi, rfl⟩ := List.getElem_of_mem hx
   have hge : cntL (fun y => cp (key y) (key l[i])) l <= i := by
    apply Nat.le_of_not_lt
    intro hlt
    exact O.irr _ (h1 i _ hlt (List.getElem?_eq_getElem hi))
   have heq : cntL (fun y => cp (key y) (key l[i])) l = i := by
    apply Nat.le_antisymm hge
    apply Nat.le_of_not_lt
    intro hlt
    have hc := h2 _ _ (Nat.le_refl _) (List.getElem?_eq_getElem (l := l) (i := cntL (fun y => cp (key y) (key l[i])) l) (by omega))
    exact hc (List.pairwise_iff_getElem.1 h _ _ (by omega) hi hlt)
   rw [heq, List.getElem?_eq_getElem hi]
   simp [(O.eq _ _).2 rfl]
theorem srt_at {l : List α} (h : Srt cp key l) {x : α} (hx : x ∈ l) : l[plcB (fun y => cp (key y) (key x)) l]? = some x /\ isB (fun y => cp (key y) (key x)) l = true := by
 have hi := (srt_is O key (key x) h).2 ⟨x, hx, rfl⟩
 refine ⟨?_, hi⟩
 have h2 := hi
 unfold isB at h2
 cases hy : l[plcB (fun y => cp (key y) (key x)) l]? with
 | none => rw [hy] at h2; cases h2
 | some y =>
   rw [hy] at h2
   have e : key y = key x := (O.eq _ _).1 (by simpa using h2)
   obtain ⟨i, hi1, rfl⟩ := List.getElem_of_mem hx
   obtain ⟨hj, rfl⟩ := List.getElem?_eq_some_iff.1 hy
   rcases Nat.lt_trichotomy i (plcB (fun y => cp (key y) (key l[i])) l) with hlt | he | hlt
   . have := List.pairwise_iff_getElem.1 h _ _ hi1 hj hlt
     rw [e] at this; exact absurd this (O.irr _)
   . congr 1; congr 1; exact he.symm
   . have := List.pairwise_iff_getElem.1 h _ _ hj hi1 hlt
     rw [e] at this; exact absurd this (O.irr _)
theorem srt_key {l : List α} (h : Srt cp key l) {x y : α} (hx : x ∈ l) (hy : y ∈ l) (e : key x = key y) : x = y := by
 have h1 := (srt_at O key h hx).1
 have h2 := (srt_at O key h hy).1
 rw [e, h2] at h1
 cases h1; rfl
theorem srt_set {l : List α} (h : Srt cp key l) (x : α) : Srt cp key (setB (fun y => cp (key y) (key x)) l x) /\ ∀ y, y ∈ setB (fun y => cp (key y) (key x)) l x ↔ y = x ∨ (y ∈ l /\ key y ≠ key x) := by
 have hp := srt_plc O key (key x) h
 obtain ⟨h1, h2⟩ := srt_cut O key (key x) h
 have hle := cntL_le (fun y => cp (key y) (key x)) l
 unfold setB
 by_cases hi : isB (fun y => cp (key y) (key x)) l = true
 . rw [if_pos hi]
   obtain ⟨z, hz, hk⟩ := (srt_is O key (key x) h).1 hi
   have hat := (srt_at O key h hz).1
   rw [hk] at hat
   obtain ⟨hj, ej⟩ := List.getElem?_eq_some_iff.1 hat
   constructor
   . refine List.pairwise_iff_getElem.2 (fun i j hi1 hj1 hij => ?_)
     rw [List.length_set] at hi1 hj1
     have hq := List.pairwise_iff_getElem.1 h i j hi1 hj1 hij
     rw [List.getElem_set, List.getElem_set]
     split
     . rename_i e1
       rw [if_neg (by omega)]
       have e3 : l[i] = z := by rw [<- ej]; congr 1; exact e1.symm
       rw [e3, hk] at hq; exact hq
     . split
       . rename_i e1
         have e3 : l[j] = z := by rw [<- ej]; congr 1; exact e1.symm
         rw [e3, hk] at hq; exact hq
       . exact hq
   . intro y
     constructor
     . intro hy
       rcases List.mem_or_eq_of_mem_set hy with hm | rfl
       . by_cases hk2 : key y = key x
         . left
           obtain ⟨i, hi2, e2⟩ := List.getElem_of_mem hy
           rw [List.length_set] at hi2
           rw [List.getElem_set] at e2
           split at e2
           . exact e2.symm
           . rename_i hne
             have hyz : y = z := srt_key O key h hm hz (hk2.trans hk.symm)
             have : l[i] = l[plcB (fun y => cp (key y) (key x)) l] := by rw [e2, ej, hyz]
             rcases Nat.lt_or_gt_of_ne hne with hlt | hlt
             . have hq := List.pairwise_iff_getElem.1 h _ _ hj hi2 hlt
               rw [this] at hq; exact absurd hq (O.irr _)
             . have hq := List.pairwise_iff_getElem.1 h _ _ hi2 hj hlt
               rw [this] at hq; exact absurd hq (O.irr _)
         . exact .inr ⟨hm, hk2⟩
       . exact .inl rfl
     . rintro (rfl | ⟨hm, hne⟩)
       . exact List.mem_set hj y
       . obtain ⟨i, hi2, rfl⟩ := List.getElem_of_mem hm
         have hni : plcB (fun y => cp (key y) (key x)) l ≠ i := fun e => by
          have e2 : l[i] = z := by rw [<- ej]; congr 1; exact e.symm
          exact hne (by rw [e2, hk])
         exact List.mem_iff_getElem.2 ⟨i, by rw [List.length_set]; exact hi2, by rw [List.getElem_set_ne hni]⟩
 . rw [if_neg hi, hp]
   have hno : ∀ y ∈ l, key y ≠ key x := fun y hy e => hi ((srt_is O key (key x) h).2 ⟨y, hy, e⟩)
   have ht : ∀ y ∈ l.take (cntL (fun y => cp (key y) (key x)) l), cp (key y) (key x) < 0 := fun y hy => by
    obtain ⟨i, hi2, rfl⟩ := List.getElem_of_mem hy
    rw [List.length_take] at hi2
    rw [List.getElem_take]
    exact h1 i _ (by omega) (List.getElem?_eq_getElem (by omega))
   have hd : ∀ y ∈ l.drop (cntL (fun y => cp (key y) (key x)) l), cp (key x) (key y) < 0 := fun y hy => by
    have hyl := List.mem_of_mem_drop hy
    obtain ⟨i, hi2, rfl⟩ := List.getElem_of_mem hy
    rw [List.length_drop] at hi2
    rw [List.getElem_drop] at hyl ⊢
    have h3 := h2 (cntL (fun y => cp (key y) (key x)) l + i) _ (by omega) (List.getElem?_eq_getElem (by omega))
    have h4 : ¬ cp (key l[cntL (fun y => cp (key y) (key x)) l + i]) (key x) = 0 := fun e => hno _ hyl ((O.eq _ _).1 e)
    rw [O.sw]; omega
   constructor
   . refine List.pairwise_append.2 ⟨List.Pairwise.sublist (List.take_sublist _ _) h, List.pairwise_cons.2 ⟨hd, List.Pairwise.sublist (List.drop_sublist _ _) h⟩, fun a ha b hb => ?_⟩
     rcases List.mem_cons.1 hb with rfl | hb
     . exact ht a ha
     . exact O.tr _ _ _ (ht a ha) (hd b hb)
   . intro y
     rw [List.mem_append, List.mem_cons]
     constructor
     . rintro (hy | rfl | hy)
       . exact .inr ⟨List.mem_of_mem_take hy, hno y (List.mem_of_mem_take hy)⟩
       . exact .inl rfl
       . exact .inr ⟨List.mem_of_mem_drop hy, hno y (List.mem_of_mem_drop hy)⟩
     . rintro (rfl | ⟨hy, _⟩)
       . exact .inr (.inl rfl)
       . rw [<- List.take_append_drop (cntL (fun y => cp (key y) (key x)) l) l, List.mem_append] at hy
         rcases hy with hy | hy
         . exact .inl hy
         . exact .inr (.inr hy)
theorem srt_out {l : List α} (h : Srt cp key l) (m : κ) : Srt cp key (outB (fun y => cp (key y) m) l) /\ ∀ y, y ∈ outB (fun y => cp (key y) m) l ↔ y ∈ l /\ key y ≠ m := by
 unfold outB
 by_cases hi : isB (fun y => cp (key y) m) l = true
 . rw [if_pos hi]
   obtain ⟨z, hz, rfl⟩ := (srt_is O key m h).1 hi
   have hat := (srt_at O key h hz).1
   obtain ⟨hj, ej⟩ := List.getElem?_eq_some_iff.1 hat
   refine ⟨List.Pairwise.sublist (List.eraseIdx_sublist _ _) h, fun y => ?_⟩
   rw [List.mem_eraseIdx_iff_getElem]
   constructor
   . rintro ⟨i, hi2, hne, rfl⟩
     refine ⟨List.getElem_mem _, fun e => ?_⟩
     have := srt_key O key h (List.getElem_mem hi2) hz e
     rcases Nat.lt_or_gt_of_ne hne with hlt | hlt
     . have hq := List.pairwise_iff_getElem.1 h _ _ hi2 hj hlt
       rw [ej, this] at hq; exact absurd hq (O.irr _)
     . have hq := List.pairwise_iff_getElem.1 h _ _ hj hi2 hlt
       rw [ej, this] at hq; exact absurd hq (O.irr _)
   . rintro ⟨hy, hne⟩
     obtain ⟨i, hi2, rfl⟩ := List.getElem_of_mem hy
     refine ⟨i, hi2, fun e => ?_, rfl⟩
     have e2 : l[i] = z := by rw [<- ej]; congr 1
     exact hne (by rw [e2])
 . rw [if_neg hi]
   exact ⟨h, fun y => ⟨fun hy => ⟨hy, fun e => hi ((srt_is O key m h).2 ⟨y, hy, e⟩)⟩, fun hy => hy.1⟩⟩
end
theorem setB_len {α : Type} (c : α -> Int) (l : List α) (x : α) : (setB c l x).length = if isB c l then l.length else l.length + 1 := by
 unfold setB
 have := plcB_le c l
 split
 . rw [List.length_set]
 . rw [List.length_append, List.length_cons, List.length_take, List.length_drop]; omega
theorem outB_len {α : Type} (c : α -> Int) (l : List α) : (outB c l).length <= l.length := by
 unfold outB
 split
 . exact List.length_eraseIdx_le _ _
 . exact Nat.le_refl _
theorem ordI : Ord cmI := by
 constructor
 . intro a b; unfold cmI; split
   . constructor <;> intro h <;> omega
   . split <;> constructor <;> intro h <;> omega
 . intro a b; unfold cmI; split <;> split <;> first | omega | (split <;> omega)
 . intro a b c; unfold cmI; split <;> split <;> intro h1 h2 <;> first | (split <;> omega) | (split at h1 <;> omega) | (split at h2 <;> omega)
theorem cmpB_eq : ∀ a b : List UInt8, Lib.compareBytes a b = 0 ↔ a = b
 | [], [] => by simp [Lib.compareBytes]
 | [], _ :: _ => by simp [Lib.compareBytes]
 | _ :: _, [] => by simp [Lib.compareBytes]
 | a :: as1, b :: bs1 => by
   unfold Lib.compareBytes
   have ih := cmpB_eq as1 bs1
   by_cases h1 : a < b
   . rw [if_pos h1]; simp; intro e; subst e; exact absurd h1 (UInt8.lt_irrefl _)
   . rw [if_neg h1]
     by_cases h2 : b < a
     . rw [if_pos h2]; simp; intro e; subst e; exact absurd h2 (UInt8.lt_irrefl _)
     . rw [if_neg h2, ih]
       have : a = b := UInt8.le_antisymm (UInt8.not_lt.1 h2) (UInt8.not_lt.1 h1)
       simp [this]
theorem cmpB_sw : ∀ a b : List UInt8, Lib.compareBytes a b < 0 ↔ 0 < Lib.compareBytes b a
 | [], [] => by simp [Lib.compareBytes]
 | [], _ :: _ => by simp [Lib.compareBytes]
 | _ :: _, [] => by simp [Lib.compareBytes]
 | a :: as1, b :: bs1 => by
   unfold Lib.compareBytes
   have ih := cmpB_sw as1 bs1
   by_cases h1 : a < b
   . rw [if_pos h1]
     rw [if_neg (fun h => UInt8.lt_irrefl _ (UInt8.lt_trans h1 h)), if_pos h1]; decide
   . rw [if_neg h1]
     by_cases h2 : b < a
     . rw [if_pos h2, if_pos h2]; decide
     . rw [if_neg h2, if_neg h2, if_neg h1]; exact ih
theorem cmpB_tr : ∀ a b c : List UInt8, Lib.compareBytes a b < 0 -> Lib.compareBytes b c < 0 -> Lib.compareBytes a c < 0
 | [], [], _ => by simp [Lib.compareBytes]
 | [], _ :: _, [] => by simp [Lib.compareBytes]
 | [], _ :: _, _ :: _ => by simp [Lib.compareBytes]
 | _ :: _, [], _ => by simp [Lib.compareBytes]
 | _ :: _, _ :: _, [] => by simp [Lib.compareBytes]
 | a :: as1, b :: bs1, c :: cs1 => by
   have ih := cmpB_tr as1 bs1 cs1
   unfold Lib.compareBytes
   intro h1 h2
   by_cases hab : a < b
   . by_cases hbc : b < c
     . rw [if_pos (UInt8.lt_trans hab hbc)]; decide
     . rw [if_neg hbc] at h2
       by_cases hcb : c < b
       . rw [if_pos hcb] at h2; cases h2
       . have : b = c := UInt8.le_antisymm (UInt8.not_lt.1 hcb) (UInt8.not_lt.1 hbc)
         subst this; rw [if_pos hab]; decide
   . rw [if_neg hab] at h1
     by_cases hba : b < a
     . rw [if_pos hba] at h1; cases h1
     . have : a = b := UInt8.le_antisymm (UInt8.not_lt.1 hba) (UInt8.not_lt.1 hab)
       subst this
       rw [if_neg (UInt8.lt_irrefl _), ] at h1
       by_cases hbc : a < c
       . rw [if_pos hbc]; decide
       . rw [if_neg hbc] at h2 ⊢
         by_cases hcb : c < a
         . rw [if_pos hcb] at h2; cases h2
         . rw [if_neg hcb] at h2 ⊢; exact ih h1 h2
theorem ordS : Ord cmS := by
 refine ⟨fun a b => ?_, fun a b => cmpB_sw _ _, fun a b c => cmpB_tr _ _ _⟩
 unfold cmS
 rw [cmpB_eq]
 constructor
 . intro h
   have h2 : a.data = b.data := by have := congrArg List.toArray h; simpa using this
   exact ByteArray.ext h2
 . rintro rfl; rfl
def cmT (a b : Int × Int × Int) : Int := cmD a.1 a.2.1 a.2.2 b.1 b.2.1 b.2.2
theorem cmI_lt (a b : Int) : cmI a b < 0 ↔ a < b := by unfold cmI; split <;> (try split) <;> omega
theorem cmI_gt (a b : Int) : 0 < cmI a b ↔ b < a := by unfold cmI; split <;> (try split) <;> omega
theorem cmD_lt (a b c d e f : Int) : cmD a b c d e f < 0 ↔ a < d ∨ (a = d /\ (b < e ∨ (b = e /\ c < f))) := by
 have h1 := ordI.eq a d; have h2 := ordI.eq b e
 have l1 := cmI_lt a d; have l2 := cmI_lt b e; have l3 := cmI_lt c f
 unfold cmD
 by_cases k : cmI a d = 0
 . rw [if_neg (fun h => h k)]
   have := h1.1 k
   by_cases k2 : cmI b e = 0
   . rw [if_neg (fun h => h k2)]; have := h2.1 k2; omega
   . rw [if_pos k2]; have := fun e => k2 (h2.2 e); omega
 . rw [if_pos k]; have := fun e => k (h1.2 e); omega
theorem cmD_gt (a b c d e f : Int) : 0 < cmD a b c d e f ↔ d < a ∨ (a = d /\ (e < b ∨ (b = e /\ f < c))) := by
 have h1 := ordI.eq a d; have h2 := ordI.eq b e
 have l1 := cmI_gt a d; have l2 := cmI_gt b e; have l3 := cmI_gt c f
 unfold cmD
 by_cases k : cmI a d = 0
 . rw [if_neg (fun h => h k)]
   have := h1.1 k
   by_cases k2 : cmI b e = 0
   . rw [if_neg (fun h => h k2)]; have := h2.1 k2; omega
   . rw [if_pos k2]; have := fun e => k2 (h2.2 e); omega
 . rw [if_pos k]; have := fun e => k (h1.2 e); omega
theorem ordT : Ord cmT := by
 refine ⟨?_, ?_, ?_⟩
 . rintro ⟨a, b, c⟩ ⟨d, e, f⟩
   have h1 := cmD_lt a b c d e f; have h2 := cmD_gt a b c d e f
   simp only [cmT, Prod.mk.injEq]
   omega
 . rintro ⟨a, b, c⟩ ⟨d, e, f⟩
   have h1 := cmD_lt a b c d e f; have h2 := cmD_gt d e f a b c
   simp only [cmT]
   omega
 . rintro ⟨a, b, c⟩ ⟨d, e, f⟩ ⟨g, h, i⟩
   have h1 := cmD_lt a b c d e f; have h2 := cmD_lt d e f g h i; have h3 := cmD_lt a b c g h i
   simp only [cmT]
   omega
end Go.Proofs.YtfabnnbljkkihaaGreatDoor
namespace Go.Proofs.YtfabnnbljkkihaaGreatDoor
set_option linter.unusedVariables false
set_option linter.unusedSimpArgs false
theorem srt_upd {α κ : Type} {cp : κ -> κ -> Int} (O : Ord cp) (key : α -> κ) {l : List α} (h : Srt cp key l) {m : κ} (hi : isB (fun y => cp (key y) m) l = true) : ∃ b, l[plcB (fun y => cp (key y) m) l]? = some b /\ key b = m /\ b ∈ l /\ ∀ b', key b' = m -> Srt cp key (l.set (plcB (fun y => cp (key y) m) l) b') /\ (∀ y, y ∈ l.set (plcB (fun y => cp (key y) m) l) b' ↔ y = b' ∨ (y ∈ l /\ key y ≠ m)) /\ (l.set (plcB (fun y => cp (key y) m) l) b').length = l.length := by
 obtain ⟨z, hz, rfl⟩ := (srt_is O key m h).1 hi
 refine ⟨z, (srt_at O key h hz).1, rfl, hz, fun b' hb => ?_⟩
 have s := srt_set O key h b'
 rw [hb] at s
 unfold setB at s
 rw [if_pos hi] at s
 exact ⟨s.1, s.2, List.length_set⟩
structure Oko (o : Obd) : Prop where
 ne : o.pcs ≠ []
 sz : o.size = sizO o.pcs
structure Oku (u : Uld) : Prop where
 st : Srt cmI Ptd.no u.pts
 no : ∀ p ∈ u.pts, 1 <= p.no /\ p.no <= 16
def Uld.id3 (u : Uld) : Int × Int × Int := (u.i0, u.i1, u.i2)
structure Okb (b : Bkd) : Prop where
 so : Srt cmS Obd.key b.obs
 lo : b.obs.length <= 128
 ob : ∀ o ∈ b.obs, Oko o
 su : Srt cmT Uld.id3 b.uls
 lu : b.uls.length <= 16
 ul : ∀ u ∈ b.uls, Oku u
structure Okk (C : Ctd) : Prop where
 sb : Srt cmS Bkd.name C.bks
 lb : C.bks.length <= 16
 bk : ∀ b ∈ C.bks, Okb b
 sf : Srt cmI Idd.i0 C.fls
 fl : ∀ f ∈ C.fls, 0 <= f.i0 /\ f.i0 < 16
theorem okk_nil : Okk ⟨[], []⟩ := ⟨.nil, by simp, by simp, .nil, by simp⟩
structure Cmf (x : Cm) : Prop where
 pt : x.k = 6 -> 1 <= x.pt /\ x.pt <= 16
 ps : x.k = 7 -> x.ps ≠ []
 nd : x.k = 11 -> 0 <= x.i0 /\ x.i0 < 16
theorem upB_some {b : Bkd} {x : Cm} {u : Uld} (h : upB b x = some u) : isB (byU x.u0 x.u1 x.u2) b.uls = true /\ b.uls[plcB (byU x.u0 x.u1 x.u2) b.uls]? = some u /\ u.key = x.ke := by
 unfold upB at h
 obtain ⟨h1, h2⟩ := Option.filter_eq_some_iff.1 h
 rw [Bool.and_eq_true] at h2
 exact ⟨h2.1, h1, by simpa using h2.2⟩
theorem pcs_len {pts : List Ptd} : ∀ {ps : List Int} {l : List Pcd}, pcsO pts ps = some l -> l.length = ps.length
 | [], l, h => by cases h; rfl
 | n :: r, l, h => by
   unfold pcsO at h
   split at h
   . obtain ⟨p, _, h2⟩ := Option.bind_eq_some_iff.1 h
     obtain ⟨q, h3, rfl⟩ := Option.map_eq_some_iff.1 h2
     simp [pcs_len h3]
   . cases h
theorem put_ok {b : Bkd} {x : Cm} (h : Okb b) (e : ByteArray) {l : List Pcd} (hl : l ≠ []) (hr : roomO b x.ke = true) : Okb { b with obs := setB (byK x.ke) b.obs (obO x e l) } := by
 have s := srt_set ordS Obd.key h.so (obO x e l)
 refine ⟨s.1, ?_, fun o ho => ?_, h.su, h.lu, h.ul⟩
 . show (setB (byK x.ke) b.obs (obO x e l)).length <= 128
   rw [setB_len]
   unfold roomO at hr
   have := h.lo
   split
   . exact this
   . rename_i hn
     simp only [Bool.or_eq_true, decide_eq_true_eq] at hr
     rcases hr with hr | hr
     . exact absurd hr hn
     . omega
 . rcases (s.2 o).1 ho with rfl | ⟨hm, _⟩
   . exact ⟨hl, rfl⟩
   . exact h.ob o hm
theorem inB_ok {C : Ctd} {x : Cm} {f : Bkd -> Cm -> Bkd × Outc} (h : Okk C) (hf : ∀ b, Okb b -> Okb (f b x).1 /\ (f b x).1.name = b.name) : Okk (inB C x f).1 := by
 unfold inB
 by_cases hi : isB (byN x.bu) C.bks = true
 . rw [if_pos hi]
   obtain ⟨b, hb, hk, hm, hu⟩ := srt_upd ordS Bkd.name h.sb hi
   have hb2 : C.bks[plcB (byN x.bu) C.bks]? = some b := hb
   rw [hb2]
   obtain ⟨h1, h2⟩ := hf b (h.bk b hm)
   obtain ⟨s1, s2, s3⟩ := hu _ (h2.trans hk)
   refine ⟨s1, ?_, fun y hy => ?_, h.sf, h.fl⟩
   . exact Nat.le_trans (Nat.le_of_eq s3) h.lb
   . rcases (s2 y).1 hy with rfl | ⟨hy, _⟩
     . exact h1
     . exact h.bk y hy
 . rw [if_neg hi]; exact h
theorem okk_app (sum : List Pcd -> ByteArray) {C : Ctd} {x : Cm} (h : Okk C) (hx : Cmf x) : Okk (app sum C x).1 := by
 unfold app
 split
 . unfold makO
   split
   . exact h
   . split
     . exact h
     . rename_i hi hl
       have s := srt_set ordS Bkd.name h.sb ⟨x.bu, x.tm, 0, [], []⟩
       refine ⟨s.1, ?_, fun y hy => ?_, h.sf, h.fl⟩
       . show (setB (byN x.bu) C.bks ⟨x.bu, x.tm, 0, [], []⟩).length <= 16
         rw [setB_len, if_neg hi]; omega
       . rcases (s.2 y).1 hy with rfl | ⟨hy, _⟩
         . exact ⟨.nil, by simp, by simp, .nil, by simp, by simp⟩
         . exact h.bk y hy
 . split
   . unfold droO
     split
     . split
       . exact h
       . split
         . exact h
         . have s := srt_out ordS Bkd.name h.sb x.bu
           refine ⟨s.1, Nat.le_trans (outB_len _ _) h.lb, fun y hy => h.bk y ((s.2 y).1 hy).1, h.sf, h.fl⟩
     . exact h
   . split
     . refine inB_ok h (fun b hb => ?_)
       unfold putO
       split
       . rename_i hr
         exact ⟨put_ok hb _ (by simp) hr, rfl⟩
       . exact ⟨hb, rfl⟩
     . split
       . refine inB_ok h (fun b hb => ⟨?_, rfl⟩)
         have s := srt_out ordS Obd.key hb.so x.ke
         exact ⟨s.1, Nat.le_trans (outB_len _ _) hb.lo, fun o ho => hb.ob o ((s.2 o).1 ho).1, hb.su, hb.lu, hb.ul⟩
       . split
         . refine inB_ok h (fun b hb => ?_)
           unfold staO
           split
           . exact ⟨hb, rfl⟩
           . rename_i hl
             have s := srt_set ordT Uld.id3 hb.su ⟨x.i0, x.i1, x.i2, x.ke, []⟩
             refine ⟨⟨hb.so, hb.lo, hb.ob, s.1, ?_, fun u hu => ?_⟩, rfl⟩
             . show (setB (byU x.i0 x.i1 x.i2) b.uls ⟨x.i0, x.i1, x.i2, x.ke, []⟩).length <= 16
               rw [setB_len]; split <;> omega
             . rcases (s.2 u).1 hu with rfl | ⟨hu, _⟩
               . exact ⟨.nil, by simp⟩
               . exact hb.ul u hu
         . split
           . rename_i hk
             refine inB_ok h (fun b hb => ?_)
             unfold parO
             split
             . exact ⟨hb, rfl⟩
             . rename_i u hu
               obtain ⟨hi, ha, hke⟩ := upB_some hu
               obtain ⟨v, hv, hkv, hm, hs⟩ := srt_upd ordT Uld.id3 (m := (x.u0, x.u1, x.u2)) hb.su hi
               have e : v = u := Option.some.inj (hv.symm.trans ha)
               subst e
               obtain ⟨s1, s2, s3⟩ := hs { v with pts := setB (byP x.pt) v.pts ⟨x.pt, pcO x⟩ } hkv
               refine ⟨⟨hb.so, hb.lo, hb.ob, s1, Nat.le_trans (Nat.le_of_eq s3) hb.lu, fun y hy => ?_⟩, rfl⟩
               rcases (s2 y).1 hy with rfl | ⟨hy, _⟩
               . have t := srt_set ordI Ptd.no (hb.ul v hm).st ⟨x.pt, pcO x⟩
                 refine ⟨t.1, fun p hp => ?_⟩
                 rcases (t.2 p).1 hp with rfl | ⟨hp, _⟩
                 . exact hx.pt hk
                 . exact (hb.ul v hm).no p hp
               . exact hb.ul y hy
           . split
             . rename_i hk
               refine inB_ok h (fun b hb => ?_)
               unfold comO
               split
               . exact ⟨hb, rfl⟩
               . rename_i u hu
                 split
                 . exact ⟨hb, rfl⟩
                 . rename_i l hl
                   split
                   . rename_i hr
                     have hne : l ≠ [] := fun e => by
                      have := pcs_len hl
                      rw [e] at this
                      exact hx.ps hk (List.length_eq_zero_iff.1 this.symm)
                     have p := put_ok hb (sum l) hne hr
                     have s := srt_out ordT Uld.id3 hb.su (x.u0, x.u1, x.u2)
                     exact ⟨⟨p.so, p.lo, p.ob, s.1, Nat.le_trans (outB_len _ _) hb.lu, fun y hy => hb.ul y ((s.2 y).1 hy).1⟩, rfl⟩
                   . exact ⟨hb, rfl⟩
             . split
               . refine inB_ok h (fun b hb => ?_)
                 unfold aboO
                 split
                 . exact ⟨hb, rfl⟩
                 . have s := srt_out ordT Uld.id3 hb.su (x.u0, x.u1, x.u2)
                   exact ⟨⟨hb.so, hb.lo, hb.ob, s.1, Nat.le_trans (outB_len _ _) hb.lu, fun y hy => hb.ul y ((s.2 y).1 hy).1⟩, rfl⟩
               . split
                 . exact inB_ok h (fun b hb => ⟨⟨hb.so, hb.lo, hb.ob, hb.su, hb.lu, hb.ul⟩, rfl⟩)
                 . split
                   . have ex : ∀ b, (expB b x.tm).name = b.name := fun b => by unfold expB; split <;> rfl
                     refine ⟨?_, ?_, fun y hy => ?_, h.sf, h.fl⟩
                     . show Srt cmS Bkd.name (C.bks.map _)
                       refine List.pairwise_map.2 (List.Pairwise.imp ?_ h.sb)
                       intro a b hab
                       rw [ex, ex]; exact hab
                     . show (C.bks.map _).length <= 16
                       rw [List.length_map]; exact h.lb
                     . obtain ⟨b, hb, rfl⟩ := List.mem_map.1 hy
                       have ob := h.bk b hb
                       unfold expB
                       split
                       . exact ob
                       . exact ⟨List.Pairwise.sublist List.filter_sublist ob.so, Nat.le_trans (List.length_filter_le _ _) ob.lo, fun o ho => ob.ob o (List.mem_filter.1 ho).1, ob.su, ob.lu, ob.ul⟩
                   . split
                     . rename_i hk
                       unfold flrO
                       split
                       . have s := srt_set ordI Idd.i0 h.sf ⟨x.i0, x.i1, x.i2⟩
                         refine ⟨h.sb, h.lb, h.bk, s.1, fun f hf => ?_⟩
                         rcases (s.2 f).1 hf with rfl | ⟨hf, _⟩
                         . exact hx.nd hk
                         . exact h.fl f hf
                       . exact h
                     . exact h
end Go.Proofs.YtfabnnbljkkihaaGreatDoor
