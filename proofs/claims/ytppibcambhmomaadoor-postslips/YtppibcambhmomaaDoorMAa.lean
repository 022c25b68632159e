/- Ground: frames by sets of blocks, rows of the call's own, rows of ints. -/
import Derived.Test.YtppibcambhmomaaDoorMh
import Derived.Test.YtppibcambhmomaaDoorMVa
import Derived.Test.YtppibcambhmomaaDoorRows
import Derived.WalkKit
import Derived.ProofKit
import Derived.OpenShut
import Derived.Outline
import Derived.Handy
import Derived.Deep.QuietTactic
import Derived.BigQuiet
import Derived.WalkSmall
import Derived.Laws.Tables
import Derived.Laws.CopyOwn
import Derived.Laws.OwnMore
import Derived.Deep.MidRow
import Derived.Deep.WholeRow
import Derived.StillTailTactics
import Derived.WalkLawsBesides
import Derived.SizedLaws
import Derived.ChangeOld
import Derived.Below
import Derived.Lib.SmallJoins
namespace Go.Proofs.YtppibcambhmomaaDoor
open Go.ChangeShapes Go.WideShapes Go.ChangeAt Go.RowKit
set_option maxRecDepth 20000
set_option linter.unusedVariables false
set_option linter.unusedSimpArgs false
theorem retB {b c : Bool} (h : b = c) : Ending.returned (.bool c) = .returned (.bool b) := by rw [h]
/- all but the blocks of S, and what is new, is as it was -/
structure Ch (w w' : World) (S : Nat → Prop) : Prop where
  os : w'.os = w.os
  tape : w'.tape = w.tape
  output : w'.output = w.output
  size : w.heap.size ≤ w'.heap.size
  block : ∀ k, k < w.heap.size → ¬ S k → w'.heap[k]? = w.heap[k]?
theorem Ch.below {w w' : World} {S : Nat → Prop} (h : Below w.heap.size w w') : Ch w w' S := ⟨h.os, h.tape, h.output, h.size, fun k hk _ => h.block k hk⟩
theorem Ch.refl (w : World) (S : Nat → Prop) : Ch w w S := ⟨rfl, rfl, rfl, Nat.le_refl _, fun _ _ _ => rfl⟩
theorem Ch.trans {a b c : World} {S : Nat → Prop} (h : Ch a b S) (k : Ch b c S) : Ch a c S :=
  ⟨k.os.trans h.os, k.tape.trans h.tape, k.output.trans h.output, Nat.le_trans h.size k.size, fun i hi hn => (k.block i (Nat.lt_of_lt_of_le hi h.size) hn).trans (h.block i hi hn)⟩
theorem Ch.weak {a b : World} {S T : Nat → Prop} (h : Ch a b S) (hs : ∀ q, q < a.heap.size → S q → T q) : Ch a b T :=
  ⟨h.os, h.tape, h.output, h.size, fun i hi hn => h.block i hi (fun hs' => hn (hs i hi hs'))⟩
/- the second change may touch what is new -/
theorem Ch.then {a b c : World} {S T U : Nat → Prop} (h : Ch a b S) (k : Ch b c T) (hs : ∀ q, q < a.heap.size → S q → U q) (ht : ∀ q, q < a.heap.size → T q → U q) : Ch a c U :=
  ⟨k.os.trans h.os, k.tape.trans h.tape, k.output.trans h.output, Nat.le_trans h.size k.size, fun i hi hn => (k.block i (Nat.lt_of_lt_of_le hi h.size) (fun x => hn (ht i hi x))).trans (h.block i hi (fun x => hn (hs i hi x)))⟩
theorem Ch.toBelow {a b : World} {S : Nat → Prop} {B : Nat} (h : Ch a b S) (hB : B ≤ a.heap.size) (hs : ∀ q, q < B → ¬ S q) : Below B a b :=
  ⟨h.os, h.tape, h.output, h.size, fun k hk => h.block k (Nat.lt_of_lt_of_le hk hB) (hs k hk)⟩
theorem Ch.cell {w w' : World} {S : Nat → Prop} (h : Ch w w' S) {p : Addr} (hl : p.block < w.heap.size) (hp : ¬ S p.block) : w'.cell? p = w.cell? p := World.cell?_of_block (w := w) (h.block p.block hl hp)
theorem Ch.set (w : World) (g i : Nat) (v : Value) : Ch w (w.setCell ⟨g, i, none⟩ v) (fun q => q = g) := ⟨rfl, rfl, rfl, by simp [World.setCell], fun k _ hk => Below.heap_setCell _ _ _ _ hk⟩
theorem Ch.drew (w : World) (S : Nat → Prop) : Ch w w.drew S := ⟨rfl, rfl, rfl, Nat.le_refl _, fun _ _ _ => rfl⟩
theorem Ch.alloc (w : World) (o : Obj) (S : Nat → Prop) : Ch w (w.alloc o) S := Ch.below ((Below.refl _ w).alloc (Nat.le_refl _) o)
theorem alloc1 (w : World) (o : Obj) : Below w.heap.size w (w.alloc o) := (Below.refl _ w).alloc (Nat.le_refl _) o
theorem alloc2 (w : World) (o o2 : Obj) : Below w.heap.size w ((w.alloc o).alloc o2) := (alloc1 w o).alloc (by simp) o2
theorem set_blkf {w : World} {g : Nat} {C : Array Value} {t : TypeId} {fr : Nat × Nat} (h : w.heap[g]? = some (.cells C t fr)) (i : Nat) (v : Value) : (w.setCell ⟨g, i, none⟩ v).heap[g]? = some (.cells (C.setIfInBounds i v) t fr) := by
  rw [setCell_eq_setRow w g i _ t fr _ h]
  exact setRow_heap w g _ _ t fr h
/- rows of the call's own -/
theorem rown_bel {w w' : World} {B : Nat} {t : TypeId} {z : Nat} {v : Value} {n : Nat} {xs : List Value} (h : w.ownsRow B t z v n xs) (hb : ∀ q, v.ownBlock = some q → w'.heap[q]? = w.heap[q]?) : w'.ownsRow B t z v n xs := by
  refine ⟨h.1, h.2.imp id ?_⟩
  rintro ⟨q, cap, cur, rfl, e2, e3, e4⟩
  exact ⟨q, cap, cur, rfl, e2, (hb q rfl).trans e3, e4⟩
theorem rown_mono {w : World} {B B' : Nat} {t : TypeId} {z : Nat} {v : Value} {n : Nat} {xs : List Value} (h : w.ownsRow B t z v n xs) (hb : B' ≤ B) : w.ownsRow B' t z v n xs := by
  refine ⟨h.1, h.2.imp id ?_⟩
  rintro ⟨q, cap, cur, e1, e2, e3, e4⟩
  exact ⟨q, cap, cur, e1, by omega, e3, e4⟩
theorem rown_slice {w : World} {B : Nat} {t : TypeId} {z : Nat} {v : Value} {n : Nat} {xs : List Value} (h : w.ownsRow B t z v n xs) : ∃ a c, v = .slice a n c := by
  rcases h.2 with ⟨h1, h2⟩ | ⟨g, cap, cur, h1, _⟩
  · exact ⟨none, 0, by rw [h1, h2]⟩
  · exact ⟨_, _, h1⟩
theorem rown_cap0 {w : World} {B : Nat} {t : TypeId} {z : Nat} {a : Option Addr} {n c : Nat} {xs : List Value} (h : w.ownsRow B t z (.slice a n c) n xs) : a = none → c = 0 := by
  rcases h.2 with ⟨h1, _⟩ | ⟨g, cap, cur, h1, _⟩
  · simp at h1
    exact fun _ => h1.2.2
  · simp at h1
    intro e
    rw [e] at h1
    simp at h1
theorem rown_cap {w : World} {B : Nat} {t : TypeId} {z : Nat} {a : Option Addr} {n c : Nat} {xs : List Value} (h : w.ownsRow B t z (.slice a n c) n xs) : n ≤ c := by
  rcases h.2 with ⟨h1, h2⟩ | ⟨g, cap, cur, h1, _, _, h4, _⟩
  · omega
  · cases h1; exact h4
theorem rown_at {w : World} {B : Nat} {t : TypeId} {z : Nat} {a : Option Addr} {n c : Nat} {xs : List Value} (h : w.ownsRow B t z (.slice a n c) n xs) (hn : 0 < n) : ∃ g, a = some ⟨g, 0, none⟩ ∧ B ≤ g ∧ g < w.heap.size ∧ ∃ cur, w.heap[g]? = some (.cells cur t (0, 0)) ∧ n * z ≤ cur.size := by
  rcases h.2 with ⟨h1, h2⟩ | ⟨g, cap, cur, h1, h2, h3, h4, h5, h6, h7⟩
  · omega
  · cases h1
    exact ⟨g, rfl, h2, (Array.getElem?_eq_some_iff.1 h3).1, cur, h3, by rw [h6]; exact Nat.mul_le_mul_right _ h4⟩
theorem row_set {W : World} {B : Nat} {e : TypeId} {z g n c : Nat} {xs : List Value} (h : W.ownsRow B e z (.slice (some ⟨g, 0, none⟩) n c) n xs) (k : Nat) (v : Value) : (W.setCell ⟨g, k, none⟩ v).ownsRow B e z (.slice (some ⟨g, 0, none⟩) n c) n (xs.set k v) := by
  rcases h with ⟨hl, ⟨h1, _⟩ | ⟨q, cap, cur, h1, h2, h3, h4, h5, h6, h7⟩⟩
  · cases h1
  · cases h1
    refine ⟨by rw [List.length_set]; exact hl, .inr ⟨_, _, cur.setIfInBounds k v, rfl, h2, set_blkf h3 k v, h4, h5, by rw [Array.size_setIfInBounds]; exact h6, ?_⟩⟩
    rw [Array.toList_setIfInBounds, List.take_set, h7]
theorem set_same {l : List Value} {k : Nat} {v : Value} (h : l[k]? = some v) : l.set k v = l := by
  obtain ⟨h1, h2⟩ := List.getElem?_eq_some_iff.1 h
  rw [← h2]
  exact List.set_getElem_self h1
/- rows of ints, for reading: empty, or in a block from lo on -/
def iv (x : Int) : Value := .int .i64 x
structure Irow (w : World) (lo : Nat) (a : Option Addr) (n : Nat) (l : List Int) : Prop where
  len : n = l.length
  sz : n ≤ 17592186043904
  row : n = 0 ∨ ∃ b off, a = some ⟨b, off, none⟩ ∧ lo ≤ b ∧ b < w.heap.size ∧ ∀ i, i < n → w.cell? ⟨b, off + i, none⟩ = some (.int .i64 (l.getD i 0))
theorem Irow.keep {w w' : World} {lo : Nat} {a : Option Addr} {n : Nat} {l : List Int} (h : Irow w lo a n l) (hs : w.heap.size ≤ w'.heap.size) (hb : ∀ q, lo ≤ q → q < w.heap.size → w'.heap[q]? = w.heap[q]?) : Irow w' lo a n l := by
  refine ⟨h.len, h.sz, h.row.imp id ?_⟩
  rintro ⟨b, off, h1, h2, h3, h4⟩
  exact ⟨b, off, h1, h2, Nat.lt_of_lt_of_le h3 hs, fun i hi => (World.cell?_of_block (a := ⟨b, off + i, none⟩) (hb b h2 h3)).trans (h4 i hi)⟩
theorem Irow.below {w w' : World} {lo : Nat} {a : Option Addr} {n : Nat} {l : List Int} (h : Irow w lo a n l) (hb : Below w.heap.size w w') : Irow w' lo a n l := h.keep hb.size fun q _ hq => hb.block q hq
theorem Irow.mono {w : World} {lo lo' : Nat} {a : Option Addr} {n : Nat} {l : List Int} (h : Irow w lo a n l) (hl : lo' ≤ lo) : Irow w lo' a n l := by
  refine ⟨h.len, h.sz, h.row.imp id ?_⟩
  rintro ⟨b, off, h1, h2, h3⟩
  exact ⟨b, off, h1, Nat.le_trans hl h2, h3⟩
theorem Irow.at_ {w : World} {lo : Nat} {a : Option Addr} {n : Nat} {l : List Int} (h : Irow w lo a n l) {i : Nat} (hi : i < n) : ∃ b off, a = some ⟨b, off, none⟩ ∧ w.cell? ⟨b, off + i, none⟩ = some (.int .i64 (l.getD i 0)) := by
  rcases h.row with h0 | ⟨b, off, h1, _, _, h4⟩
  · omega
  · exact ⟨b, off, h1, h4 i hi⟩
theorem irow_own {w : World} {B : Nat} {a : Option Addr} {n c : Nat} {l : List Int} (h : w.ownsRow B 3 1 (.slice a n c) n (l.map iv)) (hz : n ≤ 17592186043904) : Irow w B a n l := by
  have hl : n = l.length := by have := h.1; simp at this; omega
  refine ⟨hl, hz, ?_⟩
  by_cases h0 : n = 0
  · exact .inl h0
  · obtain ⟨g, rfl, h2, h3, _⟩ := rown_at h (by omega)
    refine .inr ⟨g, 0, rfl, h2, h3, fun i hi => ?_⟩
    rw [Nat.zero_add, h.cellAt i (by omega)]
    have hi2 : i < l.length := by omega
    simp [iv, List.getD, hi2]
set_option maxHeartbeats 1000000 in
theorem sameInts_n {w : World} {lo lo2 : Nat} {a b : Option Addr} {n m c d : Nat} {l r : List Int} (hA : Hid (Irow w lo a n l)) (hB : Hid (Irow w lo2 b m r)) :
    Calls Tryd.prog 57 #[.slice a n c,.slice b m d] w fun e w' => e = .returned (.bool (decide (l = r))) ∧ Hid (Below w.heap.size w w') := by
  have hsz := hA.out.sz
  have hsz2 := hB.out.sz
  by_cases hnm : n = m
  · subst hnm
    have LL : Hid (l.length = n ∧ r.length = n) := ⟨hA.out.len.symm, hB.out.len.symm⟩
    go_enter Tryd.func57, Tryd.ntmps57
    go_wp2
    go_loopw [13] (fun ti wr => ∃ k : Nat, k ≤ n ∧ ti = .int .i64 k ∧ Hid (∀ j, j < k → l.getD j 0 = r.getD j 0) ∧ Hid (Below w.heap.size w wr)) (fun ti _ => n - (intOf ti).toNat)
    case atStart => exact ⟨0, by omega, rfl, fun j hj => by omega, Below.refl _ _⟩
    case round =>
      obtain ⟨k, hk, rfl, HK, HB⟩ := hrel
      by_cases hlt : k < n
      · have i3 : (k : Int) < (n : Int) := by omega
        obtain ⟨b1, o1, rfl, e1⟩ := (hA.out.below HB.out).at_ hlt
        obtain ⟨b2, o2, rfl, e2⟩ := (hB.out.below HB.out).at_ hlt
        obtain ⟨x, Hx⟩ : ∃ x, Hid (l.getD k 0 = x) := ⟨_, rfl⟩
        obtain ⟨y, Hy⟩ : ∃ y, Hid (r.getD k 0 = y) := ⟨_, rfl⟩
        rw [Hx.out] at e1
        rw [Hy.out] at e2
        by_cases hxy : x = y
        · subst hxy
          have NX : Hid (∀ j, j < k + 1 → l.getD j 0 = r.getD j 0) := fun j hj => by
            by_cases hjk : j = k
            · subst hjk; rw [Hx.out, Hy.out]
            · exact HK.out j (by omega)
          go_wp2
          go_quiet (fail)
          go_wp2
          go_roundw
          case rel => exact ⟨k + 1, by omega, by go_num, NX.out, below_drewN HB.out _⟩
          case measure => simp [intOf]; omega
        · have NE : Hid (decide (l = r) = false) := decide_eq_false (fun h => hxy (by rw [← Hx.out, ← Hy.out, h]))
          go_wp2
          go_quiet (fail)
          go_wp2
          go_ret
          exact ⟨retB NE.out, below_drewN HB.out _⟩
      · have EQ : Hid (decide (l = r) = true) := decide_eq_true (List.ext_getElem (by rw [LL.out.1, LL.out.2]) (fun i h1 h2 => by
          have h3 := HK.out i (by have := LL.out; omega)
          simpa [List.getD, h1, h2] using h3))
        go_wp2
        go_ret
        exact ⟨retB EQ.out, HB.out⟩
  · have NE : Hid (decide (l = r) = false) := decide_eq_false (fun h => hnm (by rw [hA.out.len, hB.out.len, h]))
    have i3 : ¬ ((n : Int) = (m : Int)) := by omega
    go_enter Tryd.func57, Tryd.ntmps57
    go_wp2
    go_ret
    exact ⟨retB NE.out, Below.refl _ _⟩
end Go.Proofs.YtppibcambhmomaaDoor
namespace Go.Proofs.YtppibcambhmomaaDoor
open Go.ChangeShapes Go.WideShapes Go.ChangeAt Go.RowKit
set_option maxRecDepth 20000
set_option linter.unusedVariables false
set_option linter.unusedSimpArgs false
/- a command -/
structure Cm where
  k : Int
  i0 : Int
  i1 : Int
  i2 : Int
  bu : ByteArray
  ke : ByteArray
  u0 : Int
  u1 : Int
  u2 : Int
  b0 : Int
  b1 : Int
  b2 : Int
  sz : Int
  et : ByteArray
  pt : Int
  ps : List Int
  tm : Int
  dy : Int
theorem Cm.eq_iff (x y : Cm) : (x.k = y.k ∧ x.i0 = y.i0 ∧ x.i1 = y.i1 ∧ x.i2 = y.i2 ∧ x.bu = y.bu ∧ x.ke = y.ke ∧ x.u0 = y.u0 ∧ x.u1 = y.u1 ∧ x.u2 = y.u2 ∧ x.b0 = y.b0 ∧ x.b1 = y.b1 ∧ x.b2 = y.b2 ∧ x.sz = y.sz ∧ x.et = y.et ∧ x.pt = y.pt ∧ x.ps = y.ps ∧ x.tm = y.tm ∧ x.dy = y.dy) ↔ x = y := by
  cases x; cases y; simp
instance : DecidableEq Cm := fun x y => decidable_of_iff _ (Cm.eq_iff x y)
/- a command, and where its Parts lie -/
structure Cx where
  cm : Cm
  pa : Option Addr
  pn : Nat
  pc : Nat
def encX (x : Cx) : List Value := [.int .i64 x.cm.k,.int .i64 x.cm.i0,.int .i64 x.cm.i1,.int .i64 x.cm.i2,.string x.cm.bu,.string x.cm.ke,.int .i64 x.cm.u0,.int .i64 x.cm.u1,.int .i64 x.cm.u2,.int .i64 x.cm.b0,.int .i64 x.cm.b1,.int .i64 x.cm.b2,.int .i64 x.cm.sz,.string x.cm.et,.int .i64 x.cm.pt,.slice x.pa x.pn x.pc,.int .i64 x.cm.tm,.int .i64 x.cm.dy]
theorem encX_len (x : Cx) : (encX x).length = 18 := rfl
theorem encX_one (x : Cx) : ∀ v ∈ encX x, v.oneCell' = true := fun v hv => by
  simp only [encX, List.mem_cons, List.not_mem_nil, or_false] at hv
  rcases hv with rfl | rfl | rfl | rfl | rfl | rfl | rfl | rfl | rfl | rfl | rfl | rfl | rfl | rfl | rfl | rfl | rfl | rfl <;> rfl
theorem partI (xs : Array Value) (i : Nat) (x : Int) (h : xs[i]? = some (.int .i64 x)) (w : World) : (part 3 xs i).run Tryd.prog w = .ok (.int .i64 x) w := by simp [part, go_sem, h]
theorem partS (xs : Array Value) (i : Nat) (x : ByteArray) (h : xs[i]? = some (.string x)) (w : World) : (part 9 xs i).run Tryd.prog w = .ok (.string x) w := by simp [part, go_sem, h]
theorem eqI (d : Nat) (x y : Int) (w : World) : (Op.equalIn (d + 1) 3 (.int .i64 x) (.int .i64 y)).run Tryd.prog w = .ok (decide (x = y)) w := by
  rw [run_equalIn_int w d 3 .i64 .i64 x y Tryd.underlying3]
  by_cases h : x = y <;> simp [h]
theorem eqS (d : Nat) (x y : ByteArray) (w : World) : (Op.equalIn (d + 1) 9 (.string x) (.string y)).run Tryd.prog w = .ok (decide (x = y)) w := by
  rw [run_equalIn_string w d 9 x y Tryd.underlying9]
  have e : (x.toList == y.toList) = decide (x = y) := by
    rw [ByteArray.toList_eq, ByteArray.toList_eq]
    by_cases h : x = y
    · subst h; simp
    · have h2 : ¬ (x.data.toList = y.data.toList) := fun e => h (ByteArray.ext (Array.toList_inj.1 e))
      rw [decide_eq_false h]
      simpa using h2
  rw [e]
/- the fields from the first to the last -/
theorem fstep {d : Nat} {xs ys : Array Value} {f : Field} {fs : List Field} {a b : Value} {r s : Bool} {w : World} (hn : f.name ≠ "_") (ha : (part f.type xs f.offset).run Tryd.prog w = .ok a w) (hb : (part f.type ys f.offset).run Tryd.prog w = .ok b w) (he : (Op.equalIn d f.type a b).run Tryd.prog w = .ok r w) (hs : (Op.eqFields d xs ys fs).run Tryd.prog w = .ok s w) :
    (Op.eqFields d xs ys (f :: fs)).run Tryd.prog w = .ok (r && s) w := by
  simp only [Op.eqFields, if_pos hn, Sem.run_bind, ha, hb, he, Result.andThen_ok]
  cases r
  · simp
  · simpa using hs
theorem fend (d : Nat) (xs ys : Array Value) (w : World) : (Op.eqFields d xs ys []).run Tryd.prog w = .ok true w := by simp [Op.eqFields]
abbrev idv (a b c : Int) : Value := .agg #[.int .i64 a,.int .i64 b,.int .i64 c]
theorem eqId (a b c a' b' c' : Int) (k : Nat) (w : World) : (Op.equalIn (k + 2) 23 (idv a b c) (idv a' b' c')).run Tryd.prog w = .ok (decide (a = a' ∧ b = b' ∧ c = c')) w := by
  rw [run_equalIn_struct w (k + 1) 23 _ _ (by kernel_rfl) (by kernel_rfl)]
  simp only [Program.fieldsOf, Tryd.underlying23]
  rw [fstep (by decide) (partI _ _ a rfl w) (partI _ _ a' rfl w) (eqI _ a a' w) (fstep (by decide) (partI _ _ b rfl w) (partI _ _ b' rfl w) (eqI _ b b' w) (fstep (by decide) (partI _ _ c rfl w) (partI _ _ c' rfl w) (eqI _ c c' w) (fend _ _ _ w)))]
  congr 1
  simp
theorem partId (xs : Array Value) (a b c : Int) (h0 : xs[0]? = some (.int .i64 a)) (h1 : xs[1]? = some (.int .i64 b)) (h2 : xs[2]? = some (.int .i64 c)) (w : World) : (part 23 xs 0).run Tryd.prog w = .ok (idv a b c) w := by
  obtain ⟨l⟩ := xs
  match l, h0, h1, h2 with
  | x :: y :: z :: r, h0, h1, h2 =>
    simp at h0 h1 h2
    subst h0 h1 h2
    simp [part, go_sem]
theorem eqPc (a b c s : Int) (t : ByteArray) (a' b' c' s' : Int) (t' : ByteArray) (w : World) : (Op.equalIn 10000 58 (.agg #[.int .i64 a,.int .i64 b,.int .i64 c,.int .i64 s,.string t]) (.agg #[.int .i64 a',.int .i64 b',.int .i64 c',.int .i64 s',.string t'])).run Tryd.prog w = .ok (decide ((a = a' ∧ b = b' ∧ c = c') ∧ s = s' ∧ t = t')) w := by
  rw [run_equalIn_struct w 9999 58 _ _ (by kernel_rfl) (by kernel_rfl)]
  simp only [Program.fieldsOf, Tryd.underlying58]
  rw [fstep (by decide) (partId _ a b c rfl rfl rfl w) (partId _ a' b' c' rfl rfl rfl w) (eqId a b c a' b' c' 9997 w) (fstep (by decide) (partI _ _ s rfl w) (partI _ _ s' rfl w) (eqI _ s s' w) (fstep (by decide) (partS _ _ t rfl w) (partS _ _ t' rfl w) (eqS _ t t' w) (fend _ _ _ w)))]
  congr 1
  simp
end Go.Proofs.YtppibcambhmomaaDoor
