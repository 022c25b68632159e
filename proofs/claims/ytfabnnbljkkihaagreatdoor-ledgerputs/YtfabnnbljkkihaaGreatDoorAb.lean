/- Commands: their cells; equality of ids, pieces, ballots; SameCommand. -/
import Derived.Test.YtfabnnbljkkihaaGreatDoorAa
namespace Go.Proofs.YtfabnnbljkkihaaGreatDoor
open Go.ChangeShapes Go.WideShapes Go.ChangeAt Go.RowKit
set_option maxRecDepth 20000
set_option linter.unusedVariables false
set_option linter.unusedSimpArgs false
/- a command -/
structure Cm where
  k : Int
  i0 : Int
  i1 : Int
  i2 : Int
  bu : ByteArray
  ke : ByteArray
  u0 : Int
  u1 : Int
  u2 : Int
  b0 : Int
  b1 : Int
  b2 : Int
  sz : Int
  et : ByteArray
  pt : Int
  ps : List Int
  tm : Int
  dy : Int
theorem Cm.eq_iff (x y : Cm) : (x.k = y.k ∧ x.i0 = y.i0 ∧ x.i1 = y.i1 ∧ x.i2 = y.i2 ∧ x.bu = y.bu ∧ x.ke = y.ke ∧ x.u0 = y.u0 ∧ x.u1 = y.u1 ∧ x.u2 = y.u2 ∧ x.b0 = y.b0 ∧ x.b1 = y.b1 ∧ x.b2 = y.b2 ∧ x.sz = y.sz ∧ x.et = y.et ∧ x.pt = y.pt ∧ x.ps = y.ps ∧ x.tm = y.tm ∧ x.dy = y.dy) ↔ x = y := by
  cases x; cases y; simp
instance : DecidableEq Cm := fun x y => decidable_of_iff _ (Cm.eq_iff x y)
/- a command, and where its Parts lie -/
structure Cx where
  cm : Cm
  pa : Option Addr
  pn : Nat
  pc : Nat
def encX (x : Cx) : List Value := [.int .i64 x.cm.k, .int .i64 x.cm.i0, .int .i64 x.cm.i1, .int .i64 x.cm.i2, .string x.cm.bu, .string x.cm.ke, .int .i64 x.cm.u0, .int .i64 x.cm.u1, .int .i64 x.cm.u2, .int .i64 x.cm.b0, .int .i64 x.cm.b1, .int .i64 x.cm.b2, .int .i64 x.cm.sz, .string x.cm.et, .int .i64 x.cm.pt, .slice x.pa x.pn x.pc, .int .i64 x.cm.tm, .int .i64 x.cm.dy]
theorem encX_len (x : Cx) : (encX x).length = 18 := rfl
theorem encX_one (x : Cx) : ∀ v ∈ encX x, v.oneCell' = true := fun v hv => by
  simp only [encX, List.mem_cons, List.not_mem_nil, or_false] at hv
  rcases hv with rfl | rfl | rfl | rfl | rfl | rfl | rfl | rfl | rfl | rfl | rfl | rfl | rfl | rfl | rfl | rfl | rfl | rfl <;> rfl
theorem partI (xs : Array Value) (i : Nat) (x : Int) (h : xs[i]? = some (.int .i64 x)) (w : World) : (part 3 xs i).run Tryz.prog w = .ok (.int .i64 x) w := by simp [part, go_sem, h]
theorem partS (xs : Array Value) (i : Nat) (x : ByteArray) (h : xs[i]? = some (.string x)) (w : World) : (part 9 xs i).run Tryz.prog w = .ok (.string x) w := by simp [part, go_sem, h]
theorem eqI (d : Nat) (x y : Int) (w : World) : (Op.equalIn (d + 1) 3 (.int .i64 x) (.int .i64 y)).run Tryz.prog w = .ok (decide (x = y)) w := by
  rw [run_equalIn_int w d 3 .i64 .i64 x y Tryz.underlying3]
  by_cases h : x = y <;> simp [h]
theorem eqS (d : Nat) (x y : ByteArray) (w : World) : (Op.equalIn (d + 1) 9 (.string x) (.string y)).run Tryz.prog w = .ok (decide (x = y)) w := by
  rw [run_equalIn_string w d 9 x y Tryz.underlying9]
  have e : (x.toList == y.toList) = decide (x = y) := by
    rw [ByteArray.toList_eq, ByteArray.toList_eq]
    by_cases h : x = y
    · subst h; simp
    · have h2 : ¬ (x.data.toList = y.data.toList) := fun e => h (ByteArray.ext (Array.toList_inj.1 e))
      rw [decide_eq_false h]
      simpa using h2
  rw [e]
/- the fields from the first to the last -/
theorem fstep {d : Nat} {xs ys : Array Value} {f : Field} {fs : List Field} {a b : Value} {r s : Bool} {w : World} (hn : f.name ≠ "_") (ha : (part f.type xs f.offset).run Tryz.prog w = .ok a w) (hb : (part f.type ys f.offset).run Tryz.prog w = .ok b w) (he : (Op.equalIn d f.type a b).run Tryz.prog w = .ok r w) (hs : (Op.eqFields d xs ys fs).run Tryz.prog w = .ok s w) :
    (Op.eqFields d xs ys (f :: fs)).run Tryz.prog w = .ok (r && s) w := by
  simp only [Op.eqFields, if_pos hn, Sem.run_bind, ha, hb, he, Result.andThen_ok]
  cases r
  · simp
  · simpa using hs
theorem fend (d : Nat) (xs ys : Array Value) (w : World) : (Op.eqFields d xs ys []).run Tryz.prog w = .ok true w := by simp [Op.eqFields]
abbrev bal (r n : Int) : Value := .agg #[.int .i64 r, .int .i64 n]
abbrev idv (a b c : Int) : Value := .agg #[.int .i64 a, .int .i64 b, .int .i64 c]
theorem eqId (a b c a' b' c' : Int) (k : Nat) (w : World) : (Op.equalIn (k + 2) 24 (idv a b c) (idv a' b' c')).run Tryz.prog w = .ok (decide (a = a' ∧ b = b' ∧ c = c')) w := by
  rw [run_equalIn_struct w (k + 1) 24 _ _ (by kernel_rfl) (by kernel_rfl)]
  simp only [Program.fieldsOf, Tryz.underlying24]
  rw [fstep (by decide) (partI _ _ a rfl w) (partI _ _ a' rfl w) (eqI _ a a' w) (fstep (by decide) (partI _ _ b rfl w) (partI _ _ b' rfl w) (eqI _ b b' w) (fstep (by decide) (partI _ _ c rfl w) (partI _ _ c' rfl w) (eqI _ c c' w) (fend _ _ _ w)))]
  congr 1
  simp
theorem partId (xs : Array Value) (a b c : Int) (h0 : xs[0]? = some (.int .i64 a)) (h1 : xs[1]? = some (.int .i64 b)) (h2 : xs[2]? = some (.int .i64 c)) (w : World) : (part 24 xs 0).run Tryz.prog w = .ok (idv a b c) w := by
  obtain ⟨l⟩ := xs
  match l, h0, h1, h2 with
  | x :: y :: z :: r, h0, h1, h2 =>
    simp at h0 h1 h2
    subst h0 h1 h2
    simp [part, go_sem]
theorem eqPc (a b c s : Int) (t : ByteArray) (a' b' c' s' : Int) (t' : ByteArray) (w : World) : (Op.equalIn 10000 26 (.agg #[.int .i64 a, .int .i64 b, .int .i64 c, .int .i64 s, .string t]) (.agg #[.int .i64 a', .int .i64 b', .int .i64 c', .int .i64 s', .string t'])).run Tryz.prog w = .ok (decide ((a = a' ∧ b = b' ∧ c = c') ∧ s = s' ∧ t = t')) w := by
  rw [run_equalIn_struct w 9999 26 _ _ (by kernel_rfl) (by kernel_rfl)]
  simp only [Program.fieldsOf, Tryz.underlying26]
  rw [fstep (by decide) (partId _ a b c rfl rfl rfl w) (partId _ a' b' c' rfl rfl rfl w) (eqId a b c a' b' c' 9997 w) (fstep (by decide) (partI _ _ s rfl w) (partI _ _ s' rfl w) (eqI _ s s' w) (fstep (by decide) (partS _ _ t rfl w) (partS _ _ t' rfl w) (eqS _ t t' w) (fend _ _ _ w)))]
  congr 1
  simp
end Go.Proofs.YtfabnnbljkkihaaGreatDoor
