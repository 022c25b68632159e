/- The document's form of a message, kind by kind, on plain data. -/
import Derived.Test.YtppibcambhmomaaDoorMh
import Derived.Test.YtppibcambhmomaaDoorMQa
import Derived.Test.YtppibcambhmomaaDoorMPk
namespace Go.Proofs.YtppibcambhmomaaDoor
set_option maxRecDepth 20000
set_option linter.unusedVariables false
set_option linter.unusedSimpArgs false
theorem led_nil {X : List Cx} : led X = led [] ↔ X = [] := by
  constructor
  · intro h
    have := congrArg List.length h
    simp [led] at this
    exact this
  · intro h; rw [h]
theorem goz_led {ln : Nat} {X : List Cx} (hl : ln = X.length) (h : ldT ln (led X) = false) (g : Bool) : goz g (ldT ln (led X)) (decide ((ln : Int) = 0)) = false := by
  cases g with
  | true => exact h
  | false =>
    show decide _ = false
    apply decide_eq_false
    intro h0
    have h0 : ln = 0 := by omega
    have hx : X = [] := List.length_eq_zero_iff.1 (by omega)
    subst hx
    subst h0
    cases h
theorem mf_led {x : Mc} {X : List Cx} (hl : x.ln = X.length) (h : ldT x.ln (led X) = false) : mf x (led X) = false := by
  unfold mf
  rw [goz_led hl h]
  simp
section
variable {f t t0 t1 t2 p0 p1 q0 q1 : Int} {la : Option Addr} {ln lc : Nat} {u0 u1 u2 : Int} {vk : Bool} {fa : Option Addr} {fn fc : Nat} {X : List Cx} {L : List Nat}
theorem mfk_1 (hl : ln = X.length) (hn : fn = L.length) (hF : ndT f = true) (hT : ndT t = true) (hI : gdI t0 t1 t2 = true) (hW : ldT ln (led X) = true) (hB : lgT p0 p1 = true) : mf ⟨1, f, t, t0, t1, t2, p0, p1, q0, q1, la, ln, lc, u0, u1, u2, vk, fa, fn, fc⟩ (led X) = smB ⟨1, f, t, t0, t1, t2, p0, p1, q0, q1, la, ln, lc, u0, u1, u2, vk, fa, fn, fc⟩ (led X) L ⟨1, f, t, t0, t1, t2, p0, p1, 0, 0, none, 0, 0, 0, 0, 0, false, none, 0, 0⟩ (led []) [] := by
  have e1 : decide ((fn : Int) = 0) = decide (L = []) := decide_eq_decide.2 (by rw [hn]; exact ⟨fun h => List.length_eq_zero_iff.1 (by omega), fun h => by rw [h]; rfl⟩)
  have e2 : decide ((ln : Int) = 0) = decide (led X = led []) := decide_eq_decide.2 (by rw [hl, led_nil]; exact ⟨fun h => List.length_eq_zero_iff.1 (by omega), fun h => by rw [h]; rfl⟩)
  have e3 : decide ((fn : Int) ≤ 4096) = decide (fn ≤ 4096) := decide_eq_decide.2 (by omega)
  unfold mf smB
  simp only []
  rw [e1, e2, e3]
  simp [kM, gB, gA, gL, gP, gO, gF, goz, hF, hT, hI, hW, hB]
theorem mfk_2a (hl : ln = X.length) (hn : fn = L.length) (hF : ndT f = true) (hT : ndT t = true) (hI : gdI t0 t1 t2 = true) (hW : ldT ln (led X) = true) (hB : lgT p0 p1 = true) (h0 : q0 = 0) (h1 : q1 = 0) (h2 : ln = 0) : mf ⟨2, f, t, t0, t1, t2, p0, p1, q0, q1, la, ln, lc, u0, u1, u2, vk, fa, fn, fc⟩ (led X) = smB ⟨2, f, t, t0, t1, t2, p0, p1, q0, q1, la, ln, lc, u0, u1, u2, vk, fa, fn, fc⟩ (led X) L ⟨2, f, t, t0, t1, t2, p0, p1, q0, q1, la, ln, lc, 0, 0, 0, false, none, 0, 0⟩ (led X) [] := by
  subst h0 h1
  have e1 : decide ((fn : Int) = 0) = decide (L = []) := decide_eq_decide.2 (by rw [hn]; exact ⟨fun h => List.length_eq_zero_iff.1 (by omega), fun h => by rw [h]; rfl⟩)
  have e2 : decide ((ln : Int) = 0) = decide (led X = led []) := decide_eq_decide.2 (by rw [hl, led_nil]; exact ⟨fun h => List.length_eq_zero_iff.1 (by omega), fun h => by rw [h]; rfl⟩)
  have e3 : decide ((fn : Int) ≤ 4096) = decide (fn ≤ 4096) := decide_eq_decide.2 (by omega)
  unfold mf smB
  simp only []
  have e4 : led X = led [] := led_nil.2 (List.length_eq_zero_iff.1 (by omega))
  rw [e1, e2, e3]
  simp [kM, gB, gA, gL, gP, gO, gF, goz, hF, hT, hI, hW, hB, h2, e4]
theorem mfk_2b (hl : ln = X.length) (hn : fn = L.length) (hF : ndT f = true) (hT : ndT t = true) (hI : gdI t0 t1 t2 = true) (hW : ldT ln (led X) = true) (hB : lgT p0 p1 = true) (h0 : ¬ (q0 = 0 ∧ q1 = 0)) (hA : lgT q0 q1 = true) : mf ⟨2, f, t, t0, t1, t2, p0, p1, q0, q1, la, ln, lc, u0, u1, u2, vk, fa, fn, fc⟩ (led X) = smB ⟨2, f, t, t0, t1, t2, p0, p1, q0, q1, la, ln, lc, u0, u1, u2, vk, fa, fn, fc⟩ (led X) L ⟨2, f, t, t0, t1, t2, p0, p1, q0, q1, la, ln, lc, 0, 0, 0, false, none, 0, 0⟩ (led X) [] := by
  have e1 : decide ((fn : Int) = 0) = decide (L = []) := decide_eq_decide.2 (by rw [hn]; exact ⟨fun h => List.length_eq_zero_iff.1 (by omega), fun h => by rw [h]; rfl⟩)
  have e2 : decide ((ln : Int) = 0) = decide (led X = led []) := decide_eq_decide.2 (by rw [hl, led_nil]; exact ⟨fun h => List.length_eq_zero_iff.1 (by omega), fun h => by rw [h]; rfl⟩)
  have e3 : decide ((fn : Int) ≤ 4096) = decide (fn ≤ 4096) := decide_eq_decide.2 (by omega)
  unfold mf smB
  simp only []
  rw [e1, e2, e3]
  simp [kM, gB, gA, gL, gP, gO, gF, goz, hF, hT, hI, hW, hB, h0, hA]
theorem mfk_3 (hl : ln = X.length) (hn : fn = L.length) (hF : ndT f = true) (hT : ndT t = true) (hI : gdI t0 t1 t2 = true) (hW : ldT ln (led X) = true) (hB : lgT p0 p1 = true) : mf ⟨3, f, t, t0, t1, t2, p0, p1, q0, q1, la, ln, lc, u0, u1, u2, vk, fa, fn, fc⟩ (led X) = smB ⟨3, f, t, t0, t1, t2, p0, p1, q0, q1, la, ln, lc, u0, u1, u2, vk, fa, fn, fc⟩ (led X) L ⟨3, f, t, t0, t1, t2, p0, p1, 0, 0, la, ln, lc, 0, 0, 0, false, none, 0, 0⟩ (led X) [] := by
  have e1 : decide ((fn : Int) = 0) = decide (L = []) := decide_eq_decide.2 (by rw [hn]; exact ⟨fun h => List.length_eq_zero_iff.1 (by omega), fun h => by rw [h]; rfl⟩)
  have e2 : decide ((ln : Int) = 0) = decide (led X = led []) := decide_eq_decide.2 (by rw [hl, led_nil]; exact ⟨fun h => List.length_eq_zero_iff.1 (by omega), fun h => by rw [h]; rfl⟩)
  have e3 : decide ((fn : Int) ≤ 4096) = decide (fn ≤ 4096) := decide_eq_decide.2 (by omega)
  unfold mf smB
  simp only []
  rw [e1, e2, e3]
  simp [kM, gB, gA, gL, gP, gO, gF, goz, hF, hT, hI, hW, hB]
theorem mfk_4 (hl : ln = X.length) (hn : fn = L.length) (hF : ndT f = true) (hT : ndT t = true) (hI : gdI t0 t1 t2 = true) (hW : ldT ln (led X) = true) (hB : lgT p0 p1 = true) : mf ⟨4, f, t, t0, t1, t2, p0, p1, q0, q1, la, ln, lc, u0, u1, u2, vk, fa, fn, fc⟩ (led X) = smB ⟨4, f, t, t0, t1, t2, p0, p1, q0, q1, la, ln, lc, u0, u1, u2, vk, fa, fn, fc⟩ (led X) L ⟨4, f, t, t0, t1, t2, p0, p1, 0, 0, none, 0, 0, 0, 0, 0, false, none, 0, 0⟩ (led []) [] := by
  have e1 : decide ((fn : Int) = 0) = decide (L = []) := decide_eq_decide.2 (by rw [hn]; exact ⟨fun h => List.length_eq_zero_iff.1 (by omega), fun h => by rw [h]; rfl⟩)
  have e2 : decide ((ln : Int) = 0) = decide (led X = led []) := decide_eq_decide.2 (by rw [hl, led_nil]; exact ⟨fun h => List.length_eq_zero_iff.1 (by omega), fun h => by rw [h]; rfl⟩)
  have e3 : decide ((fn : Int) ≤ 4096) = decide (fn ≤ 4096) := decide_eq_decide.2 (by omega)
  unfold mf smB
  simp only []
  rw [e1, e2, e3]
  simp [kM, gB, gA, gL, gP, gO, gF, goz, hF, hT, hI, hW, hB]
theorem mfk_5 (hl : ln = X.length) (hn : fn = L.length) (hF : ndT f = true) (hT : ndT t = true) (hI : gdI t0 t1 t2 = true) (hW : ldT ln (led X) = true) (hB : lgT p0 p1 = true) (hA : lgT q0 q1 = true) : mf ⟨5, f, t, t0, t1, t2, p0, p1, q0, q1, la, ln, lc, u0, u1, u2, vk, fa, fn, fc⟩ (led X) = smB ⟨5, f, t, t0, t1, t2, p0, p1, q0, q1, la, ln, lc, u0, u1, u2, vk, fa, fn, fc⟩ (led X) L ⟨5, f, t, t0, t1, t2, p0, p1, q0, q1, none, 0, 0, 0, 0, 0, false, none, 0, 0⟩ (led []) [] := by
  have e1 : decide ((fn : Int) = 0) = decide (L = []) := decide_eq_decide.2 (by rw [hn]; exact ⟨fun h => List.length_eq_zero_iff.1 (by omega), fun h => by rw [h]; rfl⟩)
  have e2 : decide ((ln : Int) = 0) = decide (led X = led []) := decide_eq_decide.2 (by rw [hl, led_nil]; exact ⟨fun h => List.length_eq_zero_iff.1 (by omega), fun h => by rw [h]; rfl⟩)
  have e3 : decide ((fn : Int) ≤ 4096) = decide (fn ≤ 4096) := decide_eq_decide.2 (by omega)
  unfold mf smB
  simp only []
  rw [e1, e2, e3]
  simp [kM, gB, gA, gL, gP, gO, gF, goz, hF, hT, hI, hW, hB, hA]
theorem mfk_6 (hl : ln = X.length) (hn : fn = L.length) (hF : ndT f = true) (hT : ndT t = true) (hI : gdI t0 t1 t2 = true) (hW : ldT ln (led X) = true) (hB : gdI u0 u1 u2 = true) (hR : fn ≤ 4096) : mf ⟨6, f, t, t0, t1, t2, p0, p1, q0, q1, la, ln, lc, u0, u1, u2, vk, fa, fn, fc⟩ (led X) = smB ⟨6, f, t, t0, t1, t2, p0, p1, q0, q1, la, ln, lc, u0, u1, u2, vk, fa, fn, fc⟩ (led X) L ⟨6, f, t, t0, t1, t2, 0, 0, 0, 0, none, 0, 0, u0, u1, u2, false, fa, fn, fc⟩ (led []) L := by
  have e1 : decide ((fn : Int) = 0) = decide (L = []) := decide_eq_decide.2 (by rw [hn]; exact ⟨fun h => List.length_eq_zero_iff.1 (by omega), fun h => by rw [h]; rfl⟩)
  have e2 : decide ((ln : Int) = 0) = decide (led X = led []) := decide_eq_decide.2 (by rw [hl, led_nil]; exact ⟨fun h => List.length_eq_zero_iff.1 (by omega), fun h => by rw [h]; rfl⟩)
  have e3 : decide ((fn : Int) ≤ 4096) = decide (fn ≤ 4096) := decide_eq_decide.2 (by omega)
  unfold mf smB
  simp only []
  rw [e1, e2, e3]
  simp [kM, gB, gA, gL, gP, gO, gF, goz, hF, hT, hI, hW, hB, hR]
theorem mfk_7 (hl : ln = X.length) (hn : fn = L.length) (hF : ndT f = true) (hT : ndT t = true) (hI : gdI t0 t1 t2 = true) (hW : ldT ln (led X) = true) (hB : gdI u0 u1 u2 = true) (hR : fn ≤ 4096) : mf ⟨7, f, t, t0, t1, t2, p0, p1, q0, q1, la, ln, lc, u0, u1, u2, vk, fa, fn, fc⟩ (led X) = smB ⟨7, f, t, t0, t1, t2, p0, p1, q0, q1, la, ln, lc, u0, u1, u2, vk, fa, fn, fc⟩ (led X) L ⟨7, f, t, t0, t1, t2, 0, 0, 0, 0, none, 0, 0, u0, u1, u2, vk, none, 0, 0⟩ (led []) [] := by
  have e1 : decide ((fn : Int) = 0) = decide (L = []) := decide_eq_decide.2 (by rw [hn]; exact ⟨fun h => List.length_eq_zero_iff.1 (by omega), fun h => by rw [h]; rfl⟩)
  have e2 : decide ((ln : Int) = 0) = decide (led X = led []) := decide_eq_decide.2 (by rw [hl, led_nil]; exact ⟨fun h => List.length_eq_zero_iff.1 (by omega), fun h => by rw [h]; rfl⟩)
  have e3 : decide ((fn : Int) ≤ 4096) = decide (fn ≤ 4096) := decide_eq_decide.2 (by omega)
  unfold mf smB
  simp only []
  rw [e1, e2, e3]
  simp [kM, gB, gA, gL, gP, gO, gF, goz, hF, hT, hI, hW, hB, hR]
theorem mfk_8 (hl : ln = X.length) (hn : fn = L.length) (hF : ndT f = true) (hT : ndT t = true) (hI : gdI t0 t1 t2 = true) (hW : ldT ln (led X) = true) (hB : gdI u0 u1 u2 = true) (hR : fn ≤ 4096) : mf ⟨8, f, t, t0, t1, t2, p0, p1, q0, q1, la, ln, lc, u0, u1, u2, vk, fa, fn, fc⟩ (led X) = smB ⟨8, f, t, t0, t1, t2, p0, p1, q0, q1, la, ln, lc, u0, u1, u2, vk, fa, fn, fc⟩ (led X) L ⟨8, f, t, t0, t1, t2, 0, 0, 0, 0, none, 0, 0, u0, u1, u2, false, none, 0, 0⟩ (led []) [] := by
  have e1 : decide ((fn : Int) = 0) = decide (L = []) := decide_eq_decide.2 (by rw [hn]; exact ⟨fun h => List.length_eq_zero_iff.1 (by omega), fun h => by rw [h]; rfl⟩)
  have e2 : decide ((ln : Int) = 0) = decide (led X = led []) := decide_eq_decide.2 (by rw [hl, led_nil]; exact ⟨fun h => List.length_eq_zero_iff.1 (by omega), fun h => by rw [h]; rfl⟩)
  have e3 : decide ((fn : Int) ≤ 4096) = decide (fn ≤ 4096) := decide_eq_decide.2 (by omega)
  unfold mf smB
  simp only []
  rw [e1, e2, e3]
  simp [kM, gB, gA, gL, gP, gO, gF, goz, hF, hT, hI, hW, hB, hR]
theorem mfk_9a (hl : ln = X.length) (hn : fn = L.length) (hF : ndT f = true) (hT : ndT t = true) (hI : gdI t0 t1 t2 = true) (hW : ldT ln (led X) = true) (hB : gdI u0 u1 u2 = true) (hR : fn ≤ 4096) (h0 : vk = true) : mf ⟨9, f, t, t0, t1, t2, p0, p1, q0, q1, la, ln, lc, u0, u1, u2, vk, fa, fn, fc⟩ (led X) = smB ⟨9, f, t, t0, t1, t2, p0, p1, q0, q1, la, ln, lc, u0, u1, u2, vk, fa, fn, fc⟩ (led X) L ⟨9, f, t, t0, t1, t2, 0, 0, 0, 0, none, 0, 0, u0, u1, u2, vk, fa, fn, fc⟩ (led []) L := by
  subst h0
  have e1 : decide ((fn : Int) = 0) = decide (L = []) := decide_eq_decide.2 (by rw [hn]; exact ⟨fun h => List.length_eq_zero_iff.1 (by omega), fun h => by rw [h]; rfl⟩)
  have e2 : decide ((ln : Int) = 0) = decide (led X = led []) := decide_eq_decide.2 (by rw [hl, led_nil]; exact ⟨fun h => List.length_eq_zero_iff.1 (by omega), fun h => by rw [h]; rfl⟩)
  have e3 : decide ((fn : Int) ≤ 4096) = decide (fn ≤ 4096) := decide_eq_decide.2 (by omega)
  unfold mf smB
  simp only []
  rw [e1, e2, e3]
  simp [kM, gB, gA, gL, gP, gO, gF, goz, hF, hT, hI, hW, hB, hR]
theorem mfk_9b (hl : ln = X.length) (hn : fn = L.length) (hF : ndT f = true) (hT : ndT t = true) (hI : gdI t0 t1 t2 = true) (hW : ldT ln (led X) = true) (hB : gdI u0 u1 u2 = true) (hR : fn ≤ 4096) (h0 : vk = false) (h1 : fn = 0) : mf ⟨9, f, t, t0, t1, t2, p0, p1, q0, q1, la, ln, lc, u0, u1, u2, vk, fa, fn, fc⟩ (led X) = smB ⟨9, f, t, t0, t1, t2, p0, p1, q0, q1, la, ln, lc, u0, u1, u2, vk, fa, fn, fc⟩ (led X) L ⟨9, f, t, t0, t1, t2, 0, 0, 0, 0, none, 0, 0, u0, u1, u2, vk, fa, fn, fc⟩ (led []) L := by
  subst h0
  have e1 : decide ((fn : Int) = 0) = decide (L = []) := decide_eq_decide.2 (by rw [hn]; exact ⟨fun h => List.length_eq_zero_iff.1 (by omega), fun h => by rw [h]; rfl⟩)
  have e2 : decide ((ln : Int) = 0) = decide (led X = led []) := decide_eq_decide.2 (by rw [hl, led_nil]; exact ⟨fun h => List.length_eq_zero_iff.1 (by omega), fun h => by rw [h]; rfl⟩)
  have e3 : decide ((fn : Int) ≤ 4096) = decide (fn ≤ 4096) := decide_eq_decide.2 (by omega)
  unfold mf smB
  simp only []
  have e4 : L = [] := List.length_eq_zero_iff.1 (by omega)
  rw [e1, e2, e3]
  simp [kM, gB, gA, gL, gP, gO, gF, goz, hF, hT, hI, hW, hB, hR, h1, e4]
end
end Go.Proofs.YtppibcambhmomaaDoor
namespace Go.Proofs.YtppibcambhmomaaDoor
open Go.ChangeShapes Go.WideShapes Go.ChangeAt Go.RowKit
set_option maxRecDepth 20000
set_option linter.unusedVariables false
set_option linter.unusedSimpArgs false
structure TwM (w W : World) (g1 g3 g4 : Nat) (A Z : Array Value) : Prop where
  h1 : W.heap[g1]? = some (.cells A 29 (0, 0))
  h3 : W.heap[g3]? = some (.cells #[.int .i64 0,.int .i64 0] 25 (0, 0))
  h4 : W.heap[g4]? = some (.cells Z 29 (0, 0))
  ne : g1 < g3 ∧ g3 < g4 ∧ w.heap.size ≤ g1
  bel : Below w.heap.size w W
section
variable {w W W' : World} {g1 g3 g4 : Nat} {A Z : Array Value}
theorem TwM.below (h : TwM w W g1 g3 g4 A Z) (hb : Below W.heap.size W W') : TwM w W' g1 g3 g4 A Z :=
  ⟨(hb.block _ (Array.getElem?_eq_some_iff.1 h.h1).1).trans h.h1, (hb.block _ (Array.getElem?_eq_some_iff.1 h.h3).1).trans h.h3, (hb.block _ (Array.getElem?_eq_some_iff.1 h.h4).1).trans h.h4, h.ne, h.bel.trans (hb.mono h.bel.size)⟩
theorem TwM.set (h : TwM w W g1 g3 g4 A Z) (j : Nat) (v : Value) : TwM w (W.setCell ⟨g4, j, none⟩ v) g1 g3 g4 A (Z.setIfInBounds j v) := by
  have e := h.ne
  exact ⟨(Below.heap_setCell _ _ _ _ (by show g1 ≠ g4; omega)).trans h.h1, (Below.heap_setCell _ _ _ _ (by show g3 ≠ g4; omega)).trans h.h3, set_blk h.h4 j v, h.ne, h.bel.trans ((Ch.set W g4 j v).toBelow h.bel.size (fun q hq e2 => by have e3 : q = g4 := e2; omega))⟩
theorem TwM.c (h : TwM w W g1 g3 g4 A Z) (j : Nat) (v : Value) (hv : A[j]? = some v) : W.cell? ⟨g1, j, none⟩ = some v := by simp [World.cell?, h.h1, hv]
theorem TwM.b (h : TwM w W g1 g3 g4 A Z) (j : Nat) (v : Value) (hv : (#[.int .i64 0,.int .i64 0] : Array Value)[j]? = some v) : W.cell? ⟨g3, j, none⟩ = some v := by simp [World.cell?, h.h3, hv]
theorem TwM.z (h : TwM w W g1 g3 g4 A Z) (j : Nat) (v : Value) (hv : Z[j]? = some v) : W.cell? ⟨g4, j, none⟩ = some v := by simp [World.cell?, h.h4, hv]
theorem TwM.fz (h : TwM w W g1 g3 g4 A Z) (i : Nat) : W.frozen? ⟨g4, i, none⟩ = false := by simp [World.frozen?, h.h4]
end
theorem Ms.below {w w' : World} {x : Mc} {X : List Cx} {L : List Nat} (h : Ms w x X L) (hb : Below w.heap.size w w') : Ms w' x X L := ⟨h.led.below hb, h.fr.below hb, h.lz, h.fz, h.fle, h.flt⟩
theorem sln_none (w : World) : Sln w none 0 [] := ⟨rfl, by simp, by simp, .inl rfl⟩
set_option maxHeartbeats 4000000 in
theorem inFm_bad {k : Int} {w : World} {f t t0 t1 t2 p0 p1 q0 q1 : Int} {la : Option Addr} {ln lc : Nat} {u0 u1 u2 : Int} {vk : Bool} {fa : Option Addr} {fn fc : Nat} {X : List Cx} {L : List Nat} (hp : Hid (ndT f = false ∨ ndT t = false ∨ gdI t0 t1 t2 = false)) :
    Calls Tryd.prog 11 #[.agg #[.int .i64 k,.int .i64 f,.int .i64 t,.int .i64 t0,.int .i64 t1,.int .i64 t2,.int .i64 p0,.int .i64 p1,.int .i64 q0,.int .i64 q1,.slice la ln lc,.int .i64 u0,.int .i64 u1,.int .i64 u2, .bool vk,.slice fa fn fc]] w fun e w' => e = .returned (.bool (mf ⟨k, f, t, t0, t1, t2, p0, p1, q0, q1, la, ln, lc, u0, u1, u2, vk, fa, fn, fc⟩ (led X))) ∧ Hid (Below w.heap.size w w') := by
  obtain ⟨v, Hv⟩ : ∃ v, Hid (mf ⟨k, f, t, t0, t1, t2, p0, p1, q0, q1, la, ln, lc, u0, u1, u2, vk, fa, fn, fc⟩ (led X) = v) := ⟨_, rfl⟩
  have FV : Hid (v = false) := by
    rw [← Hv.out]
    show _ = _
    unfold mf
    rcases hp.out with h | h | h <;> simp [h]
  rw [Hv.out, FV.out]
  clear Hv FV
  obtain ⟨g1, Hg1⟩ : ∃ g, Hid (w.heap.size = g) := ⟨_, rfl⟩
  obtain ⟨w1, Hw1⟩ : ∃ w1, Hid (w.alloc (.cells #[.int .i64 k,.int .i64 f,.int .i64 t,.int .i64 t0,.int .i64 t1,.int .i64 t2,.int .i64 p0,.int .i64 p1,.int .i64 q0,.int .i64 q1,.slice la ln lc,.int .i64 u0,.int .i64 u1,.int .i64 u2, .bool vk,.slice fa fn fc] 29) = w1) := ⟨_, rfl⟩
  have B1 : Hid (Below w.heap.size w w1) := by rw [← Hw1.out]; exact alloc1 w _
  have k1 : Hid (w1.heap[g1]? = some (.cells #[.int .i64 k,.int .i64 f,.int .i64 t,.int .i64 t0,.int .i64 t1,.int .i64 t2,.int .i64 p0,.int .i64 p1,.int .i64 q0,.int .i64 q1,.slice la ln lc,.int .i64 u0,.int .i64 u1,.int .i64 u2, .bool vk,.slice fa fn fc] 29 (0, 0))) := by rw [← Hw1.out, ← Hg1.out]; exact heap_alloc_new w _
  have x1 : w1.cell? ⟨g1, 1, none⟩ = some (.int .i64 f) := by simp [World.cell?, k1.out]
  have x2 : w1.cell? ⟨g1, 2, none⟩ = some (.int .i64 t) := by simp [World.cell?, k1.out]
  have x3 : w1.cell? ⟨g1, 3, none⟩ = some (.int .i64 t0) := by simp [World.cell?, k1.out]
  have x4 : w1.cell? ⟨g1, 4, none⟩ = some (.int .i64 t1) := by simp [World.cell?, k1.out]
  have x5 : w1.cell? ⟨g1, 5, none⟩ = some (.int .i64 t2) := by simp [World.cell?, k1.out]
  by_cases n1 : f < 0
  · clear hp
    go_enter Tryd.func11, Tryd.ntmps11
    go_upto_region 1 with (fail)
    rw [Hw1.out, Hg1.out]
    go_wp2
    go_ret
    exact ⟨rfl, B1.out⟩
  by_cases n2 : 15 < f
  · clear hp
    go_enter Tryd.func11, Tryd.ntmps11
    go_upto_region 1 with (fail)
    rw [Hw1.out, Hg1.out]
    go_wp2
    go_ret
    exact ⟨rfl, B1.out⟩
  by_cases n3 : t < 0
  · clear hp
    go_enter Tryd.func11, Tryd.ntmps11
    go_upto_region 1 with (fail)
    rw [Hw1.out, Hg1.out]
    go_wp2
    go_ret
    exact ⟨rfl, B1.out⟩
  by_cases n4 : 15 < t
  · clear hp
    go_enter Tryd.func11, Tryd.ntmps11
    go_upto_region 1 with (fail)
    rw [Hw1.out, Hg1.out]
    go_wp2
    go_ret
    exact ⟨rfl, B1.out⟩
  have HG : Hid (gdI t0 t1 t2 = false) := by
    rcases hp.out with h | h | h
    · have h : ¬ (0 ≤ f ∧ f < 16) := of_decide_eq_false h
      exfalso; omega
    · have h : ¬ (0 ≤ t ∧ t < 16) := of_decide_eq_false h
      exfalso; omega
    · exact h
  clear hp
  go_enter Tryd.func11, Tryd.ntmps11
  go_upto_region 1 with (fail)
  rw [Hw1.out, Hg1.out]
  go_wp2_with (go_at_call 20; refine (refGoodId_n _ _ _ _).mono ?_; rintro e w2 ⟨rfl, h2⟩; rw [HG.out])
  go_ret
  exact ⟨rfl, B1.out.trans (by rw [h2.out]; exact (alloc1 _ _).mono B1.out.size)⟩
end Go.Proofs.YtppibcambhmomaaDoor
