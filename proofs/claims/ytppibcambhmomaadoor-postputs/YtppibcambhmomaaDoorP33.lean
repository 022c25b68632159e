import Derived.Test.YtppibcambhmomaaDoorPp
import Derived.Test.YtppibcambhmomaaDoorP32
namespace Go.Proofs.YtppibcambhmomaaDoor
set_option maxRecDepth 20000
set_option linter.unusedVariables false
set_option linter.unusedSimpArgs false
theorem led_nil {X : List Cx} : led X = led [] ↔ X = [] := by
 constructor
 . intro h
   have := congrArg List.length h
   simp [led] at this
   exact this
 . intro h; rw [h]
theorem e1Z {fn : Nat} {L : List Nat} (hn : fn = L.length) : decide ((fn : Int) = 0) = decide (L = []) := decide_eq_decide.2 (by rw [hn]; exact ⟨fun h => List.length_eq_zero_iff.1 (by omega), fun h => by rw [h]; rfl⟩)
theorem e2Z {ln : Nat} {X : List Cx} (hl : ln = X.length) : decide ((ln : Int) = 0) = decide (led X = led []) := decide_eq_decide.2 (by rw [hl, led_nil]; exact ⟨fun h => List.length_eq_zero_iff.1 (by omega), fun h => by rw [h]; rfl⟩)
theorem goz_led {ln : Nat} {X : List Cx} (hl : ln = X.length) (h : ldT ln (led X) = false) (g : Bool) : goz g (ldT ln (led X)) (decide ((ln : Int) = 0)) = false := by
 cases g with
 | true => exact h
 | false =>
   show decide _ = false
   apply decide_eq_false
   intro h0
   have h0 : ln = 0 := by omega
   have hx : X = [] := List.length_eq_zero_iff.1 (by omega)
   subst hx
   subst h0
   cases h
theorem mf_led {x : Mc} {X : List Cx} (hl : x.ln = X.length) (h : ldT x.ln (led X) = false) : mf x (led X) = false := by
 unfold mf
 rw [goz_led hl h]
 simp
section
variable {f t t0 t1 t2 p0 p1 q0 q1 : Int} {la : Option Addr} {ln lc : Nat} {u0 u1 u2 : Int} {vk : Bool} {fa : Option Addr} {fn fc : Nat} {X : List Cx} {L : List Nat}
theorem mfk_1 (hl : ln = X.length) (hn : fn = L.length) (hF : ndT f = true) (hT : ndT t = true) (hI : gdI t0 t1 t2 = true) (hW : ldT ln (led X) = true) (hB : lgT p0 p1 = true) : mf ⟨1, f, t, t0, t1, t2, p0, p1, q0, q1, la, ln, lc, u0, u1, u2, vk, fa, fn, fc⟩ (led X) = smB ⟨1, f, t, t0, t1, t2, p0, p1, q0, q1, la, ln, lc, u0, u1, u2, vk, fa, fn, fc⟩ (led X) L ⟨1, f, t, t0, t1, t2, p0, p1, 0, 0, none, 0, 0, 0, 0, 0, false, none, 0, 0⟩ (led []) [] := by
 have e1 := e1Z hn
 have e2 := e2Z hl
 have e3 : decide ((fn : Int) <= 4096) = decide (fn <= 4096) := decide_eq_decide.2 (by omega)
 unfold mf smB
 simp only []
 rw [e1, e2, e3]
 simp [kM, gB, gA, gL, gP, gO, gF, goz, hF, hT, hI, hW, hB]
theorem mfk_2a (hl : ln = X.length) (hn : fn = L.length) (hF : ndT f = true) (hT : ndT t = true) (hI : gdI t0 t1 t2 = true) (hW : ldT ln (led X) = true) (hB : lgT p0 p1 = true) (h0 : q0 = 0) (h1 : q1 = 0) (h2 : ln = 0) : mf ⟨2, f, t, t0, t1, t2, p0, p1, q0, q1, la, ln, lc, u0, u1, u2, vk, fa, fn, fc⟩ (led X) = smB ⟨2, f, t, t0, t1, t2, p0, p1, q0, q1, la, ln, lc, u0, u1, u2, vk, fa, fn, fc⟩ (led X) L ⟨2, f, t, t0, t1, t2, p0, p1, q0, q1, la, ln, lc, 0, 0, 0, false, none, 0, 0⟩ (led X) [] := by
 subst h0 h1
 have e1 := e1Z hn
 have e2 := e2Z hl
 have e3 : decide ((fn : Int) <= 4096) = decide (fn <= 4096) := decide_eq_decide.2 (by omega)
 unfold mf smB
 simp only []
 have e4 : led X = led [] := led_nil.2 (List.length_eq_zero_iff.1 (by omega))
 rw [e1, e2, e3]
 simp [kM, gB, gA, gL, gP, gO, gF, goz, hF, hT, hI, hW, hB, h2, e4]
theorem mfk_2b (hl : ln = X.length) (hn : fn = L.length) (hF : ndT f = true) (hT : ndT t = true) (hI : gdI t0 t1 t2 = true) (hW : ldT ln (led X) = true) (hB : lgT p0 p1 = true) (h0 : ¬ (q0 = 0 /\ q1 = 0)) (hA : lgT q0 q1 = true) : mf ⟨2, f, t, t0, t1, t2, p0, p1, q0, q1, la, ln, lc, u0, u1, u2, vk, fa, fn, fc⟩ (led X) = smB ⟨2, f, t, t0, t1, t2, p0, p1, q0, q1, la, ln, lc, u0, u1, u2, vk, fa, fn, fc⟩ (led X) L ⟨2, f, t, t0, t1, t2, p0, p1, q0, q1, la, ln, lc, 0, 0, 0, false, none, 0, 0⟩ (led X) [] := by
 have e1 := e1Z hn
 have e2 := e2Z hl
 have e3 : decide ((fn : Int) <= 4096) = decide (fn <= 4096) := decide_eq_decide.2 (by omega)
 unfold mf smB
 simp only []
 rw [e1, e2, e3]
 simp [kM, gB, gA, gL, gP, gO, gF, goz, hF, hT, hI, hW, hB, h0, hA]
theorem mfk_3 (hl : ln = X.length) (hn : fn = L.length) (hF : ndT f = true) (hT : ndT t = true) (hI : gdI t0 t1 t2 = true) (hW : ldT ln (led X) = true) (hB : lgT p0 p1 = true) : mf ⟨3, f, t, t0, t1, t2, p0, p1, q0, q1, la, ln, lc, u0, u1, u2, vk, fa, fn, fc⟩ (led X) = smB ⟨3, f, t, t0, t1, t2, p0, p1, q0, q1, la, ln, lc, u0, u1, u2, vk, fa, fn, fc⟩ (led X) L ⟨3, f, t, t0, t1, t2, p0, p1, 0, 0, la, ln, lc, 0, 0, 0, false, none, 0, 0⟩ (led X) [] := by
 have e1 := e1Z hn
 have e2 := e2Z hl
 have e3 : decide ((fn : Int) <= 4096) = decide (fn <= 4096) := decide_eq_decide.2 (by omega)
 unfold mf smB
 simp only []
 rw [e1, e2, e3]
 simp [kM, gB, gA, gL, gP, gO, gF, goz, hF, hT, hI, hW, hB]
theorem mfk_4 (hl : ln = X.length) (hn : fn = L.length) (hF : ndT f = true) (hT : ndT t = true) (hI : gdI t0 t1 t2 = true) (hW : ldT ln (led X) = true) (hB : lgT p0 p1 = true) : mf ⟨4, f, t, t0, t1, t2, p0, p1, q0, q1, la, ln, lc, u0, u1, u2, vk, fa, fn, fc⟩ (led X) = smB ⟨4, f, t, t0, t1, t2, p0, p1, q0, q1, la, ln, lc, u0, u1, u2, vk, fa, fn, fc⟩ (led X) L ⟨4, f, t, t0, t1, t2, p0, p1, 0, 0, none, 0, 0, 0, 0, 0, false, none, 0, 0⟩ (led []) [] := by
 have e1 := e1Z hn
 have e2 := e2Z hl
 have e3 : decide ((fn : Int) <= 4096) = decide (fn <= 4096) := decide_eq_decide.2 (by omega)
 unfold mf smB
 simp only []
 rw [e1, e2, e3]
 simp [kM, gB, gA, gL, gP, gO, gF, goz, hF, hT, hI, hW, hB]
theorem mfk_5 (hl : ln = X.length) (hn : fn = L.length) (hF : ndT f = true) (hT : ndT t = true) (hI : gdI t0 t1 t2 = true) (hW : ldT ln (led X) = true) (hB : lgT p0 p1 = true) (hA : lgT q0 q1 = true) : mf ⟨5, f, t, t0, t1, t2, p0, p1, q0, q1, la, ln, lc, u0, u1, u2, vk, fa, fn, fc⟩ (led X) = smB ⟨5, f, t, t0, t1, t2, p0, p1, q0, q1, la, ln, lc, u0, u1, u2, vk, fa, fn, fc⟩ (led X) L ⟨5, f, t, t0, t1, t2, p0, p1, q0, q1, none, 0, 0, 0, 0, 0, false, none, 0, 0⟩ (led []) [] := by
 have e1 := e1Z hn
 have e2 := e2Z hl
 have e3 : decide ((fn : Int) <= 4096) = decide (fn <= 4096) := decide_eq_decide.2 (by omega)
 unfold mf smB
 simp only []
 rw [e1, e2, e3]
 simp [kM, gB, gA, gL, gP, gO, gF, goz, hF, hT, hI, hW, hB, hA]
theorem mfk_6 (hl : ln = X.length) (hn : fn = L.length) (hF : ndT f = true) (hT : ndT t = true) (hI : gdI t0 t1 t2 = true) (hW : ldT ln (led X) = true) (hB : gdI u0 u1 u2 = true) (hR : fn <= 4096) : mf ⟨6, f, t, t0, t1, t2, p0, p1, q0, q1, la, ln, lc, u0, u1, u2, vk, fa, fn, fc⟩ (led X) = smB ⟨6, f, t, t0, t1, t2, p0, p1, q0, q1, la, ln, lc, u0, u1, u2, vk, fa, fn, fc⟩ (led X) L ⟨6, f, t, t0, t1, t2, 0, 0, 0, 0, none, 0, 0, u0, u1, u2, false, fa, fn, fc⟩ (led []) L := by
 have e1 := e1Z hn
 have e2 := e2Z hl
 have e3 : decide ((fn : Int) <= 4096) = decide (fn <= 4096) := decide_eq_decide.2 (by omega)
 unfold mf smB
 simp only []
 rw [e1, e2, e3]
 simp [kM, gB, gA, gL, gP, gO, gF, goz, hF, hT, hI, hW, hB, hR]
theorem mfk_7 (hl : ln = X.length) (hn : fn = L.length) (hF : ndT f = true) (hT : ndT t = true) (hI : gdI t0 t1 t2 = true) (hW : ldT ln (led X) = true) (hB : gdI u0 u1 u2 = true) (hR : fn <= 4096) : mf ⟨7, f, t, t0, t1, t2, p0, p1, q0, q1, la, ln, lc, u0, u1, u2, vk, fa, fn, fc⟩ (led X) = smB ⟨7, f, t, t0, t1, t2, p0, p1, q0, q1, la, ln, lc, u0, u1, u2, vk, fa, fn, fc⟩ (led X) L ⟨7, f, t, t0, t1, t2, 0, 0, 0, 0, none, 0, 0, u0, u1, u2, vk, none, 0, 0⟩ (led []) [] := by
 have e1 := e1Z hn
 have e2 := e2Z hl
 have e3 : decide ((fn : Int) <= 4096) = decide (fn <= 4096) := decide_eq_decide.2 (by omega)
 unfold mf smB
 simp only []
 rw [e1, e2, e3]
 simp [kM, gB, gA, gL, gP, gO, gF, goz, hF, hT, hI, hW, hB, hR]
theorem mfk_8 (hl : ln = X.length) (hn : fn = L.length) (hF : ndT f = true) (hT : ndT t = true) (hI : gdI t0 t1 t2 = true) (hW : ldT ln (led X) = true) (hB : gdI u0 u1 u2 = true) (hR : fn <= 4096) : mf ⟨8, f, t, t0, t1, t2, p0, p1, q0, q1, la, ln, lc, u0, u1, u2, vk, fa, fn, fc⟩ (led X) = smB ⟨8, f, t, t0, t1, t2, p0, p1, q0, q1, la, ln, lc, u0, u1, u2, vk, fa, fn, fc⟩ (led X) L ⟨8, f, t, t0, t1, t2, 0, 0, 0, 0, none, 0, 0, u0, u1, u2, false, none, 0, 0⟩ (led []) [] := by
 have e1 := e1Z hn
 have e2 := e2Z hl
 have e3 : decide ((fn : Int) <= 4096) = decide (fn <= 4096) := decide_eq_decide.2 (by omega)
 unfold mf smB
 simp only []
 rw [e1, e2, e3]
 simp [kM, gB, gA, gL, gP, gO, gF, goz, hF, hT, hI, hW, hB, hR]
theorem mfk_9a (hl : ln = X.length) (hn : fn = L.length) (hF : ndT f = true) (hT : ndT t = true) (hI : gdI t0 t1 t2 = true) (hW : ldT ln (led X) = true) (hB : gdI u0 u1 u2 = true) (hR : fn <= 4096) (h0 : vk = true) : mf ⟨9, f, t, t0, t1, t2, p0, p1, q0, q1, la, ln, lc, u0, u1, u2, vk, fa, fn, fc⟩ (led X) = smB ⟨9, f, t, t0, t1, t2, p0, p1, q0, q1, la, ln, lc, u0, u1, u2, vk, fa, fn, fc⟩ (led X) L ⟨9, f, t, t0, t1, t2, 0, 0, 0, 0, none, 0, 0, u0, u1, u2, vk, fa, fn, fc⟩ (led []) L := by
 subst h0
 have e1 := e1Z hn
 have e2 := e2Z hl
 have e3 : decide ((fn : Int) <= 4096) = decide (fn <= 4096) := decide_eq_decide.2 (by omega)
 unfold mf smB
 simp only []
 rw [e1, e2, e3]
 simp [kM, gB, gA, gL, gP, gO, gF, goz, hF, hT, hI, hW, hB, hR]
theorem mfk_9b (hl : ln = X.length) (hn : fn = L.length) (hF : ndT f = true) (hT : ndT t = true) (hI : gdI t0 t1 t2 = true) (hW : ldT ln (led X) = true) (hB : gdI u0 u1 u2 = true) (hR : fn <= 4096) (h0 : vk = false) (h1 : fn = 0) : mf ⟨9, f, t, t0, t1, t2, p0, p1, q0, q1, la, ln, lc, u0, u1, u2, vk, fa, fn, fc⟩ (led X) = smB ⟨9, f, t, t0, t1, t2, p0, p1, q0, q1, la, ln, lc, u0, u1, u2, vk, fa, fn, fc⟩ (led X) L ⟨9, f, t, t0, t1, t2, 0, 0, 0, 0, none, 0, 0, u0, u1, u2, vk, fa, fn, fc⟩ (led []) L := by
 subst h0
 have e1 := e1Z hn
 have e2 := e2Z hl
 have e3 : decide ((fn : Int) <= 4096) = decide (fn <= 4096) := decide_eq_decide.2 (by omega)
 unfold mf smB
 simp only []
 have e4 : L = [] := List.length_eq_zero_iff.1 (by omega)
 rw [e1, e2, e3]
 simp [kM, gB, gA, gL, gP, gO, gF, goz, hF, hT, hI, hW, hB, hR, h1, e4]
end
end Go.Proofs.YtppibcambhmomaaDoor
