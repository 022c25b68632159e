/- Parse: for all targets. -/
import Derived.Test.YtalagagnolhppaaDoorUi
import Derived.Test.YtalagagnolhppaaDoorVs
import Derived.Test.YtalagagnolhppaaDoorCe
namespace Go.Proofs.YtalagagnolhppaaDoor
open Go.ChangeShapes Go.WideShapes Go.ChangeAt Go.RowKit Go.Shelf
set_option maxRecDepth 20000
set_option linter.unusedVariables false
set_option linter.unusedSimpArgs false
attribute [local go_sem] Oper.semAt_some
theorem run_cell {w : World} {g : Nat} {v : Value} (ty : TypeId) (hd : ∀ W, (isAgg ty).run Tryd.prog W = .ok false W) (hc : w.cell? ⟨g, 0, none⟩ = some v) : (loadVar ty ⟨g, 0, none⟩).run Tryd.prog w = .ok v w := by
  simp [go_sem, hd, hc]
theorem res_uri {fn : Func} (hf : fn.results = #[.cell 2 25, .cell 3 27]) {tmps : Array Value} {w : World} {g2 g3 : Nat} {A : Array Value} {v : Value} (h2 : tmps.getD 2 undef = .pointer (some ⟨g2, 0, none⟩)) (h3 : tmps.getD 3 undef = .pointer (some ⟨g3, 0, none⟩)) (hr : w.heap[g2]? = some (.cells A 25 (0, 0))) (hA : (Tryd.prog.info? 25).map (·.size) = some A.size)
    (hc : w.cell? ⟨g3, 0, none⟩ = some v) : (results fn tmps).run Tryd.prog w = .ok (.tuple #[.agg A, v]) w := by
  obtain ⟨d, u1, u2⟩ := und25
  have h2' : tmps[2]?.getD undef = .pointer (some ⟨g2, 0, none⟩) := by simpa using h2
  have h3' : tmps[3]?.getD undef = .pointer (some ⟨g3, 0, none⟩) := by simpa using h3
  have e := run_loadVar_row (P := Tryd.prog) w g2 25 25 A (0, 0) d hr u1 (by cases d <;> simp_all [TypeDesc.isRow]) hA
  have e3 := run_cell (w := w) 27 Tryd.isAgg27 hc
  simp [results, hf, h2', h3', asAddr, e, e3]
structure Pv (w W : World) (g2 g3 : Nat) (A : Array Value) (v : Value) : Prop where
  x2 : Bx w W g2 25 A
  x3 : Bx w W g3 27 #[v]
  ne : g2 ≠ g3
theorem Pv.below {w W W' : World} {g2 g3 : Nat} {A : Array Value} {v : Value} (h : Pv w W g2 g3 A v) (hb : Below W.heap.size W W') : Pv w W' g2 g3 A v := ⟨h.x2.below hb, h.x3.below hb, h.ne⟩
theorem Pv.set2 {w W : World} {g2 g3 : Nat} {A : Array Value} {v : Value} (h : Pv w W g2 g3 A v) (A' : Array Value) : Pv w (W.setRow g2 A') g2 g3 A' v := ⟨h.x2.set A', h.x3.other h.x2 h.ne.symm A', h.ne⟩
theorem Pv.set3 {w W : World} {g2 g3 : Nat} {A : Array Value} {v : Value} (h : Pv w W g2 g3 A v) (v' : Value) : Pv w (W.setCell ⟨g3, 0, none⟩ v') g2 g3 A v' := by
  refine ⟨⟨(Below.heap_setCell _ _ _ _ h.ne).trans h.x2.row, ?_, h.x2.ge⟩, ⟨?_, ?_, h.x3.ge⟩, h.ne⟩
  · exact h.x3.bel.trans ⟨rfl, rfl, rfl, by simp [World.setCell], fun q hq => Below.heap_setCell _ _ _ _ (show q ≠ g3 by have := h.x3.ge; omega)⟩
  · rw [set_blk h.x3.row]
    rfl
  · exact h.x3.bel.trans ⟨rfl, rfl, rfl, by simp [World.setCell], fun q hq => Below.heap_setCell _ _ _ _ (show q ≠ g3 by have := h.x3.ge; omega)⟩
theorem Pv.c3 {w W : World} {g2 g3 : Nat} {A : Array Value} {v : Value} (h : Pv w W g2 g3 A v) : W.cell? ⟨g3, 0, none⟩ = some v ∧ W.frozen? ⟨g3, 0, none⟩ = false := by
  constructor <;> simp [World.cell?, World.frozen?, h.x3.row]
theorem Bx.abide {w W W' : World} {g : Nat} {ty : TypeId} {A : Array Value} {row : Option Nat} (h : Bx w W g ty A) (hg : W.grownBy W' row) (hr : ∀ r, row = some r → w.heap.size ≤ r ∧ ∃ o : Obj, W.heap[r]? = some o ∧ o.isCells = false) : Bx w W' g ty A := by
  refine ⟨?_, ?_, h.ge⟩
  · refine (hg.block g h.lt (fun e => ?_)).trans h.row
    obtain ⟨_, o, h1, h2⟩ := hr g e.symm
    rw [h.row] at h1
    cases h1
    cases h2
  · exact h.bel.grown hg h.bel.size (fun r e => (hr r e).1)
theorem Pv.abide {w W W' : World} {g2 g3 : Nat} {A : Array Value} {v : Value} {row : Option Nat} (h : Pv w W g2 g3 A v) (hg : W.grownBy W' row) (hr : ∀ r, row = some r → w.heap.size ≤ r ∧ ∃ o : Obj, W.heap[r]? = some o ∧ o.isCells = false) : Pv w W' g2 g3 A v := ⟨h.x2.abide hg hr, h.x3.abide hg hr, h.ne⟩
theorem rw_abide {W W' : World} {B : Nat} {a : Option Addr} {n c : Nat} {fs : List Fl} {row : Option Nat} (h : Rw W B 39 EF a n c fs) (hg : W.grownBy W' row) (hr : ∀ r, row = some r → ∃ o : Obj, W.heap[r]? = some o ∧ o.isCells = false) : Rw W' B 39 EF a n c fs := by
  refine h.keep1 (fun q e => ?_)
  obtain ⟨cur, h1, _⟩ := h.blk e
  refine hg.block q (h.lt e).2 (fun e2 => ?_)
  obtain ⟨o, h2, h3⟩ := hr q e2.symm
  rw [h1] at h2
  cases h2
  cases h3
theorem info39 : (Tryd.prog.info? 39).map (fun i => (i.zero, i.size, i.bytes)) = some (some (.agg #[.string ⟨#[]⟩, .string ⟨#[]⟩]), 2, 32) := by kernel_rfl
/- the uri that is made, and the two results -/
structure Pi (w W : World) (g2 g3 g8 : Nat) (p : ByteArray) (a : Option Addr) (n c : Nat) (fs : List Fl) : Prop where
  pv : Pv w W g2 g3 #[.string { data := #[] }, .slice none 0 0] .nilIface
  b : Bx w W g8 25 #[.string p, .slice a n c]
  r : Rw W w.heap.size 39 EF a n c fs
  ne2 : g8 ≠ g2
  ne3 : g8 ≠ g3
section
variable {w W W' : World} {g2 g3 g8 : Nat} {p : ByteArray} {a : Option Addr} {n c : Nat} {fs : List Fl}
theorem Pi.below (h : Pi w W g2 g3 g8 p a n c fs) (hb : Below W.heap.size W W') : Pi w W' g2 g3 g8 p a n c fs := ⟨h.pv.below hb, h.b.below hb, h.r.below hb, h.ne2, h.ne3⟩
theorem Pi.abide {row : Option Nat} (h : Pi w W g2 g3 g8 p a n c fs) (hg : W.grownBy W' row) (hr : ∀ r, row = some r → w.heap.size ≤ r ∧ ∃ o : Obj, W.heap[r]? = some o ∧ o.isCells = false) : Pi w W' g2 g3 g8 p a n c fs := ⟨h.pv.abide hg hr, h.b.abide hg hr, rw_abide h.r hg (fun r e => (hr r e).2), h.ne2, h.ne3⟩
theorem Pi.cs (h : Pi w W g2 g3 g8 p a n c fs) : W.cell? ⟨g8, 0, none⟩ = some (.string p) ∧ W.cell? ⟨g8, 1, none⟩ = some (.slice a n c) ∧ W.frozen? ⟨g8, 1, none⟩ = false := by
  refine ⟨?_, ?_, ?_⟩ <;> simp [World.cell?, World.frozen?, h.b.row]
theorem Bx.grown {g : Nat} {ty : TypeId} {A : Array Value} {row : Option Nat} (h : Bx w W g ty A) (hg : W.grownBy W' row) (hr : ∀ q, row = some q → w.heap.size ≤ q) (hn : some g ≠ row) : Bx w W' g ty A :=
  ⟨(hg.block g h.lt hn).trans h.row, h.bel.grown hg h.bel.size hr, h.ge⟩
theorem Bx.setC {g k : Nat} {ty : TypeId} {A : Array Value} (h : Bx w W g ty A) (hk : w.heap.size ≤ k) (ne : g ≠ k) (j : Nat) (v : Value) : Bx w (W.setCell ⟨k, j, none⟩ v) g ty A := by
  refine ⟨(Below.heap_setCell _ _ _ _ ne).trans h.row, ?_, h.ge⟩
  exact h.bel.trans ⟨rfl, rfl, rfl, by simp [World.setCell], fun q hq => Below.heap_setCell _ _ _ _ (show q ≠ k by omega)⟩
theorem Pi.not (h : Pi w W g2 g3 g8 p a n c fs) {g : Nat} {A : Array Value} {ty : TypeId} (hb : Bx w W g ty A) (ht : ty ≠ 39) : some g ≠ blkOf a := fun e => by
  obtain ⟨cur, h1, _⟩ := h.r.blk e.symm
  rw [hb.row] at h1
  simp only [Option.some.injEq, Obj.cells.injEq] at h1
  exact ht h1.2.1
theorem Pi.app (h : Pi w W g2 g3 g8 p a n c fs) (f : Fl) (hn : n ≤ 4294967296) :
    ∃ a' c' W3, (Builtin.append_ #[23, 23] 23 #[.slice a n c, .slice (some ⟨W.heap.size, 0, none⟩) 1 1]).run Tryd.prog (W.alloc (.cells #[.string f.1, .string f.2] 39)) = .ok (.slice a' (n + 1) c') W3 ∧
      Pi w (W3.setCell ⟨g8, 1, none⟩ (.slice a' (n + 1) c')) g2 g3 g8 p a' (n + 1) c' (fs ++ [f]) ∧ W3.cell? ⟨g8, 1, none⟩ = some (.slice a n c) ∧ W3.frozen? ⟨g8, 1, none⟩ = false ∧ KeepsOthers W (W3.setCell ⟨g8, 1, none⟩ (.slice a' (n + 1) c')) := by
  have h2 := h.below (alloc1 W (.cells #[.string f.1, .string f.2] 39))
  have hp : (W.alloc (.cells #[.string f.1, .string f.2] 39)).heap[W.heap.size]? = some (.cells (EF.e f).toArray 39 (0, 0)) := heap_alloc_new W (.cells #[.string f.1, .string f.2] 39)
  have ko := KeepsOthers.alloc W (.cells #[.string f.1, .string f.2] 39)
  obtain ⟨W2, hW2⟩ : ∃ W2, W.alloc (.cells #[.string f.1, .string f.2] 39) = W2 := ⟨_, rfl⟩
  rw [hW2] at h2 hp ko ⊢
  obtain ⟨a', c', W3, hrun, hown, hgr, hnew⟩ := app_one (t := 23) (e := 39) (z := 2) Tryd.underlying23 info39 rfl (by decide) h2.r.row hp rfl (EF.one f) (by omega) (by simp only [maxLen]; omega) h2.b.bel.size
  have hr : ∀ q, blkOf a = some q → w.heap.size ≤ q := fun q e => (h2.r.lt e).1
  have k8 := h2.b.grown hgr hr (h2.not h2.b (by decide))
  have k2 := h2.pv.x2.grown hgr hr (h2.not h2.pv.x2 (by decide))
  have k3 := h2.pv.x3.grown hgr hr (h2.not h2.pv.x3 (by decide))
  have r3 : Rw W3 w.heap.size 39 EF a' (n + 1) c' (fs ++ [f]) := ⟨by rw [EF.fl_app, EF.fl_one]; exact hown, by decide⟩
  refine ⟨a', c', W3, hrun, ⟨⟨k2.setC k8.ge h.ne2.symm _ _, k3.setC k8.ge h.ne3.symm _ _, h.pv.ne⟩, ⟨?_, ?_, k8.ge⟩, ?_, h.ne2, h.ne3⟩, ?_, ?_, ?_⟩
  · rw [set_blk k8.row]
    rfl
  · exact k8.bel.trans ⟨rfl, rfl, rfl, by simp [World.setCell], fun q hq => Below.heap_setCell _ _ _ _ (show q ≠ g8 by have := k8.ge; omega)⟩
  · refine r3.keep1 (fun q e => Below.heap_setCell _ _ _ _ ?_)
    rintro rfl
    obtain ⟨cur, e1, _⟩ := r3.blk e
    rw [k8.row] at e1
    cases e1
  · simp [World.cell?, k8.row]
  · simp [World.frozen?, k8.row]
  · refine ko.trans ((KeepsOthers.of_grownBy hgr (fun j o e ho => ?_)).trans (KeepsOthers.setCell _ _ _))
    obtain ⟨cur, h1, _⟩ := h2.r.blk e
    rw [h1] at ho
    cases ho
    rfl
end
theorem ko_below {W W' : World} (h : Below W.heap.size W W') : KeepsOthers W W' := ⟨h.size, fun k o hk _ => (h.block k (Array.getElem?_eq_some_iff.1 hk).1).trans hk⟩
theorem ko_setRow {W : World} {g : Nat} {ty : TypeId} {A : Array Value} {w : World} (h : Bx w W g ty A) (A' : Array Value) : KeepsOthers W (W.setRow g A') := ⟨by simp [World.setRow], fun k o hk ho => by
  by_cases e : k = g
  · subst e
    rw [h.row] at hk
    cases hk
    cases ho
  · exact (setRow_other _ _ _ _ e).trans hk⟩
def UEnd (w w' : World) (E : Nat → Addr) : Option (ByteArray × List Fl) → Ending → Prop
  | none, e => e = .returned (.tuple #[.agg #[.string { data := #[] }, .slice none 0 0], er (E 0)])
  | some f, e => ∃ a n c, e = .returned (.tuple #[.agg #[.string f.1, .slice a n c], .nilIface]) ∧ Rw w' w.heap.size 39 EF a n c f.2
theorem pfx_n (s : ByteArray) (w : World) : Calls Tryd.prog 20 #[.string s, .string { data := #[47] }] w fun e w' => e = .returned (.bool (Lib.hasPrefix s.data.toList [47])) ∧ w' = w := Tryd.strings_HasPrefix s ⟨#[47]⟩ w
set_option maxHeartbeats 8000000 in
theorem parseU_n (t : ByteArray) (hs : t.size ≤ 4294967296) {w : World} {M : Nat → Prop} {E : Nat → Addr} (hE : Hid (Sent w M E)) (M0 : M 0) : Calls Tryd.prog 9 #[.string t] w fun e w' => UEnd w w' E (prsU t) e ∧ Hid (Below w.heap.size w w') := by
  obtain ⟨g2, G2⟩ : ∃ q, Hid (w.heap.size = q) := ⟨_, rfl⟩
  obtain ⟨g3, G3⟩ : ∃ q, Hid (g2 + 1 = q) := ⟨_, rfl⟩
  obtain ⟨w0, H0⟩ : ∃ x, Hid ((w.alloc (.cells #[.string { data := #[] }, .slice none 0 0] 25)).alloc (.cells #[.nilIface] 27) = x) := ⟨_, rfl⟩
  have P0 : Hid (Pv w w0 g2 g3 #[.string { data := #[] }, .slice none 0 0] .nilIface) := by
    rw [← H0.out, ← G3.out, ← G2.out]
    have h1 := Bx.new w w 25 #[.string { data := #[] }, .slice none 0 0] (Below.refl _ _)
    have h2 := Bx.new w (w.alloc (.cells #[.string { data := #[] }, .slice none 0 0] 25)) 27 #[.nilIface] h1.bel
    have e : (w.alloc (.cells #[.string { data := #[] }, .slice none 0 0] 25)).heap.size = w.heap.size + 1 := by simp
    rw [e] at h2
    exact ⟨h1.below (by rw [e]; exact (Below.refl _ _).alloc (by simp) _), h2, by omega⟩
  obtain ⟨bp, HBP⟩ : ∃ q, Hid (Lib.hasPrefix t.data.toList [47] = q) := ⟨_, rfl⟩
  have C1 : Hid (∀ w, Calls Tryd.prog 21 #[.string t, .string ⟨#[63]⟩] w fun e w' => (∃ b, e = .returned (.tuple #[.string (ctA 63 t), .string (ctB 63 t), .bool b])) ∧ Hid (Below w.heap.size w w')) := fun w => cut_n t 63 (by omega) w
  have za := ctA_size 63 t
  have zb := ctB_size 63 t
  have UE : Hid (prsU t = if bp then match dcS (ctA 63 t) with | none => none | some p => match prL (pcs (ctB 63 t)) with | none => none | some fs => some (p, fs) else none) := (by unfold prsU; rw [HBP.out]; rfl : prsU t = _)
  obtain ⟨pa, HPA⟩ : ∃ q, Hid (ctA 63 t = q) := ⟨_, rfl⟩
  obtain ⟨qu, HQU⟩ : ∃ q, Hid (ctB 63 t = q) := ⟨_, rfl⟩
  rw [HPA.out] at C1 za UE
  rw [HQU.out] at C1 zb UE
  obtain ⟨p, po, PE, PO⟩ := dec_any (dcS pa)
  cases bp with
  | false =>
    have EV : Hid (prsU t = none) := UE.out
    go_enter Tryd.func9, Tryd.ntmps9
    go_upto_region 1 with (fail)
    rw [show w.heap.size = g2 from G2.out, G3.out, H0.out]
    go_upto_region 2 with (go_at_call 20; refine (pfx_n t _).mono ?_; rintro e w1 ⟨rfl, h1⟩; rw [h1, HBP.out]; clear h1)
    have PD : Hid (Pv w w0.drew g2 g3 #[.string { data := #[] }, .slice none 0 0] .nilIface) := P0.out.below (Below.refl _ _).drew
    have PS : Hid (Pv w (w0.drew.setRow g2 #[.string { data := #[] }, .slice none 0 0]) g2 g3 #[.string { data := #[] }, .slice none 0 0] .nilIface) := PD.out.set2 _
    have PT : Hid (Pv w ((w0.drew.setRow g2 #[.string { data := #[] }, .slice none 0 0]).setCell ⟨g3, 0, none⟩ (er (E 0))) g2 g3 #[.string { data := #[] }, .slice none 0 0] (er (E 0))) := PS.out.set3 _
    have c0 : ∀ {W A v}, Pv w W g2 g3 A v → W.cell? ⟨0, 0, none⟩ = some (er (E 0)) := fun h => (hE.out.below h.x2.bel).c 0 M0
    have EK : Hid (w0.drew.cell? ⟨0, 0, none⟩ = some (er (E 0)) ∧ (w0.drew.setRow g2 #[.string { data := #[] }, .slice none 0 0]).cell? ⟨0, 0, none⟩ = some (er (E 0)) ∧ ((w0.drew.setRow g2 #[.string { data := #[] }, .slice none 0 0]).setCell ⟨g3, 0, none⟩ (er (E 0))).cell? ⟨0, 0, none⟩ = some (er (E 0))) := ⟨c0 PD.out, c0 PS.out, c0 PT.out⟩
    clear c0
    obtain ⟨k3, f3⟩ := PS.out.c3
    refine wp_region_seq (C := fun W => W.cell? ⟨0, 0, none⟩ = some (er (E 0))) [(0, false), (1, false), (2, true), (3, true)] (by kernel_rfl) (by kernel_rfl) (EK.out.1) ?_
    refine seq_take (o := { dst := some 15, op := Go.Op.build 25 #[], type := 25, pos := "uri.go:15", after := #[], guard := none }) (v := .agg #[.string { data := #[] }, .slice none 0 0]) (by kernel_rfl) (fun _ _ _ h => h) (Or.inl ⟨by kernel_rfl, fun W hW => by go_simp⟩) ?_
    simp only [List.getElem_toArray, List.getElem_cons_zero, List.getElem_cons_succ, Act.put, List.setIfInBounds_toArray, List.set_cons_zero, List.set_cons_succ]
    refine seq_take (o := { dst := some 16, op := Go.Op.load 27 (Go.Operand.global 0), type := 27, pos := "uri.go:15", after := #[], guard := none }) (v := er (E 0)) (by kernel_rfl) (fun _ _ _ h => h) (Or.inl ⟨by kernel_rfl, fun W hW => by go_simp⟩) ?_
    simp only [List.getElem_toArray, List.getElem_cons_zero, List.getElem_cons_succ, Act.put, List.setIfInBounds_toArray, List.set_cons_zero, List.set_cons_succ]
    refine seq_call (o := { dst := none, op := Go.Op.store 25 (Go.Operand.tmp 2) (Go.Operand.tmp 15), type := 0, pos := "uri.go:15", after := #[{ on := 0, ground := Go.Ground.data }, { on := 0, ground := Go.Ground.phase }, { on := 1, ground := Go.Ground.textOnly Go.Departure.inlinedCapture }], guard := none }) (by kernel_rfl) (fun KK hK => ?_)
    rw [if_pos (by kernel_rfl)]
    refine wp_store_row 25 (.tmp 2) (.tmp 15) (by rfl) g2 #[.string { data := #[] }, .slice none 0 0] (by rfl) (by rfl) 25 _ PD.out.x2.row (sz25 _ _) (by rfl) (one25 _ _ _ _) ?_
    refine hK.out _ _ (EK.out.2.1) ?_
    clear hK KK
    try simp only [List.getElem_toArray, List.getElem_cons_zero, List.getElem_cons_succ, Act.put, List.setIfInBounds_toArray, List.set_cons_zero, List.set_cons_succ]
    refine seq_call (o := { dst := none, op := Go.Op.store 27 (Go.Operand.tmp 3) (Go.Operand.tmp 16), type := 0, pos := "uri.go:15", after := #[{ on := 1, ground := Go.Ground.data }, { on := 2, ground := Go.Ground.chain }, { on := 0, ground := Go.Ground.phase }, { on := 1, ground := Go.Ground.phase }, { on := 2, ground := Go.Ground.phase }], guard := none }) (by kernel_rfl) (fun KK hK => ?_)
    rw [if_pos (by kernel_rfl)]
    go_simp
    refine hK.out _ _ (EK.out.2.2) ?_
    clear hK KK
    try simp only [List.getElem_toArray, List.getElem_cons_zero, List.getElem_cons_succ, Act.put, List.setIfInBounds_toArray, List.set_cons_zero, List.set_cons_succ]
    show (Exit.then _ _) .normal _ _
    go_wp2
    try simp only [Exit.inBlock, Exit.then]
    refine bodyPost_ret (res_uri (by rfl) (by rfl) (by rfl) PT.out.x2.row (sz25 _ _) PT.out.c3.1) rfl ?_
    rw [EV.out]
    exact ⟨rfl, PT.out.x2.bel⟩
  | true =>
    cases po with
    | false =>
      have EV : Hid (prsU t = none) := by
        rcases PO.out with ⟨h, _⟩ | ⟨_, h, _⟩
        · cases h
        · exact (by rw [UE.out, h]; rfl : prsU t = none)
      go_enter Tryd.func9, Tryd.ntmps9
      go_upto_region 1 with (fail)
      rw [show w.heap.size = g2 from G2.out, G3.out, H0.out]
      go_upto_region 4 with (first
        | (go_at_call 20; refine (pfx_n t _).mono ?_; rintro e w1 ⟨rfl, h1⟩; rw [h1, HBP.out]; clear h1)
        | (go_at_call 21; refine (C1.out _).mono ?_; rintro e w2 ⟨⟨bb, rfl⟩, B2⟩))
      go_upto_region 6 with (go_at_call 22; refine (decode_n pa (by omega) _).mono ?_; rintro e w3 ⟨h3, B3⟩; obtain rfl := PE.out e h3; clear h3)
      have P3 : Hid (Pv w w3 g2 g3 #[.string { data := #[] }, .slice none 0 0] .nilIface) := (P0.out.below B2.out).below B3.out
      have PD : Hid (Pv w w3.drew g2 g3 #[.string { data := #[] }, .slice none 0 0] .nilIface) := P3.out.below (Below.refl _ _).drew
      have PS : Hid (Pv w (w3.drew.setRow g2 #[.string { data := #[] }, .slice none 0 0]) g2 g3 #[.string { data := #[] }, .slice none 0 0] .nilIface) := PD.out.set2 _
      have PT : Hid (Pv w ((w3.drew.setRow g2 #[.string { data := #[] }, .slice none 0 0]).setCell ⟨g3, 0, none⟩ (er (E 0))) g2 g3 #[.string { data := #[] }, .slice none 0 0] (er (E 0))) := PS.out.set3 _
      have c0 : ∀ {W A v}, Pv w W g2 g3 A v → W.cell? ⟨0, 0, none⟩ = some (er (E 0)) := fun h => (hE.out.below h.x2.bel).c 0 M0
      have EK : Hid (w3.drew.cell? ⟨0, 0, none⟩ = some (er (E 0)) ∧ (w3.drew.setRow g2 #[.string { data := #[] }, .slice none 0 0]).cell? ⟨0, 0, none⟩ = some (er (E 0)) ∧ ((w3.drew.setRow g2 #[.string { data := #[] }, .slice none 0 0]).setCell ⟨g3, 0, none⟩ (er (E 0))).cell? ⟨0, 0, none⟩ = some (er (E 0))) := ⟨c0 PD.out, c0 PS.out, c0 PT.out⟩
      clear c0
      obtain ⟨k3, f3⟩ := PS.out.c3
      refine wp_region_seq (C := fun W => W.cell? ⟨0, 0, none⟩ = some (er (E 0))) [(0, false), (1, false), (2, true), (3, true)] (by kernel_rfl) (by kernel_rfl) (EK.out.1) ?_
      refine seq_take (o := { dst := some 30, op := Go.Op.build 25 #[], type := 25, pos := "uri.go:21", after := #[], guard := none }) (v := .agg #[.string { data := #[] }, .slice none 0 0]) (by kernel_rfl) (fun _ _ _ h => h) (Or.inl ⟨by kernel_rfl, fun W hW => by go_simp⟩) ?_
      simp only [List.getElem_toArray, List.getElem_cons_zero, List.getElem_cons_succ, Act.put, List.setIfInBounds_toArray, List.set_cons_zero, List.set_cons_succ]
      refine seq_take (o := { dst := some 31, op := Go.Op.load 27 (Go.Operand.global 0), type := 27, pos := "uri.go:21", after := #[], guard := none }) (v := er (E 0)) (by kernel_rfl) (fun _ _ _ h => h) (Or.inl ⟨by kernel_rfl, fun W hW => by go_simp⟩) ?_
      simp only [List.getElem_toArray, List.getElem_cons_zero, List.getElem_cons_succ, Act.put, List.setIfInBounds_toArray, List.set_cons_zero, List.set_cons_succ]
      refine seq_call (o := { dst := none, op := Go.Op.store 25 (Go.Operand.tmp 2) (Go.Operand.tmp 30), type := 0, pos := "uri.go:21", after := #[{ on := 0, ground := Go.Ground.data }, { on := 0, ground := Go.Ground.phase }, { on := 1, ground := Go.Ground.textOnly Go.Departure.inlinedCapture }], guard := none }) (by kernel_rfl) (fun KK hK => ?_)
      rw [if_pos (by kernel_rfl)]
      refine wp_store_row 25 (.tmp 2) (.tmp 30) (by rfl) g2 #[.string { data := #[] }, .slice none 0 0] (by rfl) (by rfl) 25 _ PD.out.x2.row (sz25 _ _) (by rfl) (one25 _ _ _ _) ?_
      refine hK.out _ _ (EK.out.2.1) ?_
      clear hK KK
      try simp only [List.getElem_toArray, List.getElem_cons_zero, List.getElem_cons_succ, Act.put, List.setIfInBounds_toArray, List.set_cons_zero, List.set_cons_succ]
      refine seq_call (o := { dst := none, op := Go.Op.store 27 (Go.Operand.tmp 3) (Go.Operand.tmp 31), type := 0, pos := "uri.go:21", after := #[{ on := 1, ground := Go.Ground.data }, { on := 2, ground := Go.Ground.chain }, { on := 0, ground := Go.Ground.phase }, { on := 1, ground := Go.Ground.phase }, { on := 2, ground := Go.Ground.phase }], guard := none }) (by kernel_rfl) (fun KK hK => ?_)
      rw [if_pos (by kernel_rfl)]
      go_simp
      refine hK.out _ _ (EK.out.2.2) ?_
      clear hK KK
      try simp only [List.getElem_toArray, List.getElem_cons_zero, List.getElem_cons_succ, Act.put, List.setIfInBounds_toArray, List.set_cons_zero, List.set_cons_succ]
      show (Exit.then _ _) .normal _ _
      go_wp2
      try simp only [Exit.inBlock, Exit.then]
      refine bodyPost_ret (res_uri (by rfl) (by rfl) (by rfl) PT.out.x2.row (sz25 _ _) PT.out.c3.1) rfl ?_
      rw [EV.out]
      exact ⟨rfl, PT.out.x2.bel⟩
    | true =>
      have HD : Hid (dcS pa = some p) := by
        rcases PO.out with ⟨_, h⟩ | ⟨h, _⟩
        · exact h
        · cases h
      have UV : Hid (prsU t = match prL (pcs qu) with | none => none | some fs => some (p, fs)) := (by rw [UE.out, HD.out]; rfl : prsU t = _)
      refine (callsIn_wide (n := 20)).1 ?_
      refine callsIn_of_wp_marks Tryd.func9 rfl trivial ?_ rfl
      simp only [Tryd.ntmps9, List.size_toArray, List.length_cons, List.length_nil, Nat.reduceAdd, Nat.reduceSub, Array.replicate_succ, Array.replicate_zero, List.push_toArray, List.append_toArray, List.nil_append, List.cons_append]
      refine wpIn_wide.2 ?_
      go_upto_region 1 with (fail)
      rw [show w.heap.size = g2 from G2.out, G3.out, H0.out]
      go_upto_region 4 with (first
        | (go_at_call 20; refine (pfx_n t _).mono ?_; rintro e w1 ⟨rfl, h1⟩; rw [h1, HBP.out]; clear h1)
        | (go_at_call 21; refine (C1.out _).mono ?_; rintro e w2 ⟨⟨bb, rfl⟩, B2⟩))
      go_upto_region 7 with (go_at_call 22; refine (decode_n pa (by omega) _).mono ?_; rintro e w3 ⟨h3, B3⟩; obtain rfl := PE.out e h3; clear h3)
      have P3 : Hid (Pv w w3 g2 g3 #[.string { data := #[] }, .slice none 0 0] .nilIface) := (P0.out.below B2.out).below B3.out
      go_upto_region 8 with (fail)
      obtain ⟨g8, G8⟩ : ∃ q, Hid (w3.heap.size = q) := ⟨_, rfl⟩
      obtain ⟨w4, H4⟩ : ∃ x, Hid (w3.alloc (.cells #[.string p, .slice none 0 0] 25) = x) := ⟨_, rfl⟩
      rw [H4.out, G8.out]
      have P4 : Hid (Pv w w4 g2 g3 #[.string { data := #[] }, .slice none 0 0] .nilIface) := by rw [← H4.out]; exact P3.out.below (alloc1 _ _)
      have B8 : Hid (Bx w w4 g8 25 #[.string p, .slice none 0 0]) := by rw [← H4.out, ← G8.out]; exact Bx.new w w3 25 _ P3.out.x2.bel
      obtain ⟨kq, GK⟩ : ∃ q, Hid (w4.heap.size = q) := ⟨_, rfl⟩
      obtain ⟨w5, H5⟩ : ∃ x, Hid (w4.alloc (.cells #[.string qu] 9) = x) := ⟨_, rfl⟩
      have PC : Hid (Calls Tryd.prog 23 #[.string qu] w4 fun e w' => e = .returned (.func (.func 36) #[] #[.pointer (some ⟨kq, 0, none⟩)]) ∧ w' = w5) := by
        have := pieces_n qu w4
        rw [H5.out, GK.out] at this
        exact this
      have P5 : Hid (Pv w w5 g2 g3 #[.string { data := #[] }, .slice none 0 0] .nilIface) := by rw [← H5.out]; exact P4.out.below (alloc1 _ _)
      have B85 : Hid (Bx w w5 g8 25 #[.string p, .slice none 0 0]) := by rw [← H5.out]; exact B8.out.below (alloc1 _ _)
      have KQ : Hid (w5.cell? ⟨kq, 0, none⟩ = some (.string qu) ∧ w5.heap.size = kq + 1) := by rw [← H5.out, ← GK.out]; exact ⟨by simp, by simp⟩
      clear H4 H5
      go_wp2_with (go_at_call 23; refine PC.out.mono ?_; rintro e w9 ⟨rfl, h9⟩; rw [h9]; clear h9)
      have K0 : Hid (Pi w w5 g2 g3 g8 p none 0 0 []) := by
        refine ⟨P5.out, B85.out, Rw.nil _ _ _ _ (by decide), ?_, ?_⟩
        · rintro rfl; have := P3.out.x2.lt; have := G8.out; omega
        · rintro rfl; have := P3.out.x3.lt; have := G8.out; omega
      have WS : Hid (w.heap.size ≤ w5.heap.size) := P5.out.x2.bel.size
      have hmo : Tryd.prog.follows .mixedOrders = true := by kernel_rfl
      have QL : Hid ((pcs qu).length ≤ 4294967296) := Nat.le_trans (pcs_len qu) (by omega)
      clear C1 UE PC HD PE PO P4 B8 P5 B85
      refine (wpIn_wide (n := 20)).1 ?_
      refine wpIn_rangeFunc_ownF (n := 20) rfl (by omega) (gf := 36) (lb := #[.pointer (some ⟨kq, 0, none⟩)]) rfl trivial (enters_of Tryd.func36 (by kernel_rfl) rfl)
        (pieces_seq 19 (by omega) kq qu (by omega) w5 KQ.out.1) (fun _ _ => trivial) (fun _ _ _ _ _ _ _ _ => trivial) (Below.refl _ _) (fun _ => rfl)
        (fun pre U => ∃ a n c fs, prL (pre.map Subtype.val) = some fs ∧ n = pre.length ∧ Pi w U g2 g3 g8 p a n c fs)
        (fun cd pre U => cd = .ret ∧ (∃ l x, pre.map Subtype.val = l ++ [x] ∧ pairS x = none) ∧ Pv w U g2 g3 #[.string { data := #[] }, .slice none 0 0] (er (E 0))) ?hI ?hIx ⟨none, 0, 0, [], rfl, rfl, K0.out⟩
        (fun x => { tmps := #[.string t, undef, .pointer (some ⟨g2, 0, none⟩), .pointer (some ⟨g3, 0, none⟩), .string p, .string qu, .bool bb, .bool true, .pointer (some ⟨g8, 0, none⟩), .string x.1, undef, undef, .string t, .bool true, .bool false, undef, undef, .tuple #[.string pa, .string qu, .bool bb], .string t, .tuple #[.string pa, .string qu, .bool bb], .string pa, .string qu, .bool bb, .tuple #[.string p, .bool true], .string pa, .tuple #[.string p, .bool true], .string p, .bool true, .bool true, .bool false, undef, undef, .string p, .agg #[.string p, .slice none 0 0], .string qu, .func (.func 36) #[] #[.pointer (some ⟨kq, 0, none⟩)], .string x.1, undef, undef, undef, undef, undef, undef, undef, undef, undef, undef, undef, undef, undef, undef, undef, undef], defers := [] }) ?assign ?body ?done ?stop
      case hI =>
        rintro pre A B row ⟨a, n, c, fs, h1, h2, h3⟩ hg hr
        exact ⟨a, n, c, fs, h1, h2, h3.abide hg (fun r e => ⟨Nat.le_trans WS.out (hr r e).1, (hr r e).2⟩)⟩
      case hIx =>
        rintro cd pre A B row ⟨h1, h2, h3⟩ hg hr
        exact ⟨h1, h2, h3.abide hg (fun r e => ⟨Nat.le_trans WS.out (hr r e).1, (hr r e).2⟩)⟩
      case assign =>
        intro l' x U K' hK
        gi_wp2
        exact hK
      case body =>
        rintro l' pre ⟨x, xz⟩ U ⟨a, n, c, fs, hfs, hn, hPi⟩ hlen
        have HF : Hid (prL (pre.map Subtype.val) = some fs ∧ n = pre.length) := ⟨hfs, hn⟩
        have HPi : Hid (Pi w U g2 g3 g8 p a n c fs) := hPi
        have nz : n ≤ 4294967296 := by have := QL.out; omega
        clear hfs hn hPi
        dsimp only
        have PR : Hid (∀ W, Calls Tryd.prog 24 #[.string x] W fun e w' => PairEnd (pairS x) e ∧ Hid (Below W.heap.size W w')) := fun W => pairOf_n x (by omega) W
        cases hx : pairS x with
        | none =>
          rw [hx] at PR
          have HX : Hid (pairS x = none) := hx
          clear hx
          gi_wp2_with (refine ⟨trivial, ?_⟩; gi_at_call 24; refine (CallsIn.inRound l' (callsIn_wide.2 (PR.out _))).mono ?_; rintro e U1 ⟨h1, B1⟩; obtain rfl := (show e = .returned (.tuple #[.agg #[.string { data := #[] }, .string { data := #[] }], .bool false]) from h1); clear h1)
          obtain ⟨U2, HU2⟩ : ∃ q, Hid (U1.alloc (.cells #[.string { data := #[] }, .string { data := #[] }] 39) = q) := ⟨_, rfl⟩
          rw [HU2.out]
          have V2 : Hid (Pv w U2 g2 g3 #[.string { data := #[] }, .slice none 0 0] .nilIface) := by rw [← HU2.out]; exact (HPi.out.pv.below B1.out).below (alloc1 _ _)
          have KO2 : Hid (KeepsOthers U U2) := by rw [← HU2.out]; exact (ko_below B1.out).trans (KeepsOthers.alloc _ _)
          have PD : Hid (Pv w U2.drew g2 g3 #[.string { data := #[] }, .slice none 0 0] .nilIface) := V2.out.below (Below.refl _ _).drew
          have PS : Hid (Pv w (U2.drew.setRow g2 #[.string { data := #[] }, .slice none 0 0]) g2 g3 #[.string { data := #[] }, .slice none 0 0] .nilIface) := PD.out.set2 _
          have PT : Hid (Pv w ((U2.drew.setRow g2 #[.string { data := #[] }, .slice none 0 0]).setCell ⟨g3, 0, none⟩ (er (E 0))) g2 g3 #[.string { data := #[] }, .slice none 0 0] (er (E 0))) := PS.out.set3 _
          have c0 : ∀ {W A v}, Pv w W g2 g3 A v → W.cell? ⟨0, 0, none⟩ = some (er (E 0)) := fun h => (hE.out.below h.x2.bel).c 0 M0
          have e0 := c0 PD.out
          have e1 := c0 PS.out
          clear c0
          obtain ⟨k3, f3⟩ := PS.out.c3
          have KOT : Hid (KeepsOthers U ((U2.drew.setRow g2 #[.string { data := #[] }, .slice none 0 0]).setCell ⟨g3, 0, none⟩ (er (E 0)))) := KO2.out.trans ((KeepsOthers.drew _).trans ((ko_setRow PD.out.x2 _).trans (KeepsOthers.setCell _ _ _)))
          refine wpIn_region_any hmo ?_
          change wpAnyIn _ _ _ _ _ _ _ _ _ (World.drew U2)
          refine wpAnyIn_ready (rs := [0, 1]) (by kernel_rfl) (by simp) ?_
          refine AllReadyIn.cons rfl (fun K' hK' => ?_) (AllReadyIn.cons rfl (fun K' hK' => ?_) AllReadyIn.nil)
          · go_simp
            refine hK' _ _ ?_; clear hK' K'
            refine wpAnyIn_ready (rs := [1, 2]) (by kernel_rfl) (by simp) ?_
            refine AllReadyIn.cons rfl (fun K' hK' => ?_) (AllReadyIn.cons rfl (fun K' hK' => ?_) AllReadyIn.nil)
            · go_simp
              refine hK' _ _ ?_; clear hK' K'
              refine wpAnyIn_ready (rs := [2]) (by kernel_rfl) (by simp) (AllReadyIn.cons rfl (fun K' hK' => ?_) AllReadyIn.nil)
              refine opIn_str (by rfl) 25 (.tmp 2) (.tmp 44) (by rfl) (by rfl) (by rfl) PD.out.x2.row (sz25 _ _) (by rfl) (one25 _ _ _ _) ?_
              refine hK' _ _ ?_; clear hK' K'
              refine wpAnyIn_ready (rs := [3]) (by kernel_rfl) (by simp) (AllReadyIn.cons rfl (fun K' hK' => ?_) AllReadyIn.nil)
              go_simp
              refine hK' _ _ ?_; clear hK' K'
              refine wpAnyIn_done (by kernel_rfl) ?_ _
              gi_wp2
              exact ⟨KOT.out, rfl, ⟨pre.map Subtype.val, x, by rw [List.map_append]; rfl, HX.out⟩, PT.out⟩
            · refine opIn_str (by rfl) 25 (.tmp 2) (.tmp 44) (by rfl) (by rfl) (by rfl) PD.out.x2.row (sz25 _ _) (by rfl) (one25 _ _ _ _) ?_
              refine hK' _ _ ?_; clear hK' K'
              refine wpAnyIn_ready (rs := [1]) (by kernel_rfl) (by simp) (AllReadyIn.cons rfl (fun K' hK' => ?_) AllReadyIn.nil)
              go_simp
              refine hK' _ _ ?_; clear hK' K'
              refine wpAnyIn_ready (rs := [3]) (by kernel_rfl) (by simp) (AllReadyIn.cons rfl (fun K' hK' => ?_) AllReadyIn.nil)
              go_simp
              refine hK' _ _ ?_; clear hK' K'
              refine wpAnyIn_done (by kernel_rfl) ?_ _
              gi_wp2
              exact ⟨KOT.out, rfl, ⟨pre.map Subtype.val, x, by rw [List.map_append]; rfl, HX.out⟩, PT.out⟩
          · go_simp
            refine hK' _ _ ?_; clear hK' K'
            refine wpAnyIn_ready (rs := [0]) (by kernel_rfl) (by simp) (AllReadyIn.cons rfl (fun K' hK' => ?_) AllReadyIn.nil)
            go_simp
            refine hK' _ _ ?_; clear hK' K'
            refine wpAnyIn_ready (rs := [2]) (by kernel_rfl) (by simp) (AllReadyIn.cons rfl (fun K' hK' => ?_) AllReadyIn.nil)
            refine opIn_str (by rfl) 25 (.tmp 2) (.tmp 44) (by rfl) (by rfl) (by rfl) PD.out.x2.row (sz25 _ _) (by rfl) (one25 _ _ _ _) ?_
            refine hK' _ _ ?_; clear hK' K'
            refine wpAnyIn_ready (rs := [3]) (by kernel_rfl) (by simp) (AllReadyIn.cons rfl (fun K' hK' => ?_) AllReadyIn.nil)
            go_simp
            refine hK' _ _ ?_; clear hK' K'
            refine wpAnyIn_done (by kernel_rfl) ?_ _
            gi_wp2
            exact ⟨KOT.out, rfl, ⟨pre.map Subtype.val, x, by rw [List.map_append]; rfl, HX.out⟩, PT.out⟩
        | some f =>
          obtain ⟨fa, fb⟩ := f
          rw [hx] at PR
          have HX : Hid (pairS x = some (fa, fb)) := hx
          clear hx
          gi_wp2_with (first
            | (refine ⟨trivial, ?_⟩; gi_at_call 24; refine (CallsIn.inRound l' (callsIn_wide.2 (PR.out _))).mono ?_; rintro e U1 ⟨h1, B1⟩; obtain rfl := (show e = .returned (.tuple #[.agg #[.string fa, .string fb], .bool true]) from h1); clear h1
               obtain ⟨qb, HQ⟩ : ∃ q, Hid (U1.heap.size = q) := ⟨_, rfl⟩
               obtain ⟨U2, HU2⟩ : ∃ q, Hid (U1.alloc (.cells #[.string fa, .string fb] 39) = q) := ⟨_, rfl⟩
               have P2 : Hid (Pi w U2 g2 g3 g8 p a n c fs) := by rw [← HU2.out]; exact (HPi.out.below B1.out).below (alloc1 _ _)
               have y4 : U2.cell? ⟨qb, 0, none⟩ = some (.string fa) := by rw [← HU2.out, ← HQ.out]; simp
               have y5 : U2.cell? ⟨qb, 1, none⟩ = some (.string fb) := by rw [← HU2.out, ← HQ.out]; simp
               have KO2 : Hid (KeepsOthers U U2) := by rw [← HU2.out]; exact (ko_below B1.out).trans (KeepsOthers.alloc _ _)
               obtain ⟨a', c', W3, hrun, hpi, z1, z2, ko⟩ := P2.out.app (fa, fb) nz
               have RUN : Hid ((Builtin.append_ #[23, 23] 23 #[.slice a n c, .slice (some ⟨U2.heap.size, 0, none⟩) 1 1]).run Tryd.prog (U2.alloc (.cells #[.string fa, .string fb] 39)) = .ok (.slice a' (n + 1) c') W3) := hrun
               have PN : Hid (Pi w (W3.setCell ⟨g8, 1, none⟩ (.slice a' (n + 1) c')) g2 g3 g8 p a' (n + 1) c' (fs ++ [(fa, fb)])) := hpi
               have KO3 : Hid (KeepsOthers U (W3.setCell ⟨g8, 1, none⟩ (.slice a' (n + 1) c'))) := KO2.out.trans ko
               obtain ⟨r0, r1, r2⟩ := P2.out.cs
               clear hrun hpi ko)
            | (rw [HQ.out, HU2.out])
            | (gi_at_builtin; refine wpListIn_app (by rfl) (.tmp 47) (.tmp 49) (by rfl) (by rfl) (by rfl) (by rfl) RUN ?_))
          exact ⟨KO3.out, trivial, a', n + 1, c', fs ++ [(fa, fb)], by rw [List.map_append]; exact prL_snoc HF.out.1 HX.out, by rw [List.length_append, HF.out.2]; rfl, PN.out⟩
      case done =>
        rintro D xs U hD hxs ⟨a, n, c, fs, hfs, hn, hPi⟩ hK
        have EV : Hid (prsU t = some (p, fs)) := by
          rw [hxs] at hfs
          exact (by rw [UV.out, hfs] : prsU t = some (p, fs))
        have HPi : Hid (Pi w U g2 g3 g8 p a n c fs) := hPi
        obtain ⟨r0, r1, r2⟩ := hPi.cs
        clear hfs hxs hPi hn
        have lD : D < U.heap.size := (Array.getElem?_eq_some_iff.1 hK).1
        have nD : ∀ {g : Nat} {ty : TypeId} {A : Array Value}, Bx w U g ty A → D ≠ g := fun h e => by rw [e, h.row] at hK; cases hK
        obtain ⟨U1, HU1⟩ : ∃ q, Hid (U.setRow g2 #[.string p, .slice a n c] = q) := ⟨_, rfl⟩
        have P1 : Hid (Pv w U1 g2 g3 #[.string p, .slice a n c] .nilIface) := by rw [← HU1.out]; exact HPi.out.pv.set2 _
        obtain ⟨k3, f3⟩ := P1.out.c3
        obtain ⟨U2, HU2⟩ : ∃ q, Hid (U1.setCell ⟨g3, 0, none⟩ .nilIface = q) := ⟨_, rfl⟩
        have P2 : Hid (Pv w U2 g2 g3 #[.string p, .slice a n c] .nilIface) := by rw [← HU2.out]; exact P1.out.set3 _
        have hK2 : U2.heap[D]? = some (.deferred (some [])) := by
          rw [← HU2.out, ← HU1.out]
          exact (Below.heap_setCell _ _ _ _ (nD HPi.out.pv.x3)).trans ((setRow_other _ _ _ _ (nD HPi.out.pv.x2)).trans hK)
        have R2 : Rw U2 w.heap.size 39 EF a n c fs := by
          rw [← HU2.out, ← HU1.out]
          refine HPi.out.r.keep1 (fun q e => (Below.heap_setCell _ _ _ _ ?_).trans (setRow_other _ _ _ _ ?_))
          · rintro rfl; exact HPi.out.not HPi.out.pv.x3 (by decide) e.symm
          · rintro rfl; exact HPi.out.not HPi.out.pv.x2 (by decide) e.symm
        have GP := grownBy_putObj' U2 D (.deferred none)
        have HR : ∀ r, some D = some r → w.heap.size ≤ r ∧ ∃ o : Obj, U2.heap[r]? = some o ∧ o.isCells = false := fun r e => by cases e; exact ⟨Nat.le_trans WS.out hD, _, hK2, rfl⟩
        have P9 : Hid (Pv w (U2.putObj D (.deferred none)) g2 g3 #[.string p, .slice a n c] .nilIface) := P2.out.abide GP HR
        have R9 : Hid (Rw (U2.putObj D (.deferred none)) w.heap.size 39 EF a n c fs) := rw_abide R2 GP (fun r e => (HR r e).2)
        have HK2 : Hid (U2.heap[D]? = some (.deferred (some []))) := hK2
        clear hK hK2 nD R2 GP HR
        show (Exit.then _ (fun _ _ _ => True)) .normal _ _
        go_wp2_with (refine wpList_store_row (by rfl) 25 (.tmp 2) (.tmp 52) (by rfl) g2 #[.string p, .slice a n c] (by rfl) (by rfl) 25 _ HPi.out.pv.x2.row (sz25 _ _) (by rfl) (one25 _ _ _ _) ?_; refine (show _ = U1 from HU1.out) ▸ ?_)
        rw [HU2.out]
        refine ⟨by simp, .inl ⟨_, _, rfl, run_takeDeferred HK2.out, ?_⟩⟩
        refine ⟨_, res_uri (by rfl) (by rfl) (by rfl) P9.out.x2.row (sz25 _ _) P9.out.c3.1, ?_⟩
        rw [EV.out]
        exact ⟨⟨a, n, c, rfl, R9.out⟩, P9.out.x2.bel⟩
      case stop =>
        rintro D cd pre U hD ⟨r, hr⟩ ⟨rfl, ⟨l, x, hl, hx⟩, hPv⟩ hK
        have EV : Hid (prsU t = none) := by
          have e : prL (pcs qu) = none := by rw [hr, hl, List.append_assoc]; exact prL_bad hx
          exact (by rw [UV.out, e] : prsU t = none)
        have HPv : Hid (Pv w U g2 g3 #[.string { data := #[] }, .slice none 0 0] (er (E 0))) := hPv
        clear hl hx hr hPv
        have lD : D < U.heap.size := (Array.getElem?_eq_some_iff.1 hK).1
        have P9 : Hid (Pv w (U.putObj D (.deferred none)) g2 g3 #[.string { data := #[] }, .slice none 0 0] (er (E 0))) := HPv.out.abide (grownBy_putObj' U D (.deferred none)) (fun r e => by cases e; exact ⟨Nat.le_trans WS.out hD, _, hK, rfl⟩)
        gi_wp2
        refine ⟨by simp, .inl ⟨_, _, rfl, run_takeDeferred hK, ?_⟩⟩
        refine ⟨_, res_uri (by rfl) (by rfl) (by rfl) P9.out.x2.row (sz25 _ _) P9.out.c3.1, ?_⟩
        rw [EV.out]
        exact ⟨rfl, P9.out.x2.bel⟩
end Go.Proofs.YtalagagnolhppaaDoor
