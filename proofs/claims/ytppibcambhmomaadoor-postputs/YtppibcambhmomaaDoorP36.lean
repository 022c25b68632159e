import Derived.Test.YtppibcambhmomaaDoorPp
import Derived.Test.YtppibcambhmomaaDoorP35
import Derived.Test.YtppibcambhmomaaDoorP33
namespace Go.Proofs.YtppibcambhmomaaDoor
open Go.ChangeShapes Go.WideShapes Go.ChangeAt Go.RowKit
set_option maxRecDepth 20000
set_option linter.unusedVariables false
set_option linter.unusedSimpArgs false
theorem wpList_load_rowG {P : Program} {ops : Array Oper} {rest : List Oper} {o : Oper} {a : Act} {w : World} {Q : Exit -> Act -> World -> Prop} (hw : Region.wanted o (yielded ops a.tmps) = true) (ty : TypeId) (x : Operand) (ho : o.op = .load ty x)
  (g : Nat) (hx : a.eval x = .pointer (some ⟨g, 0, none⟩)) (t : TypeId) (cs : Array Value) (fr : Nat × Nat) (d : TypeDesc) (hg : w.heap[g]? = some (.cells cs t fr))
  (hu : P.underlying ty = some d) (hd : (match d with | .struct _ | .array _ _ => true | _ => false) = true) (hi : (P.info? ty).map (·.size) = some cs.size)
  (h : wpList P ops Q rest (a.put o.dst (.agg cs)) w) : wpList P ops Q (o :: rest) a w :=
 wpList_step fun K hK => by rw [if_pos hw]; exact wp_load_row ty x ho g hx t cs fr d hg hu hd hi (hK _ _ h)
theorem yl_row29 {ops : Array Oper} {C : World -> Prop} {op : Oper} {a : Act} {A : Array Value} {g : Nat} {x : Operand} (hw : Region.wanted op (yielded ops a.tmps) = true) (ho : op.op = .load 29 x) (hx : a.eval x = .pointer (some ⟨g, 0, none⟩)) (hS : ∀ W, C W -> W.heap[g]? = some (.cells A 29 (0, 0))) (h16 : A.size = 16) : YieldsIf Tryd.prog ops C op (.agg A) a :=
 .inl ⟨hw, fun W hW => by
  unfold execOp
  simp only [ho, hx, Instr.loadAt, Instr.sureAddr, Sem.run_bind, Sem.run_pure, Result.andThen_ok, run_loadVar_row W g 29 29 A (0, 0) _ (hS W hW) Tryd.underlying29 rfl (info29 h16)]⟩
theorem res2_29 {fn : Func} (h : fn.results = #[.cell 2 29, .tmp 3]) (tmps : Array Value) (w : World) (g2 : Nat) (A : Array Value) (v : Value) (hp2 : tmps[2]?.getD undef = .pointer (some ⟨g2, 0, none⟩)) (hp3 : tmps[3]?.getD undef = v) (hg : w.heap[g2]? = some (.cells A 29 (0, 0))) (hA : A.size = 16) : (results fn tmps).run Tryd.prog w = .ok (.tuple #[.agg A, v]) w := by
 simp [results, h, hp2, hp3, asAddr, run_loadVar_row w g2 29 29 A (0, 0) _ hg Tryd.underlying29 rfl (info29 hA)]
abbrev TId := ((Unit × Nat) × Nat) × Nat
abbrev TBal := (Unit × Nat) × Nat
abbrev TMs := (((((((((Unit × Nat) × Nat) × Nat) × TId) × TBal) × TBal) × TId) × Nat) × List Nm) × List Nat
def tupM (y : Nmg) (v : Nat) (ys : List Nm) (L : List Nat) : TMs := (((((((((((), y.K), y.F), y.T), ((((), y.t0), y.t1), y.t2)), (((), y.b0), y.b1)), (((), y.a0), y.a1)), ((((), y.B0), y.B1), y.B2)), v), ys), L)
def unT (t : TMs) : Nmg × List Nm × List Nat := (⟨t.1.1.1.1.1.1.1.1.1.2, t.1.1.1.1.1.1.1.1.2, t.1.1.1.1.1.1.1.2, t.1.1.1.1.1.1.2.1.1.2, t.1.1.1.1.1.1.2.1.2, t.1.1.1.1.1.1.2.2, t.1.1.1.1.1.2.1.2, t.1.1.1.1.1.2.2, t.1.1.1.1.2.1.2, t.1.1.1.1.2.2, t.1.1.1.2.1.1.2, t.1.1.1.2.1.2, t.1.1.1.2.2, decide (t.1.1.2 = 1)⟩, t.1.2, t.2)
theorem unT_tup {y : Nmg} {v : Nat} {ys : List Nm} {L : List Nat} (h : y.ok = decide (v = 1)) : unT (tupM y v ys L) = (y, ys, L) := by
 obtain ⟨K, F, T, t0, t1, t2, b0, b1, a0, a1, B0, B1, B2, ok⟩ := y
 simp only at h
 subst h
 rfl
def rMw (l : List Nat) : Option TMs := (rMs l 0).bind fun r => if r.2 = l.length then some r.1 else none
theorem rMw_of {l : List Nat} {o' : Option Nat} {t : TMs} (h : (some 0).bind (rMs l) = o'.map (fun q => (t, q))) : (∀ q, o' = some q -> q = l.length -> rMw l = some t) /\ (∀ q, o' = some q -> q ≠ l.length -> rMw l = none) /\ (o' = none -> rMw l = none) := by
 have h2 : rMs l 0 = o'.map (fun q => (t, q)) := h
 unfold rMw
 rw [h2]
 refine ⟨fun q hq he => ?_, fun q hq he => ?_, fun hq => ?_⟩
 . rw [hq]; simp [he]
 . rw [hq]; simp [he]
 . rw [hq]; rfl
def RwR (w w' : World) (l : List Nat) (e : Ending) : Prop := ∃ (A : Array Value) (y : Nmg) (ys : List Nm) (L : List Nat) (la : Option Addr) (ln lc : Nat) (fa : Option Addr) (fn fc : Nat) (v : Nat) (ok : Bool), e = .returned (.tuple #[.agg A,.bool ok]) /\ A = (encM (y.mc la ln lc fa fn fc)).toArray /\ y.ok = decide (v = 1) /\ MsO w w' y ys L la ln lc fa fn fc /\ Below w.heap.size w w' /\ ((ok = true /\ rMw l = some (tupM y v ys L)) ∨ (ok = false /\ rMw l = none))
set_option maxHeartbeats 8000000 in
theorem readWhole_n {w : World} {M : Nat -> Prop} {E : Nat -> Addr} {a : Option Addr} {n c : Nat} {l : List Nat} (hS : Hid (Sln w a n l)) (hz : Hid (a = none -> c = 0)) (hE : Hid (Sent w M E)) (hM : M 1) (hM3 : M 3) :
  Calls Tryd.prog 24 #[.slice a n c] w fun e w' => RwR w w' l e := by
 have NL : Hid (n = l.length /\ l.length <= 140737488352256) := ⟨hS.out.len, hS.out.sli.2.1⟩
 obtain ⟨g2, Hg2⟩ := nm (w.heap.size)
 obtain ⟨w1, Hw1⟩ := nm (w.alloc (.cells #[.int .i64 0,.int .i64 0,.int .i64 0,.int .i64 0,.int .i64 0,.int .i64 0,.int .i64 0,.int .i64 0,.int .i64 0,.int .i64 0,.slice none 0 0,.int .i64 0,.int .i64 0,.int .i64 0,.bool false,.slice none 0 0] 29))
 have B1 := al1 Hw1
 have k1 : Hid (w1.heap[g2]? = some (.cells #[.int .i64 0,.int .i64 0,.int .i64 0,.int .i64 0,.int .i64 0,.int .i64 0,.int .i64 0,.int .i64 0,.int .i64 0,.int .i64 0,.slice none 0 0,.int .i64 0,.int .i64 0,.int .i64 0,.bool false,.slice none 0 0] 29 (0, 0))) := by rw [<- Hw1.out, <- Hg2.out]; exact heap_alloc_new w _
 have S1 : Hid (Sln w1 a n l) := hS.out.below B1.out
 go_enter Tryd.func24, Tryd.ntmps24
 go_upto_region 1 with (fail)
 rw [Hw1.out, Hg2.out]
 go_upto_region 2 with (go_at_call 49; refine (newReader_n S1 hz).mono ?_; rintro e w2 ⟨g, a2, c2, rfl, H2⟩)
 obtain ⟨gR, HgR⟩ := nm (w2.heap.size)
 obtain ⟨w3, Hw3⟩ := nm (w2.alloc (.cells #[.pointer (some ⟨g, 0, none⟩),.bool false] 91))
 have b23 := al1 Hw3
 have B2 : Hid (Below w.heap.size w w2) := B1.out.trans (H2.out.2.2.mono B1.out.size)
 have B3 := bt B2 b23
 have GG : Hid (w.heap.size < g /\ g < gR /\ g2 = w.heap.size /\ g2 < w1.heap.size) := by
  have h1 := H2.out.1.lt
  have h2 := H2.out.2.1
  have h3 := (gl k1.out)
  have h4 := Hg2.out
  have h5 := HgR.out
  exact ⟨by omega, by omega, h4.symm, h3⟩
 have RM : Hid (Rm w3 g gR w1.heap.size a2 n c2 l (some 0)) := by
  refine ⟨⟨0, false, H2.out.1.below b23.out, by rw [<- Hw3.out, <- HgR.out]; exact heap_alloc_new w2 _, (fun _ => rfl), (fun h => by cases h)⟩, by have := GG.out; omega, fun e => ?_⟩
  have h1 := (H2.out.1.own.ge gR e).2
  have h5 := HgR.out
  omega
 have k3 : Hid (w3.heap[g2]? = some (.cells #[.int .i64 0,.int .i64 0,.int .i64 0,.int .i64 0,.int .i64 0,.int .i64 0,.int .i64 0,.int .i64 0,.int .i64 0,.int .i64 0,.slice none 0 0,.int .i64 0,.int .i64 0,.int .i64 0,.bool false,.slice none 0 0] 29 (0, 0))) := by
  have h1 : w2.heap[g2]? = some (.cells #[.int .i64 0,.int .i64 0,.int .i64 0,.int .i64 0,.int .i64 0,.int .i64 0,.int .i64 0,.int .i64 0,.int .i64 0,.int .i64 0,.slice none 0 0,.int .i64 0,.int .i64 0,.int .i64 0,.bool false,.slice none 0 0] 29 (0, 0)) := (H2.out.2.2.block g2 GG.out.2.2.2).trans k1.out
  exact (b23.out.block g2 (gl h1)).trans h1
 have BF : Hid (∀ W, Rf w3 W g gR -> Below w.heap.size w W) := fun W h => Rf.below B3.out h (by have := GG.out; omega) (by have := GG.out; omega) B3.out.size
 have HB : Hid (∀ W, Rf w3 W g gR -> Sent W M E) := fun W h => hE.out.below (BF.out W h)
 have LE : Hid (l.length <= 140737488352256) := NL.out.2
 rw [Hw3.out, HgR.out]
 clear Hw3 HgR H2 k1 S1 b23 B2 Hw1 Hg2
 go_upto_region 3 with first
  | (go_at_call 50; refine (message_rm RM hM hM3 LE HB).mono ?_; rintro e w4 ⟨A, y, ys, L, la, ln, lc, fa, fn, fc, v, o', rfl, H4⟩
     have HAe := show Hid (A = (encM (y.mc la ln lc fa fn fc)).toArray) from H4.out.1
     have a16 : A.size = 16 := encM_sz HAe.out)
  | (refine wpList_store_row (by rfl) 29 (.tmp 5) (.tmp 11) (by rfl) w4.heap.size A (by rfl) (by rfl) 29 _ (heap_alloc_new w4 _) (info29 a16) a16.symm (encM_all HAe.out) ?_)
 obtain ⟨g5, Hg5⟩ := nm (w4.heap.size)
 obtain ⟨w5, Hw5⟩ := nm ((w4.alloc (.cells #[.int .i64 0,.int .i64 0,.int .i64 0,.int .i64 0,.int .i64 0,.int .i64 0,.int .i64 0,.int .i64 0,.int .i64 0,.int .i64 0,.slice none 0 0,.int .i64 0,.int .i64 0,.int .i64 0,.bool false,.slice none 0 0] 29)).setRow w4.heap.size A)
 have b45 : Hid (Below w4.heap.size w4 w5) := by rw [<- Hw5.out]; exact below_setRow (alloc1 w4 _) (Nat.le_refl _) A
 have k5 : Hid (w5.heap[g5]? = some (.cells A 29 (0, 0))) := by rw [<- Hw5.out, <- Hg5.out]; exact setRow_heap _ _ _ _ _ _ (heap_alloc_new w4 _)
 have B4 : Hid (Below w.heap.size w w4) := BF.out w4 H4.out.2.2.2.2.1
 have k4 : Hid (w4.heap[g2]? = some (.cells #[.int .i64 0,.int .i64 0,.int .i64 0,.int .i64 0,.int .i64 0,.int .i64 0,.int .i64 0,.int .i64 0,.int .i64 0,.int .i64 0,.slice none 0 0,.int .i64 0,.int .i64 0,.int .i64 0,.bool false,.slice none 0 0] 29 (0, 0))) := (H4.out.2.2.2.2.1.block g2 (gl k3.out) (by have := GG.out; omega) (by have := GG.out; omega)).trans k3.out
 have G25 : Hid (g2 < g5 /\ gR < g5 /\ g < g5) := by
  have h1 := (gl k4.out)
  have h2 := Hg5.out
  have h3 := H4.out.2.2.2.1.lt
  exact ⟨by omega, by omega, by omega⟩
 have R5 : Hid (Rm w5 g gR w1.heap.size a2 n c2 l o') := H4.out.2.2.2.1.below b45.out
 have k25 := sh b45 k4
 have REL : Hid ((some 0).bind (rMs l) = o'.map (fun q => (tupM y v ys L, q))) := H4.out.2.2.2.2.2
 have B5 := bt B4 b45
 have MO : Hid (MsO w3 w5 y ys L la ln lc fa fn fc) := by
  have m := H4.out.2.2.1
  obtain ⟨Y, hY, hO⟩ := m.led
  exact ⟨⟨Y, hY, hO.below b45.out⟩, m.fr.below b45.out, m.nlt, m.len⟩
 have G23 : Hid (g2 < w3.heap.size) := (gl k3.out)
 have YV : Hid (y.ok = decide (v = 1)) := H4.out.2.1
 rw [Hw5.out, Hg5.out]
 clear Hw5 Hg5 H4 b45 B4 k3 k4 RM
 obtain ⟨⟨p, b, hR, hk, s1, s2⟩, ne, ap⟩ := R5.out
 obtain ⟨wd, Hwd⟩ := nm (w5.drew)
 have bd : Hid (Below w5.heap.size w5 wd) := by rw [<- Hwd.out]; exact below_drewN (Below.refl _ _) 1
 have HR : Hid (Rdr wd g w1.heap.size a2 n c2 l p) := hR.below bd.out
 have ST : Hid ((b = false -> o' = some p) /\ (b = true -> o' = none)) := ⟨s1, s2⟩
 have KD : Hid (wd.heap[g5]? = some (.cells A 29 (0, 0)) /\ wd.heap[gR]? = some (.cells #[.pointer (some ⟨g, 0, none⟩),.bool b] 91 (0, 0)) /\ wd.heap[g2]? = some (.cells #[.int .i64 0,.int .i64 0,.int .i64 0,.int .i64 0,.int .i64 0,.int .i64 0,.int .i64 0,.int .i64 0,.int .i64 0,.int .i64 0,.slice none 0 0,.int .i64 0,.int .i64 0,.int .i64 0,.bool false,.slice none 0 0] 29 (0, 0))) :=
  ⟨(bd.out.block g5 (gl k5.out)).trans k5.out, (bd.out.block gR (gl hk)).trans hk, (bd.out.block g2 (gl k25.out)).trans k25.out⟩
 have BD := bt B5 bd
 have MD : Hid (MsO w3 wd y ys L la ln lc fa fn fc) := by
  obtain ⟨Y, hY, hO⟩ := MO.out.led
  exact ⟨⟨Y, hY, hO.below bd.out⟩, MO.out.fr.below bd.out, MO.out.nlt, MO.out.len⟩
 have EN : Hid (∀ (W : World) (okv : Bool), Below wd.heap.size wd W -> ((okv = true /\ rMw l = some (tupM y v ys L)) ∨ (okv = false /\ rMw l = none)) -> RwR w (W.setRow g2 A) l (.returned (.tuple #[.agg A,.bool okv]))) := fun W okv hb hv => by
  have oth : ∀ k, k ≠ g2 -> (W.setRow g2 A).heap[k]? = W.heap[k]? := fun k hk => setRow_other _ _ _ _ hk
  have HBW : Below w.heap.size w W := BD.out.trans (hb.mono BD.out.size)
  refine ⟨A, y, ys, L, la, ln, lc, fa, fn, fc, v, okv, rfl, HAe.out, YV.out, ⟨?_, ?_, MD.out.nlt, MD.out.len⟩, below_setRow HBW (by have := GG.out; omega) A, hv⟩
  . obtain ⟨Y, hY, hO⟩ := MD.out.led
    exact ⟨Y, hY, ((hO.below hb).frame (fun k hk _ => oth k (by have := G23.out; omega))).low B3.out.size⟩
  . have hF := MD.out.fr.below hb
    exact (hF.block (fun q hq => oth q (by have := (hF.ge q hq).1; have := G23.out; omega))).le B3.out.size
 have ED : Hid (Sent wd M E) := hE.out.below BD.out
 have PLE : Hid (p <= n) := HR.out.le
 clear hR hk s1 s2 R5 k5 k25 bd MO B5
 cases b with
 | true =>
   have VAL : Hid (rMw l = none) := (rMw_of REL.out).2.2 (ST.out.2 rfl)
   refine wp_region_seq (C := fun W => W.heap[g5]? = some (.cells A 29 (0, 0)) /\ W.heap[gR]? = some (.cells #[.pointer (some ⟨g, 0, none⟩),.bool true] 91 (0, 0))) [(0, false), (1, false), (2, false), (3, false), (4, false), (5, false), (6, false), (7, false), (8, false), (9, false), (10, false), (11, true), (12, false), (13, false), (14, true), (15, false)] (by kernel_rfl) (by kernel_rfl) (by rw [Hwd.out]; exact ⟨KD.out.1, KD.out.2.1⟩) ?_
   rw [Hwd.out]
   refine sty (o := ⟨some 12, .load 29 (.tmp 5), 29, "bytes.go:54", #[], none⟩) (v := .agg A) (yl_row29 (by kernel_rfl) (by rfl) (by rfl) (fun W hW => hW.1) a16) ?_
   simp only [pG,Act.put]
   refine stk (o := ⟨some 13, .move (.tmp 4), 87, "bytes.go:54", #[], none⟩) (v := .pointer (some ⟨gR, 0, none⟩)) ?_
   simp only [pG,Act.put]
   refine stk (o := ⟨some 14, .nilCheck (.tmp 13), 0, "bytes.go:54", #[⟨1, .data⟩], none⟩) (v := .pointer (some ⟨gR, 0, none⟩)) ?_
   simp only [pG,Act.put]
   refine stk (o := ⟨some 15, .fieldAddr 91 (.tmp 14) 1, 0, "bytes.go:54", #[⟨2, .data⟩], none⟩) (v := .pointer (some ⟨gR, 1, none⟩)) ?_
   simp only [pG,Act.put]
   refine seq_take (o := ⟨some 16, .load 4 (.tmp 15), 4, "bytes.go:54", #[⟨3, .data⟩], none⟩) (v := .bool true) (by kernel_rfl) (fun _ _ _ h => h) (Or.inl ⟨by kernel_rfl, fun W hW => by
    have q0 : W.cell? ⟨gR, 1, none⟩ = some (.bool true) := by simp [World.cell?, hW.2]
    go_simp⟩) ?_
   simp only [pG,Act.put]
   refine stk (o := ⟨some 17, .unOp .not 4 (.tmp 16), 4, "bytes.go:54", #[⟨4, .data⟩], none⟩) (v := .bool false) ?_
   simp only [pG,Act.put]
   refine stk (o := ⟨some 18, .move (.tmp 17), 4, "bytes.go:54", #[⟨5, .data⟩], none⟩) (v := .bool false) ?_
   simp only [pG,Act.put]
   refine sty (o := ⟨some 19, .move (.tmp 4), 87, "bytes.go:54", #[⟨6, .guard⟩], some (6, true)⟩) (v := undef) (Or.inr ⟨by kernel_rfl, rfl⟩) ?_
   simp only [pG,Act.put]
   refine sty (o := ⟨some 20, .nilCheck (.tmp 19), 0, "bytes.go:54", #[⟨7, .data⟩, ⟨6, .guard⟩], some (6, true)⟩) (v := undef) (Or.inr ⟨by kernel_rfl, rfl⟩) ?_
   simp only [pG,Act.put]
   refine sty (o := ⟨some 21, .fieldAddr 91 (.tmp 20) 0, 0, "bytes.go:54", #[⟨8, .data⟩, ⟨6, .guard⟩], some (6, true)⟩) (v := undef) (Or.inr ⟨by kernel_rfl, rfl⟩) ?_
   simp only [pG,Act.put]
   refine sty (o := ⟨some 22, .load 88 (.tmp 21), 88, "bytes.go:54", #[⟨9, .data⟩, ⟨6, .guard⟩], some (6, true)⟩) (v := undef) (Or.inr ⟨by kernel_rfl, rfl⟩) ?_
   simp only [pG,Act.put]
   refine seq_skip (o := ⟨some 23, .call { callee := .value (.func 51), args := #[.tmp 22], argTypes := #[88] }, 33, "bytes.go:54", #[⟨10, .data⟩, ⟨6, .chain⟩, ⟨6, .guard⟩], some (6, true)⟩) (by kernel_rfl) (by kernel_rfl) ⟨KD.out.1, KD.out.2.1⟩ ?_
   simp only [pG,Act.put]
   refine sty (o := ⟨some 24, .binOp .eql 33 (.tmp 23) (.const .nilIface) 33, 4, "bytes.go:54", #[⟨11, .data⟩, ⟨6, .guard⟩, { on := 14, ground := .gcOnly Go.Departure.lateStores }], some (6, true)⟩) (v := undef) (Or.inr ⟨by kernel_rfl, rfl⟩) ?_
   simp only [pG,Act.put]
   refine stk (o := ⟨some 25, .pick (.tmp 18) (.tmp 24) (.const (.bool false)), 4, "bytes.go:54", #[⟨6, .data⟩, ⟨12, .data⟩, { on := 14, ground := .gcOnly Go.Departure.lateStores }], none⟩) (v := .bool false) ?_
   simp only [pG,Act.put]
   refine seq_call (o := ⟨none, .store 29 (.tmp 2) (.tmp 12), 0, "bytes.go:54", #[⟨0, .data⟩, ⟨11, .chain⟩, ⟨0, .phase⟩, { on := 1, ground := .textOnly Go.Departure.lateStores }, { on := 2, ground := .textOnly Go.Departure.lateStores }, { on := 3, ground := .textOnly Go.Departure.lateStores }, { on := 4, ground := .textOnly Go.Departure.lateStores }, { on := 5, ground := .textOnly Go.Departure.lateStores }, { on := 6, ground := .textOnly Go.Departure.lateStores }, { on := 7, ground := .textOnly Go.Departure.lateStores }, { on := 8, ground := .textOnly Go.Departure.lateStores }, { on := 9, ground := .textOnly Go.Departure.lateStores }, { on := 10, ground := .textOnly Go.Departure.lateStores }, { on := 11, ground := .textOnly Go.Departure.lateStoresUnsure }, { on := 12, ground := .textOnly Go.Departure.lateStores }, { on := 13, ground := .textOnly Go.Departure.lateStores }], none⟩) (by kernel_rfl) (fun KK hK => ?_)
   rw [if_pos (by kernel_rfl)]
   refine wp_store_row 29 (.tmp 2) (.tmp 12) (by rfl) g2 A (by rfl) (by rfl) 29 _ KD.out.2.2 (info29 a16) a16.symm (encM_all HAe.out) ?_
   refine hK.out _ _ ⟨(setRow_other _ _ _ _ (by have := G25.out; omega)).trans KD.out.1, (setRow_other _ _ _ _ (by have := GG.out; omega)).trans KD.out.2.1⟩ ?_
   clear hK KK
   try simp only [pG,Act.put]
   refine stk (o := ⟨some 3, .assign (.tmp 25), 4, "bytes.go:54", #[⟨13, .data⟩, ⟨14, .chain⟩, ⟨0, .phase⟩, ⟨1, .phase⟩, ⟨2, .phase⟩, ⟨3, .phase⟩, ⟨4, .phase⟩, ⟨5, .phase⟩, ⟨6, .phase⟩, ⟨7, .phase⟩, ⟨8, .phase⟩, ⟨9, .phase⟩, ⟨10, .phase⟩, ⟨11, .phase⟩, ⟨12, .phase⟩, ⟨13, .phase⟩, ⟨14, .phase⟩], none⟩) (v := .bool false) ?_
   simp only [pG,Act.put]
   show (Exit.then _ _) .normal _ _
   go_wp2
   refine bodyPost_ret (res2_29 Tryd.results24 _ _ g2 A (.bool false) (by rfl) (by rfl) (setRow_heap _ _ _ _ _ _ KD.out.2.2) a16) rfl ?_
   exact EN.out wd _ (Below.refl _ _) (by first | exact .inl ⟨rfl, VAL.out⟩ | exact .inr ⟨rfl, VAL.out⟩)
 | false =>
   rcases Nat.lt_or_ge p n with hp | hp
   . have PN : Hid (p < n) := hp
     have VAL : Hid (rMw l = none) := (rMw_of REL.out).2.1 p (ST.out.1 rfl) (by have := NL.out.1; omega)
     clear hp
     refine wp_region_seq (C := fun W => W.heap[g5]? = some (.cells A 29 (0, 0)) /\ W.heap[gR]? = some (.cells #[.pointer (some ⟨g, 0, none⟩),.bool false] 91 (0, 0))) [(0, false), (1, false), (2, false), (3, false), (4, false), (5, false), (6, false), (7, false), (8, false), (9, false), (10, false), (11, true), (12, false), (13, false), (14, true), (15, false)] (by kernel_rfl) (by kernel_rfl) (by rw [Hwd.out]; exact ⟨KD.out.1, KD.out.2.1⟩) ?_
     rw [Hwd.out]
     refine sty (o := ⟨some 12, .load 29 (.tmp 5), 29, "bytes.go:54", #[], none⟩) (v := .agg A) (yl_row29 (by kernel_rfl) (by rfl) (by rfl) (fun W hW => hW.1) a16) ?_
     simp only [pG,Act.put]
     refine stk (o := ⟨some 13, .move (.tmp 4), 87, "bytes.go:54", #[], none⟩) (v := .pointer (some ⟨gR, 0, none⟩)) ?_
     simp only [pG,Act.put]
     refine stk (o := ⟨some 14, .nilCheck (.tmp 13), 0, "bytes.go:54", #[⟨1, .data⟩], none⟩) (v := .pointer (some ⟨gR, 0, none⟩)) ?_
     simp only [pG,Act.put]
     refine stk (o := ⟨some 15, .fieldAddr 91 (.tmp 14) 1, 0, "bytes.go:54", #[⟨2, .data⟩], none⟩) (v := .pointer (some ⟨gR, 1, none⟩)) ?_
     simp only [pG,Act.put]
     refine seq_take (o := ⟨some 16, .load 4 (.tmp 15), 4, "bytes.go:54", #[⟨3, .data⟩], none⟩) (v := .bool false) (by kernel_rfl) (fun _ _ _ h => h) (Or.inl ⟨by kernel_rfl, fun W hW => by
      have q0 : W.cell? ⟨gR, 1, none⟩ = some (.bool false) := by simp [World.cell?, hW.2]
      go_simp⟩) ?_
     simp only [pG,Act.put]
     refine stk (o := ⟨some 17, .unOp .not 4 (.tmp 16), 4, "bytes.go:54", #[⟨4, .data⟩], none⟩) (v := .bool true) ?_
     simp only [pG,Act.put]
     refine stk (o := ⟨some 18, .move (.tmp 17), 4, "bytes.go:54", #[⟨5, .data⟩], none⟩) (v := .bool true) ?_
     simp only [pG,Act.put]
     refine stk (o := ⟨some 19, .move (.tmp 4), 87, "bytes.go:54", #[⟨6, .guard⟩], some (6, true)⟩) (v := .pointer (some ⟨gR, 0, none⟩)) ?_
     simp only [pG,Act.put]
     refine stk (o := ⟨some 20, .nilCheck (.tmp 19), 0, "bytes.go:54", #[⟨7, .data⟩, ⟨6, .guard⟩], some (6, true)⟩) (v := .pointer (some ⟨gR, 0, none⟩)) ?_
     simp only [pG,Act.put]
     refine stk (o := ⟨some 21, .fieldAddr 91 (.tmp 20) 0, 0, "bytes.go:54", #[⟨8, .data⟩, ⟨6, .guard⟩], some (6, true)⟩) (v := .pointer (some ⟨gR, 0, none⟩)) ?_
     simp only [pG,Act.put]
     refine seq_take (o := ⟨some 22, .load 88 (.tmp 21), 88, "bytes.go:54", #[⟨9, .data⟩, ⟨6, .guard⟩], some (6, true)⟩) (v := .pointer (some ⟨g, 0, none⟩)) (by kernel_rfl) (fun _ _ _ h => h) (Or.inl ⟨by kernel_rfl, fun W hW => by
      have q0 : W.cell? ⟨gR, 0, none⟩ = some (.pointer (some ⟨g, 0, none⟩)) := by simp [World.cell?, hW.2]
      go_simp⟩) ?_
     simp only [pG,Act.put]
     refine seq_call (o := ⟨some 23, .call { callee := .value (.func 51), args := #[.tmp 22], argTypes := #[88] }, 33, "bytes.go:54", #[⟨10, .data⟩, ⟨6, .chain⟩, ⟨6, .guard⟩], some (6, true)⟩) (by kernel_rfl) (fun KK hK => ?_)
     rw [if_pos (by kernel_rfl)]
     go_simp
     go_wp2_with (go_at_call 51; refine (end_bad HR ED hM PN).mono ?_; rintro e v2 ⟨rfl, h2⟩)
     have b2 : Hid (Below wd.heap.size wd v2) := by obtain ⟨j, hj⟩ := h2.out; rw [hj]; exact below_drewN (Below.refl _ _) j
     have KV : Hid (v2.heap[g5]? = some (.cells A 29 (0, 0)) /\ v2.heap[gR]? = some (.cells #[.pointer (some ⟨g, 0, none⟩),.bool false] 91 (0, 0)) /\ v2.heap[g2]? = some (.cells #[.int .i64 0,.int .i64 0,.int .i64 0,.int .i64 0,.int .i64 0,.int .i64 0,.int .i64 0,.int .i64 0,.int .i64 0,.int .i64 0,.slice none 0 0,.int .i64 0,.int .i64 0,.int .i64 0,.bool false,.slice none 0 0] 29 (0, 0))) := ⟨(b2.out.block g5 (gl KD.out.1)).trans KD.out.1, (b2.out.block gR (gl KD.out.2.1)).trans KD.out.2.1, (b2.out.block g2 (gl KD.out.2.2)).trans KD.out.2.2⟩
     refine hK.out _ _ ⟨KV.out.1, KV.out.2.1⟩ ?_
     clear hK KK h2
     try simp only [pG,Act.put]
     refine stk (o := ⟨some 24, .binOp .eql 33 (.tmp 23) (.const .nilIface) 33, 4, "bytes.go:54", #[⟨11, .data⟩, ⟨6, .guard⟩, { on := 14, ground := .gcOnly Go.Departure.lateStores }], some (6, true)⟩) (v := .bool false) ?_
     simp only [pG,Act.put]
     refine stk (o := ⟨some 25, .pick (.tmp 18) (.tmp 24) (.const (.bool false)), 4, "bytes.go:54", #[⟨6, .data⟩, ⟨12, .data⟩, { on := 14, ground := .gcOnly Go.Departure.lateStores }], none⟩) (v := .bool false) ?_
     simp only [pG,Act.put]
     refine seq_call (o := ⟨none, .store 29 (.tmp 2) (.tmp 12), 0, "bytes.go:54", #[⟨0, .data⟩, ⟨11, .chain⟩, ⟨0, .phase⟩, { on := 1, ground := .textOnly Go.Departure.lateStores }, { on := 2, ground := .textOnly Go.Departure.lateStores }, { on := 3, ground := .textOnly Go.Departure.lateStores }, { on := 4, ground := .textOnly Go.Departure.lateStores }, { on := 5, ground := .textOnly Go.Departure.lateStores }, { on := 6, ground := .textOnly Go.Departure.lateStores }, { on := 7, ground := .textOnly Go.Departure.lateStores }, { on := 8, ground := .textOnly Go.Departure.lateStores }, { on := 9, ground := .textOnly Go.Departure.lateStores }, { on := 10, ground := .textOnly Go.Departure.lateStores }, { on := 11, ground := .textOnly Go.Departure.lateStoresUnsure }, { on := 12, ground := .textOnly Go.Departure.lateStores }, { on := 13, ground := .textOnly Go.Departure.lateStores }], none⟩) (by kernel_rfl) (fun KK hK => ?_)
     rw [if_pos (by kernel_rfl)]
     refine wp_store_row 29 (.tmp 2) (.tmp 12) (by rfl) g2 A (by rfl) (by rfl) 29 _ KV.out.2.2 (info29 a16) a16.symm (encM_all HAe.out) ?_
     refine hK.out _ _ ⟨(setRow_other _ _ _ _ (by have := G25.out; omega)).trans KV.out.1, (setRow_other _ _ _ _ (by have := GG.out; omega)).trans KV.out.2.1⟩ ?_
     clear hK KK
     try simp only [pG,Act.put]
     refine stk (o := ⟨some 3, .assign (.tmp 25), 4, "bytes.go:54", #[⟨13, .data⟩, ⟨14, .chain⟩, ⟨0, .phase⟩, ⟨1, .phase⟩, ⟨2, .phase⟩, ⟨3, .phase⟩, ⟨4, .phase⟩, ⟨5, .phase⟩, ⟨6, .phase⟩, ⟨7, .phase⟩, ⟨8, .phase⟩, ⟨9, .phase⟩, ⟨10, .phase⟩, ⟨11, .phase⟩, ⟨12, .phase⟩, ⟨13, .phase⟩, ⟨14, .phase⟩], none⟩) (v := .bool false) ?_
     simp only [pG,Act.put]
     show (Exit.then _ _) .normal _ _
     go_wp2
     refine bodyPost_ret (res2_29 Tryd.results24 _ _ g2 A (.bool false) (by rfl) (by rfl) (setRow_heap _ _ _ _ _ _ KV.out.2.2) a16) rfl ?_
     exact EN.out v2 _ b2.out (by first | exact .inl ⟨rfl, VAL.out⟩ | exact .inr ⟨rfl, VAL.out⟩)
   . have PN : Hid (p = n) := by have := PLE.out; show p = n; omega
     have VAL : Hid (rMw l = some (tupM y v ys L)) := (rMw_of REL.out).1 p (ST.out.1 rfl) (by have := NL.out.1; have := PN.out; omega)
     clear hp
     refine wp_region_seq (C := fun W => W.heap[g5]? = some (.cells A 29 (0, 0)) /\ W.heap[gR]? = some (.cells #[.pointer (some ⟨g, 0, none⟩),.bool false] 91 (0, 0))) [(0, false), (1, false), (2, false), (3, false), (4, false), (5, false), (6, false), (7, false), (8, false), (9, false), (10, false), (11, true), (12, false), (13, false), (14, true), (15, false)] (by kernel_rfl) (by kernel_rfl) (by rw [Hwd.out]; exact ⟨KD.out.1, KD.out.2.1⟩) ?_
     rw [Hwd.out]
     refine sty (o := ⟨some 12, .load 29 (.tmp 5), 29, "bytes.go:54", #[], none⟩) (v := .agg A) (yl_row29 (by kernel_rfl) (by rfl) (by rfl) (fun W hW => hW.1) a16) ?_
     simp only [pG,Act.put]
     refine stk (o := ⟨some 13, .move (.tmp 4), 87, "bytes.go:54", #[], none⟩) (v := .pointer (some ⟨gR, 0, none⟩)) ?_
     simp only [pG,Act.put]
     refine stk (o := ⟨some 14, .nilCheck (.tmp 13), 0, "bytes.go:54", #[⟨1, .data⟩], none⟩) (v := .pointer (some ⟨gR, 0, none⟩)) ?_
     simp only [pG,Act.put]
     refine stk (o := ⟨some 15, .fieldAddr 91 (.tmp 14) 1, 0, "bytes.go:54", #[⟨2, .data⟩], none⟩) (v := .pointer (some ⟨gR, 1, none⟩)) ?_
     simp only [pG,Act.put]
     refine seq_take (o := ⟨some 16, .load 4 (.tmp 15), 4, "bytes.go:54", #[⟨3, .data⟩], none⟩) (v := .bool false) (by kernel_rfl) (fun _ _ _ h => h) (Or.inl ⟨by kernel_rfl, fun W hW => by
      have q0 : W.cell? ⟨gR, 1, none⟩ = some (.bool false) := by simp [World.cell?, hW.2]
      go_simp⟩) ?_
     simp only [pG,Act.put]
     refine stk (o := ⟨some 17, .unOp .not 4 (.tmp 16), 4, "bytes.go:54", #[⟨4, .data⟩], none⟩) (v := .bool true) ?_
     simp only [pG,Act.put]
     refine stk (o := ⟨some 18, .move (.tmp 17), 4, "bytes.go:54", #[⟨5, .data⟩], none⟩) (v := .bool true) ?_
     simp only [pG,Act.put]
     refine stk (o := ⟨some 19, .move (.tmp 4), 87, "bytes.go:54", #[⟨6, .guard⟩], some (6, true)⟩) (v := .pointer (some ⟨gR, 0, none⟩)) ?_
     simp only [pG,Act.put]
     refine stk (o := ⟨some 20, .nilCheck (.tmp 19), 0, "bytes.go:54", #[⟨7, .data⟩, ⟨6, .guard⟩], some (6, true)⟩) (v := .pointer (some ⟨gR, 0, none⟩)) ?_
     simp only [pG,Act.put]
     refine stk (o := ⟨some 21, .fieldAddr 91 (.tmp 20) 0, 0, "bytes.go:54", #[⟨8, .data⟩, ⟨6, .guard⟩], some (6, true)⟩) (v := .pointer (some ⟨gR, 0, none⟩)) ?_
     simp only [pG,Act.put]
     refine seq_take (o := ⟨some 22, .load 88 (.tmp 21), 88, "bytes.go:54", #[⟨9, .data⟩, ⟨6, .guard⟩], some (6, true)⟩) (v := .pointer (some ⟨g, 0, none⟩)) (by kernel_rfl) (fun _ _ _ h => h) (Or.inl ⟨by kernel_rfl, fun W hW => by
      have q0 : W.cell? ⟨gR, 0, none⟩ = some (.pointer (some ⟨g, 0, none⟩)) := by simp [World.cell?, hW.2]
      go_simp⟩) ?_
     simp only [pG,Act.put]
     refine seq_call (o := ⟨some 23, .call { callee := .value (.func 51), args := #[.tmp 22], argTypes := #[88] }, 33, "bytes.go:54", #[⟨10, .data⟩, ⟨6, .chain⟩, ⟨6, .guard⟩], some (6, true)⟩) (by kernel_rfl) (fun KK hK => ?_)
     rw [if_pos (by kernel_rfl)]
     go_simp
     go_wp2_with (go_at_call 51; refine (end_ok HR PN).mono ?_; rintro e v2 ⟨rfl, h2⟩)
     have b2 : Hid (Below wd.heap.size wd v2) := by obtain ⟨j, hj⟩ := h2.out; rw [hj]; exact below_drewN (Below.refl _ _) j
     have KV : Hid (v2.heap[g5]? = some (.cells A 29 (0, 0)) /\ v2.heap[gR]? = some (.cells #[.pointer (some ⟨g, 0, none⟩),.bool false] 91 (0, 0)) /\ v2.heap[g2]? = some (.cells #[.int .i64 0,.int .i64 0,.int .i64 0,.int .i64 0,.int .i64 0,.int .i64 0,.int .i64 0,.int .i64 0,.int .i64 0,.int .i64 0,.slice none 0 0,.int .i64 0,.int .i64 0,.int .i64 0,.bool false,.slice none 0 0] 29 (0, 0))) := ⟨(b2.out.block g5 (gl KD.out.1)).trans KD.out.1, (b2.out.block gR (gl KD.out.2.1)).trans KD.out.2.1, (b2.out.block g2 (gl KD.out.2.2)).trans KD.out.2.2⟩
     refine hK.out _ _ ⟨KV.out.1, KV.out.2.1⟩ ?_
     clear hK KK h2
     try simp only [pG,Act.put]
     refine stk (o := ⟨some 24, .binOp .eql 33 (.tmp 23) (.const .nilIface) 33, 4, "bytes.go:54", #[⟨11, .data⟩, ⟨6, .guard⟩, { on := 14, ground := .gcOnly Go.Departure.lateStores }], some (6, true)⟩) (v := .bool true) ?_
     simp only [pG,Act.put]
     refine stk (o := ⟨some 25, .pick (.tmp 18) (.tmp 24) (.const (.bool false)), 4, "bytes.go:54", #[⟨6, .data⟩, ⟨12, .data⟩, { on := 14, ground := .gcOnly Go.Departure.lateStores }], none⟩) (v := .bool true) ?_
     simp only [pG,Act.put]
     refine seq_call (o := ⟨none, .store 29 (.tmp 2) (.tmp 12), 0, "bytes.go:54", #[⟨0, .data⟩, ⟨11, .chain⟩, ⟨0, .phase⟩, { on := 1, ground := .textOnly Go.Departure.lateStores }, { on := 2, ground := .textOnly Go.Departure.lateStores }, { on := 3, ground := .textOnly Go.Departure.lateStores }, { on := 4, ground := .textOnly Go.Departure.lateStores }, { on := 5, ground := .textOnly Go.Departure.lateStores }, { on := 6, ground := .textOnly Go.Departure.lateStores }, { on := 7, ground := .textOnly Go.Departure.lateStores }, { on := 8, ground := .textOnly Go.Departure.lateStores }, { on := 9, ground := .textOnly Go.Departure.lateStores }, { on := 10, ground := .textOnly Go.Departure.lateStores }, { on := 11, ground := .textOnly Go.Departure.lateStoresUnsure }, { on := 12, ground := .textOnly Go.Departure.lateStores }, { on := 13, ground := .textOnly Go.Departure.lateStores }], none⟩) (by kernel_rfl) (fun KK hK => ?_)
     rw [if_pos (by kernel_rfl)]
     refine wp_store_row 29 (.tmp 2) (.tmp 12) (by rfl) g2 A (by rfl) (by rfl) 29 _ KV.out.2.2 (info29 a16) a16.symm (encM_all HAe.out) ?_
     refine hK.out _ _ ⟨(setRow_other _ _ _ _ (by have := G25.out; omega)).trans KV.out.1, (setRow_other _ _ _ _ (by have := GG.out; omega)).trans KV.out.2.1⟩ ?_
     clear hK KK
     try simp only [pG,Act.put]
     refine stk (o := ⟨some 3, .assign (.tmp 25), 4, "bytes.go:54", #[⟨13, .data⟩, ⟨14, .chain⟩, ⟨0, .phase⟩, ⟨1, .phase⟩, ⟨2, .phase⟩, ⟨3, .phase⟩, ⟨4, .phase⟩, ⟨5, .phase⟩, ⟨6, .phase⟩, ⟨7, .phase⟩, ⟨8, .phase⟩, ⟨9, .phase⟩, ⟨10, .phase⟩, ⟨11, .phase⟩, ⟨12, .phase⟩, ⟨13, .phase⟩, ⟨14, .phase⟩], none⟩) (v := .bool true) ?_
     simp only [pG,Act.put]
     show (Exit.then _ _) .normal _ _
     go_wp2
     refine bodyPost_ret (res2_29 Tryd.results24 _ _ g2 A (.bool true) (by rfl) (by rfl) (setRow_heap _ _ _ _ _ _ KV.out.2.2) a16) rfl ?_
     exact EN.out v2 _ b2.out (by first | exact .inl ⟨rfl, VAL.out⟩ | exact .inr ⟨rfl, VAL.out⟩)
theorem cell_block_lt {w : World} {a : Addr} {v : Value} (h : w.cell? a = some v) : a.block < w.heap.size := by
 simp only [World.cell?] at h
 by_cases hlt : a.block < w.heap.size
 . exact hlt
 . rw [Array.getElem?_eq_none (by omega)] at h
   cases h
def mfN (y : Nmg) (ys : List Nm) (L : List Nat) : Bool := mf (y.mc none ys.length 0 none L.length 0) (ys.map Nm.cm)
theorem mf_mem {y : Nmg} {ys : List Nm} {L : List Nat} {la : Option Addr} {ln lc : Nat} {fa : Option Addr} {fn fc : Nat} {Y : List Cx} (h1 : ln = ys.length) (h2 : fn = L.length) (h3 : led Y = ys.map Nm.cm) : mf (y.mc la ln lc fa fn fc) (led Y) = mfN y ys L := by
 subst h1 h2
 rw [h3]
 rfl
def rMg (l : List Nat) : Option (Nmg × List Nm × List Nat) := (rMw l).bind fun t => if mfN (unT t).1 (unT t).2.1 (unT t).2.2 = true then some (unT t) else none
def GmR (w w' : World) (E : Nat -> Addr) (l : List Nat) (e : Ending) : Prop :=
 (rMg l = none /\ e = .returned (.tuple #[.agg #[.int .i64 0,.int .i64 0,.int .i64 0,.int .i64 0,.int .i64 0,.int .i64 0,.int .i64 0,.int .i64 0,.int .i64 0,.int .i64 0,.slice none 0 0,.int .i64 0,.int .i64 0,.int .i64 0,.bool false,.slice none 0 0], er (E 1)]) /\ Below w.heap.size w w') ∨ (∃ (A : Array Value) (y : Nmg) (ys : List Nm) (L : List Nat) (la : Option Addr) (ln lc : Nat) (fa : Option Addr) (fn fc : Nat) (Y : List Cx), rMg l = some (y, ys, L) /\ e = .returned (.tuple #[.agg A, .nilIface]) /\ A = (encM (y.mc la ln lc fa fn fc)).toArray /\ led Y = ys.map Nm.cm /\ Oc w' w.heap.size la ln lc Y /\ Own w' w.heap.size fa fn fc L /\ L.length <= 140737488352256 /\ Below w.heap.size w w')
theorem Zone : (#[.int .i64 0,.int .i64 0,.int .i64 0,.int .i64 0,.int .i64 0,.int .i64 0,.int .i64 0,.int .i64 0,.int .i64 0,.int .i64 0,.slice none 0 0,.int .i64 0,.int .i64 0,.int .i64 0,.bool false,.slice none 0 0] : Array Value).all (·.oneCell') = true := all_oneCell_toArray (fun v hv => by
 simp only [List.mem_cons, List.not_mem_nil, or_false] at hv
 rcases hv with rfl | rfl | rfl | rfl | rfl | rfl | rfl | rfl | rfl | rfl | rfl | rfl | rfl | rfl | rfl | rfl <;> rfl)
set_option maxHeartbeats 8000000 in
theorem getM_n {w : World} {M : Nat -> Prop} {E : Nat -> Addr} {a : Option Addr} {n c : Nat} {l : List Nat} (hS : Hid (Sln w a n l)) (hz : Hid (a = none -> c = 0)) (hnc : n <= c) (hE : Hid (Sent w M E)) (hM0 : M 0) (hM : M 1) (hM3 : M 3) (ho : Hid ((opn l).2 = 0)) :
  Calls Tryd.prog 12 #[.slice a n c] w fun e w' => GmR w w' E (opn l).1 e := by
 obtain ⟨g2, Hg2⟩ := nm (w.heap.size)
 obtain ⟨w1, Hw1⟩ := nm (w.alloc (.cells #[.int .i64 0,.int .i64 0,.int .i64 0,.int .i64 0,.int .i64 0,.int .i64 0,.int .i64 0,.int .i64 0,.int .i64 0,.int .i64 0,.slice none 0 0,.int .i64 0,.int .i64 0,.int .i64 0,.bool false,.slice none 0 0] 29))
 have B1 := al1 Hw1
 have k1 : Hid (w1.heap[g2]? = some (.cells #[.int .i64 0,.int .i64 0,.int .i64 0,.int .i64 0,.int .i64 0,.int .i64 0,.int .i64 0,.int .i64 0,.int .i64 0,.int .i64 0,.slice none 0 0,.int .i64 0,.int .i64 0,.int .i64 0,.bool false,.slice none 0 0] 29 (0, 0))) := by rw [<- Hw1.out, <- Hg2.out]; exact heap_alloc_new w _
 have S1 : Hid (Sln w1 a n l) := hS.out.below B1.out
 have E1 : Hid (Sent w1 M E) := hE.out.below B1.out
 have LL : Hid ((opn l).1.length <= 140737488352256) := by
  have h1 := opn_len l
  have h2 := hS.out.sli.2.1
  show _ <= _
  omega
 obtain ⟨L1, HL1⟩ := nm ((opn l).1)
 rw [HL1.out] at LL ⊢
 have GG : Hid (g2 = w.heap.size) := Hg2.out.symm
 go_enter Tryd.func12, Tryd.ntmps12
 go_upto_region 1 with (fail)
 rw [Hw1.out, Hg2.out]
 go_upto_region 4 with (go_at_call 23; refine (open_any S1 hz hnc E1 hM3 hM).mono ?_; rintro e w2 ⟨a2, n2, c2, v, rfl, H2⟩; obtain rfl : v = .nilIface := by have h := H2.out.1; rw [ho.out] at h; exact h)
 have k2 : Hid (w2.heap[g2]? = some (.cells #[.int .i64 0,.int .i64 0,.int .i64 0,.int .i64 0,.int .i64 0,.int .i64 0,.int .i64 0,.int .i64 0,.int .i64 0,.int .i64 0,.slice none 0 0,.int .i64 0,.int .i64 0,.int .i64 0,.bool false,.slice none 0 0] 29 (0, 0))) := (H2.out.2.2.block g2 (gl k1.out)).trans k1.out
 have O2 : Hid (Own w2 w1.heap.size a2 n2 c2 L1) := by rw [<- HL1.out]; exact H2.out.2.1
 have S2 : Hid (Sln w2 a2 n2 L1) := O2.out.sln (by have := O2.out.len; have := LL.out; omega)
 have Z2 : Hid (a2 = none -> c2 = 0) := O2.out.cap0
 have B2 : Hid (Below w.heap.size w w2) := B1.out.trans (H2.out.2.2.mono B1.out.size)
 have E2 : Hid (Sent w2 M E) := hE.out.below B2.out
 clear H2 k1 S1 E1 Hw1 Hg2 B1
 go_upto_region 5 with first
  | (go_at_call 24; refine (readWhole_n S2 Z2 E2 hM hM3).mono ?_; rintro e w3 ⟨A, y, ys, L, la, ln, lc, fa, fn, fc, v, ok, rfl, hA, hyv, hMO, hb, hv⟩
     have HAe := show Hid (A = (encM (y.mc la ln lc fa fn fc)).toArray) from hA
     have a16 : A.size = 16 := encM_sz HAe.out
     have HYV := show Hid (y.ok = decide (v = 1)) from hyv
     have HMO := show Hid (MsO w2 w3 y ys L la ln lc fa fn fc) from hMO
     have B23 := show Hid (Below w2.heap.size w2 w3) from hb
     have HVV := show Hid ((ok = true /\ rMw L1 = some (tupM y v ys L)) ∨ (ok = false /\ rMw L1 = none)) from hv
     clear hA hyv hMO hb hv)
  | (refine wpList_store_row (by rfl) 29 (.tmp 6) (.tmp 20) (by rfl) w3.heap.size A (by rfl) (by rfl) 29 _ (heap_alloc_new w3 _) (info29 a16) a16.symm (encM_all HAe.out) ?_)
 obtain ⟨g6, Hg6⟩ := nm (w3.heap.size)
 obtain ⟨w4, Hw4⟩ := nm ((w3.alloc (.cells #[.int .i64 0,.int .i64 0,.int .i64 0,.int .i64 0,.int .i64 0,.int .i64 0,.int .i64 0,.int .i64 0,.int .i64 0,.int .i64 0,.slice none 0 0,.int .i64 0,.int .i64 0,.int .i64 0,.bool false,.slice none 0 0] 29)).setRow w3.heap.size A)
 have b34 : Hid (Below w3.heap.size w3 w4) := by rw [<- Hw4.out]; exact below_setRow (alloc1 w3 _) (Nat.le_refl _) A
 have k6 : Hid (w4.heap[g6]? = some (.cells A 29 (0, 0))) := by rw [<- Hw4.out, <- Hg6.out]; exact setRow_heap _ _ _ _ _ _ (heap_alloc_new w3 _)
 have k3 := sh B23 k2
 have k4 := sh b34 k3
 have G26 : Hid (g2 < g6 /\ g2 < w2.heap.size) := by
  have h1 := (gl k3.out)
  have h2 := Hg6.out
  exact ⟨by omega, (gl k2.out)⟩
 have BW : Hid (Below w.heap.size w w4) := (B2.out.trans (B23.out.mono B2.out.size)).trans (b34.out.mono (Nat.le_trans B2.out.size B23.out.size))
 have M4 : Hid (MsO w2 w4 y ys L la ln lc fa fn fc) := by
  obtain ⟨Y, hY, hO⟩ := HMO.out.led
  exact ⟨⟨Y, hY, hO.below b34.out⟩, HMO.out.fr.below b34.out, HMO.out.nlt, HMO.out.len⟩
 rw [Hw4.out, Hg6.out]
 clear Hw4 Hg6 b34 k3 HMO
 cases ok with
 | false =>
   have GN : rMg L1 = none := by
    have h : rMw L1 = none := by
     rcases HVV.out with ⟨h, _⟩ | ⟨_, h⟩
     . cases h
     . exact h
    unfold rMg
    rw [h]
    rfl
   have HGN : Hid (rMg L1 = none) := GN
   clear GN
   obtain ⟨wd, Hwd⟩ := nm (w4.drew)
   have bd : Hid (Below w4.heap.size w4 wd) := by rw [<- Hwd.out]; exact below_drewN (Below.refl _ _) 1
   have kd := sh bd k4
   have ce : Hid (wd.cell? ⟨1, 0, none⟩ = some (er (E 1)) /\ g2 ≠ 1) := by
    refine ⟨((hE.out.below BW.out).below bd.out).c 1 hM, ?_⟩
    have h := cell_block_lt (hE.out.c 1 hM)
    have := GG.out
    have h2 : (1 : Nat) < w.heap.size := h
    omega
   go_upto_region 6 with (fail)
   refine wp_region_seq (C := fun W => W.cell? ⟨1, 0, none⟩ = some (er (E 1))) [(0, false), (1, false), (2, true), (3, false)] (by kernel_rfl) (by kernel_rfl) (by rw [Hwd.out]; exact ce.out.1) ?_
   rw [Hwd.out]
   refine stk (o := ⟨some 29, .build 29 #[], 29, "post.go:45", #[], none⟩) (v := .agg #[.int .i64 0,.int .i64 0,.int .i64 0,.int .i64 0,.int .i64 0,.int .i64 0,.int .i64 0,.int .i64 0,.int .i64 0,.int .i64 0,.slice none 0 0,.int .i64 0,.int .i64 0,.int .i64 0,.bool false,.slice none 0 0]) ?_
   simp only [pG,Act.put]
   refine sty (o := ⟨some 30, .load 33 (.global 1), 33, "post.go:45", #[{ on := 2, ground := .gcOnly Go.Departure.lateStores }], none⟩) (v := er (E 1)) (Or.inl ⟨by kernel_rfl, fun W hW => by have q0 := hW; go_simp⟩) ?_
   simp only [pG,Act.put]
   refine seq_call (o := ⟨none, .store 29 (.tmp 2) (.tmp 29), 0, "post.go:45", #[⟨0, .data⟩, ⟨0, .phase⟩, { on := 1, ground := .textOnly Go.Departure.lateStores }], none⟩) (by kernel_rfl) (fun KK hK => ?_)
   rw [if_pos (by kernel_rfl)]
   refine wp_store_row 29 (.tmp 2) (.tmp 29) (by rfl) g2 #[.int .i64 0,.int .i64 0,.int .i64 0,.int .i64 0,.int .i64 0,.int .i64 0,.int .i64 0,.int .i64 0,.int .i64 0,.int .i64 0,.slice none 0 0,.int .i64 0,.int .i64 0,.int .i64 0,.bool false,.slice none 0 0] (by rfl) (by rfl) 29 _ kd.out (info29 (by rfl)) (by rfl) Zone ?_
   refine hK.out _ _ ((cell_setRow_other _ _ _ _ (show (1 : Nat) ≠ g2 from Ne.symm ce.out.2)).trans ce.out.1) ?_
   clear hK KK
   try simp only [pG,Act.put]
   refine stk (o := ⟨some 3, .assign (.tmp 30), 33, "post.go:45", #[⟨1, .data⟩, ⟨2, .chain⟩, ⟨0, .phase⟩, ⟨1, .phase⟩, ⟨2, .phase⟩], none⟩) (v := er (E 1)) ?_
   simp only [pG,Act.put]
   show (Exit.then _ _) .normal _ _
   go_wp2
   refine bodyPost_ret (res2_29 Tryd.results12 _ _ g2 #[.int .i64 0,.int .i64 0,.int .i64 0,.int .i64 0,.int .i64 0,.int .i64 0,.int .i64 0,.int .i64 0,.int .i64 0,.int .i64 0,.slice none 0 0,.int .i64 0,.int .i64 0,.int .i64 0,.bool false,.slice none 0 0] (er (E 1)) (by rfl) (by rfl) (setRow_heap _ _ _ _ _ _ kd.out) (by rfl)) rfl ?_
   exact .inl ⟨HGN.out, rfl, below_setRow (BW.out.trans (bd.out.mono BW.out.size)) (by have := GG.out; omega) _⟩
 | true =>
   have TV : Hid (rMw L1 = some (tupM y v ys L)) := by
    rcases HVV.out with ⟨_, h⟩ | ⟨h, _⟩
    . exact h
    . cases h
   obtain ⟨Y, hY, hO⟩ := M4.out.led
   have HY : Hid (led Y = ys.map Nm.cm) := hY
   have HO : Hid (Oc w4 w2.heap.size la ln lc Y) := hO
   clear hY hO
   have C4 : Hid (Cms w4 0 la ln Y) := HO.out.cms.mono (Nat.zero_le _)
   have MF : Hid (mf (y.mc la ln lc fa fn fc) (led Y) = mfN y ys L) := mf_mem (by
    have h := congrArg List.length HY.out
    simp only [led, List.length_map] at h
    rw [HO.out.len]
    exact h) M4.out.fr.len HY.out
   have E4 : Hid (Sent w4 M E) := hE.out.below BW.out
   have RG : Hid (rMg L1 = if mfN y ys L = true then some (y, ys, L) else none) := by
    show _ = _
    unfold rMg
    rw [TV.out, Option.bind_some, unT_tup HYV.out]
   rcases Bool.eq_false_or_eq_true (mfN y ys L) with hf | hf
   . have HF : Hid (mf (y.mc la ln lc fa fn fc) (led Y) = true) := MF.out.trans hf
     have RY : Hid (rMg L1 = some (y, ys, L)) := by rw [RG.out, if_pos hf]; exact hidI rfl
     clear hf RG
     go_upto_region 7 with first
      | (refine wpList_load_rowG (by rfl) 29 (.tmp 6) (by rfl) g6 (by rfl) 29 A (0, 0) _ k6.out Tryd.underlying29 rfl (info29 a16) ?_)
      | (go_at_call 15; refine (inFormM_n HAe E4 hM0 C4).mono ?_; rintro e w5 ⟨rfl, h5⟩; rw [HF.out])
     have k65 := sh h5 k6
     have k25 := sh h5 k4
     go_wp2_with first
      | (refine wpList_load_row (by rfl) 29 (.tmp 6) (by rfl) g6 (by rfl) 29 A (0, 0) _ k65.out Tryd.underlying29 rfl (info29 a16) ?_)
      | (refine wpList_store_row (by rfl) 29 (.tmp 2) (.tmp 31) (by rfl) g2 A (by rfl) (by rfl) 29 _ k25.out (info29 a16) a16.symm (encM_all HAe.out) ?_)
     refine bodyPost_ret (res2_29 Tryd.results12 _ _ g2 A .nilIface (by rfl) (by rfl) (setRow_heap _ _ _ _ _ _ k25.out) a16) rfl ?_
     have oth : ∀ k, k ≠ g2 -> (w5.setRow g2 A).heap[k]? = w5.heap[k]? := fun k hk => setRow_other _ _ _ _ hk
     have hF := M4.out.fr.below h5.out
     refine .inr ⟨A, y, ys, L, la, ln, lc, fa, fn, fc, Y, RY.out, rfl, HAe.out, HY.out, ((HO.out.below h5.out).frame (fun k hk _ => oth k (by have := G26.out; omega))).low B2.out.size, (hF.block (fun q hq => oth q (by have := (hF.ge q hq).1; have := G26.out; omega))).le B2.out.size, M4.out.len, below_setRow (BW.out.trans (h5.out.mono BW.out.size)) (by have := GG.out; omega) A⟩
   . have HF : Hid (mf (y.mc la ln lc fa fn fc) (led Y) = false) := MF.out.trans hf
     have HGN : Hid (rMg L1 = none) := by rw [RG.out, if_neg (by rw [hf]; decide)]; exact hidI rfl
     clear hf RG
     go_upto_region 6 with first
      | (refine wpList_load_rowG (by rfl) 29 (.tmp 6) (by rfl) g6 (by rfl) 29 A (0, 0) _ k6.out Tryd.underlying29 rfl (info29 a16) ?_)
      | (go_at_call 15; refine (inFormM_n HAe E4 hM0 C4).mono ?_; rintro e w5 ⟨rfl, h5⟩; rw [HF.out])
     have k5 := sh h5 k4
     have BW := show Hid (Below w.heap.size w w5) from BW.out.trans (h5.out.mono BW.out.size)
     obtain ⟨wd, Hwd⟩ := nm (w5.drew)
     have bd : Hid (Below w5.heap.size w5 wd) := by rw [<- Hwd.out]; exact below_drewN (Below.refl _ _) 1
     have kd := sh bd k5
     have ce : Hid (wd.cell? ⟨1, 0, none⟩ = some (er (E 1)) /\ g2 ≠ 1) := by
      refine ⟨((hE.out.below BW.out).below bd.out).c 1 hM, ?_⟩
      have h := cell_block_lt (hE.out.c 1 hM)
      have := GG.out
      have h2 : (1 : Nat) < w.heap.size := h
      omega
     refine wp_region_seq (C := fun W => W.cell? ⟨1, 0, none⟩ = some (er (E 1))) [(0, false), (1, false), (2, true), (3, false)] (by kernel_rfl) (by kernel_rfl) (by rw [Hwd.out]; exact ce.out.1) ?_
     rw [Hwd.out]
     refine stk (o := ⟨some 29, .build 29 #[], 29, "post.go:45", #[], none⟩) (v := .agg #[.int .i64 0,.int .i64 0,.int .i64 0,.int .i64 0,.int .i64 0,.int .i64 0,.int .i64 0,.int .i64 0,.int .i64 0,.int .i64 0,.slice none 0 0,.int .i64 0,.int .i64 0,.int .i64 0,.bool false,.slice none 0 0]) ?_
     simp only [pG,Act.put]
     refine sty (o := ⟨some 30, .load 33 (.global 1), 33, "post.go:45", #[{ on := 2, ground := .gcOnly Go.Departure.lateStores }], none⟩) (v := er (E 1)) (Or.inl ⟨by kernel_rfl, fun W hW => by have q0 := hW; go_simp⟩) ?_
     simp only [pG,Act.put]
     refine seq_call (o := ⟨none, .store 29 (.tmp 2) (.tmp 29), 0, "post.go:45", #[⟨0, .data⟩, ⟨0, .phase⟩, { on := 1, ground := .textOnly Go.Departure.lateStores }], none⟩) (by kernel_rfl) (fun KK hK => ?_)
     rw [if_pos (by kernel_rfl)]
     refine wp_store_row 29 (.tmp 2) (.tmp 29) (by rfl) g2 #[.int .i64 0,.int .i64 0,.int .i64 0,.int .i64 0,.int .i64 0,.int .i64 0,.int .i64 0,.int .i64 0,.int .i64 0,.int .i64 0,.slice none 0 0,.int .i64 0,.int .i64 0,.int .i64 0,.bool false,.slice none 0 0] (by rfl) (by rfl) 29 _ kd.out (info29 (by rfl)) (by rfl) Zone ?_
     refine hK.out _ _ ((cell_setRow_other _ _ _ _ (show (1 : Nat) ≠ g2 from Ne.symm ce.out.2)).trans ce.out.1) ?_
     clear hK KK
     try simp only [pG,Act.put]
     refine stk (o := ⟨some 3, .assign (.tmp 30), 33, "post.go:45", #[⟨1, .data⟩, ⟨2, .chain⟩, ⟨0, .phase⟩, ⟨1, .phase⟩, ⟨2, .phase⟩], none⟩) (v := er (E 1)) ?_
     simp only [pG,Act.put]
     show (Exit.then _ _) .normal _ _
     go_wp2
     refine bodyPost_ret (res2_29 Tryd.results12 _ _ g2 #[.int .i64 0,.int .i64 0,.int .i64 0,.int .i64 0,.int .i64 0,.int .i64 0,.int .i64 0,.int .i64 0,.int .i64 0,.int .i64 0,.slice none 0 0,.int .i64 0,.int .i64 0,.int .i64 0,.bool false,.slice none 0 0] (er (E 1)) (by rfl) (by rfl) (setRow_heap _ _ _ _ _ _ kd.out) (by rfl)) rfl ?_
     exact .inl ⟨HGN.out, rfl, below_setRow (BW.out.trans (bd.out.mono BW.out.size)) (by have := GG.out; omega) _⟩
structure TwM (w W : World) (g1 g3 g4 : Nat) (A Z : Array Value) : Prop where
 h1 : W.heap[g1]? = some (.cells A 29 (0, 0))
 h3 : W.heap[g3]? = some (.cells #[.int .i64 0,.int .i64 0] 25 (0, 0))
 h4 : W.heap[g4]? = some (.cells Z 29 (0, 0))
 ne : g1 < g3 /\ g3 < g4 /\ w.heap.size <= g1
 bel : Below w.heap.size w W
section
variable {w W W' : World} {g1 g3 g4 : Nat} {A Z : Array Value}
theorem TwM.below (h : TwM w W g1 g3 g4 A Z) (hb : Below W.heap.size W W') : TwM w W' g1 g3 g4 A Z :=
 ⟨(hb.block _ (gl h.h1)).trans h.h1, (hb.block _ (gl h.h3)).trans h.h3, (hb.block _ (gl h.h4)).trans h.h4, h.ne, h.bel.trans (hb.mono h.bel.size)⟩
theorem TwM.set (h : TwM w W g1 g3 g4 A Z) (j : Nat) (v : Value) : TwM w (W.setCell ⟨g4, j, none⟩ v) g1 g3 g4 A (Z.setIfInBounds j v) := by
 have e := h.ne
 exact ⟨(Below.heap_setCell _ _ _ _ (by show g1 ≠ g4; omega)).trans h.h1, (Below.heap_setCell _ _ _ _ (by show g3 ≠ g4; omega)).trans h.h3, set_blk h.h4 j v, h.ne, h.bel.trans ((Ch.set W g4 j v).toBelow h.bel.size (fun q hq e2 => by have e3 : q = g4 := e2; omega))⟩
theorem TwM.c (h : TwM w W g1 g3 g4 A Z) (j : Nat) (v : Value) (hv : A[j]? = some v) : W.cell? ⟨g1, j, none⟩ = some v := by simp [World.cell?, h.h1, hv]
theorem TwM.b (h : TwM w W g1 g3 g4 A Z) (j : Nat) (v : Value) (hv : (#[.int .i64 0,.int .i64 0] : Array Value)[j]? = some v) : W.cell? ⟨g3, j, none⟩ = some v := by simp [World.cell?, h.h3, hv]
theorem TwM.z (h : TwM w W g1 g3 g4 A Z) (j : Nat) (v : Value) (hv : Z[j]? = some v) : W.cell? ⟨g4, j, none⟩ = some v := by simp [World.cell?, h.h4, hv]
theorem TwM.fz (h : TwM w W g1 g3 g4 A Z) (i : Nat) : W.frozen? ⟨g4, i, none⟩ = false := by simp [World.frozen?, h.h4]
end
theorem Ms.below {w w' : World} {x : Mc} {X : List Cx} {L : List Nat} (h : Ms w x X L) (hb : Below w.heap.size w w') : Ms w' x X L := ⟨h.led.below hb, h.fr.below hb, h.lz, h.fz, h.fle, h.flt⟩
theorem sln_none (w : World) : Sln w none 0 [] := ⟨rfl, by simp, by simp, .inl rfl⟩
set_option maxHeartbeats 4000000 in
theorem inFm_bad {k : Int} {w : World} {f t t0 t1 t2 p0 p1 q0 q1 : Int} {la : Option Addr} {ln lc : Nat} {u0 u1 u2 : Int} {vk : Bool} {fa : Option Addr} {fn fc : Nat} {X : List Cx} {L : List Nat} (hp : Hid (ndT f = false ∨ ndT t = false ∨ gdI t0 t1 t2 = false)) :
  Calls Tryd.prog 11 #[.agg #[.int .i64 k,.int .i64 f,.int .i64 t,.int .i64 t0,.int .i64 t1,.int .i64 t2,.int .i64 p0,.int .i64 p1,.int .i64 q0,.int .i64 q1,.slice la ln lc,.int .i64 u0,.int .i64 u1,.int .i64 u2,.bool vk,.slice fa fn fc]] w fun e w' => e = .returned (.bool (mf ⟨k, f, t, t0, t1, t2, p0, p1, q0, q1, la, ln, lc, u0, u1, u2, vk, fa, fn, fc⟩ (led X))) /\ Hid (Below w.heap.size w w') := by
 obtain ⟨v, Hv⟩ := nm (mf ⟨k, f, t, t0, t1, t2, p0, p1, q0, q1, la, ln, lc, u0, u1, u2, vk, fa, fn, fc⟩ (led X))
 have FV : Hid (v = false) := by
  rw [<- Hv.out]
  show _ = _
  unfold mf
  rcases hp.out with h | h | h <;> simp [h]
 rw [Hv.out, FV.out]
 clear Hv FV
 obtain ⟨g1, Hg1⟩ := nm (w.heap.size)
 obtain ⟨w1, Hw1⟩ := nm (w.alloc (.cells #[.int .i64 k,.int .i64 f,.int .i64 t,.int .i64 t0,.int .i64 t1,.int .i64 t2,.int .i64 p0,.int .i64 p1,.int .i64 q0,.int .i64 q1,.slice la ln lc,.int .i64 u0,.int .i64 u1,.int .i64 u2,.bool vk,.slice fa fn fc] 29))
 have B1 := al1 Hw1
 have k1 : Hid (w1.heap[g1]? = some (.cells #[.int .i64 k,.int .i64 f,.int .i64 t,.int .i64 t0,.int .i64 t1,.int .i64 t2,.int .i64 p0,.int .i64 p1,.int .i64 q0,.int .i64 q1,.slice la ln lc,.int .i64 u0,.int .i64 u1,.int .i64 u2,.bool vk,.slice fa fn fc] 29 (0, 0))) := by rw [<- Hw1.out, <- Hg1.out]; exact heap_alloc_new w _
 have x1 : w1.cell? ⟨g1, 1, none⟩ = some (.int .i64 f) := by simp [World.cell?, k1.out]
 have x2 : w1.cell? ⟨g1, 2, none⟩ = some (.int .i64 t) := by simp [World.cell?, k1.out]
 have x3 : w1.cell? ⟨g1, 3, none⟩ = some (.int .i64 t0) := by simp [World.cell?, k1.out]
 have x4 : w1.cell? ⟨g1, 4, none⟩ = some (.int .i64 t1) := by simp [World.cell?, k1.out]
 have x5 : w1.cell? ⟨g1, 5, none⟩ = some (.int .i64 t2) := by simp [World.cell?, k1.out]
 by_cases n1 : f < 0
 . clear hp
   go_enter Tryd.func11, Tryd.ntmps11
   go_upto_region 1 with (fail)
   rw [Hw1.out, Hg1.out]
   go_wp2
   go_ret
   exact ⟨rfl, B1.out⟩
 by_cases n2 : 15 < f
 . clear hp
   go_enter Tryd.func11, Tryd.ntmps11
   go_upto_region 1 with (fail)
   rw [Hw1.out, Hg1.out]
   go_wp2
   go_ret
   exact ⟨rfl, B1.out⟩
 by_cases n3 : t < 0
 . clear hp
   go_enter Tryd.func11, Tryd.ntmps11
   go_upto_region 1 with (fail)
   rw [Hw1.out, Hg1.out]
   go_wp2
   go_ret
   exact ⟨rfl, B1.out⟩
 by_cases n4 : 15 < t
 . clear hp
   go_enter Tryd.func11, Tryd.ntmps11
   go_upto_region 1 with (fail)
   rw [Hw1.out, Hg1.out]
   go_wp2
   go_ret
   exact ⟨rfl, B1.out⟩
 have HG : Hid (gdI t0 t1 t2 = false) := by
  rcases hp.out with h | h | h
  . have h : ¬ (0 <= f /\ f < 16) := of_decide_eq_false h
    exfalso; omega
  . have h : ¬ (0 <= t /\ t < 16) := of_decide_eq_false h
    exfalso; omega
  . exact h
 clear hp
 go_enter Tryd.func11, Tryd.ntmps11
 go_upto_region 1 with (fail)
 rw [Hw1.out, Hg1.out]
 go_wp2_with (go_at_call 20; refine (refGoodId_n _ _ _ _).mono ?_; rintro e w2 ⟨rfl, h2⟩; rw [HG.out])
 go_ret
 exact ⟨rfl, B1.out.trans (by rw [h2.out]; exact (alloc1 _ _).mono B1.out.size)⟩
end Go.Proofs.YtppibcambhmomaaDoor
