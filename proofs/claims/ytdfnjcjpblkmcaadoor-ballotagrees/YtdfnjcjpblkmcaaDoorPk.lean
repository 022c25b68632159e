/- ask: Prepare and a variable's memory, in whatever order. -/
import Derived.Test.YtdfnjcjpblkmcaaDoorPj
namespace Go.Proofs.YtdfnjcjpblkmcaaDoor
open Go.ChangeShapes Go.WideShapes Go.ChangeAt Go.RowKit
set_option maxRecDepth 20000
set_option linter.unusedVariables false
set_option linter.unusedSimpArgs false
def ops10 : Array Oper := #[{ dst := some 40, op := Go.Op.move (Go.Operand.tmp 0), type := 57, pos := "law.go:264", after := #[], guard := none }, { dst := some 41, op := Go.Op.move (Go.Operand.tmp 15), type := 3, pos := "law.go:264", after := #[], guard := none }, { dst := some 42, op := Go.Op.indexAddr 57 (Go.Operand.tmp 40) (Go.Operand.tmp 41), type := 0, pos := "law.go:264", after := #[{ on := 0, ground := Go.Ground.data }, { on := 1, ground := Go.Ground.data }], guard := none }, { dst := some 43, op := Go.Op.load 25 (Go.Operand.tmp 42), type := 25, pos := "law.go:264", after := #[{ on := 2, ground := Go.Ground.data }], guard := none }, { dst := some 44, op := Go.Op.fieldAddr 66 (Go.Operand.tmp 4) 0, type := 0, pos := "law.go:264", after := #[], guard := none }, { dst := some 45, op := Go.Op.load 34 (Go.Operand.tmp 44), type := 34, pos := "law.go:264", after := #[{ on := 4, ground := Go.Ground.data }], guard := none }, { dst := some 46, op := Go.Op.call { callee := Go.Callee.value (Go.Operand.func 15), args := #[Go.Operand.tmp 43, Go.Operand.tmp 45], argTypes := #[25, 34] }, type := 48, pos := "law.go:264", after := #[{ on := 3, ground := Go.Ground.data }, { on := 5, ground := Go.Ground.data }], guard := none }, { dst := some 39, op := Go.Op.move (Go.Operand.tmp 46), type := 48, pos := "law.go:264", after := #[{ on := 6, ground := Go.Ground.data }], guard := none }, { dst := some 47, op := Go.Op.extract (Go.Operand.tmp 39) 0, type := 34, pos := "law.go:264", after := #[{ on := 7, ground := Go.Ground.data }], guard := none }, { dst := some 48, op := Go.Op.extract (Go.Operand.tmp 39) 1, type := 35, pos := "law.go:264", after := #[{ on := 7, ground := Go.Ground.data }, { on := 12, ground := Go.Ground.gcOnly Go.Departure.lateStores }], guard := none }, { dst := some 49, op := Go.Op.extract (Go.Operand.tmp 39) 2, type := 30, pos := "law.go:264", after := #[{ on := 7, ground := Go.Ground.data }, { on := 13, ground := Go.Ground.gcOnly Go.Departure.lateStores }], guard := none }, { dst := some 16, op := Go.Op.alloc 34, type := 0, pos := "law.go:264", after := #[], guard := none }, { dst := none, op := Go.Op.store 34 (Go.Operand.tmp 16) (Go.Operand.tmp 47), type := 0, pos := "law.go:264", after := #[{ on := 11, ground := Go.Ground.data }, { on := 8, ground := Go.Ground.data }, { on := 6, ground := Go.Ground.chain }, { on := 0, ground := Go.Ground.phase }, { on := 1, ground := Go.Ground.phase }, { on := 2, ground := Go.Ground.phase }, { on := 3, ground := Go.Ground.phase }, { on := 4, ground := Go.Ground.phase }, { on := 5, ground := Go.Ground.phase }, { on := 6, ground := Go.Ground.phase }, { on := 7, ground := Go.Ground.phase }, { on := 8, ground := Go.Ground.phase }, { on := 9, ground := Go.Ground.textOnly Go.Departure.lateStores }, { on := 10, ground := Go.Ground.textOnly Go.Departure.lateStores }, { on := 11, ground := Go.Ground.phase }], guard := none }, { dst := some 17, op := Go.Op.assign (Go.Operand.tmp 48), type := 35, pos := "law.go:264", after := #[{ on := 9, ground := Go.Ground.data }, { on := 12, ground := Go.Ground.chain }, { on := 0, ground := Go.Ground.phase }, { on := 1, ground := Go.Ground.phase }, { on := 2, ground := Go.Ground.phase }, { on := 3, ground := Go.Ground.phase }, { on := 4, ground := Go.Ground.phase }, { on := 5, ground := Go.Ground.phase }, { on := 6, ground := Go.Ground.phase }, { on := 7, ground := Go.Ground.phase }, { on := 8, ground := Go.Ground.phase }, { on := 9, ground := Go.Ground.phase }, { on := 10, ground := Go.Ground.textOnly Go.Departure.lateStores }, { on := 11, ground := Go.Ground.phase }, { on := 12, ground := Go.Ground.phase }], guard := none }, { dst := some 18, op := Go.Op.assign (Go.Operand.tmp 49), type := 30, pos := "law.go:264", after := #[{ on := 10, ground := Go.Ground.data }, { on := 13, ground := Go.Ground.chain }, { on := 0, ground := Go.Ground.phase }, { on := 1, ground := Go.Ground.phase }, { on := 2, ground := Go.Ground.phase }, { on := 3, ground := Go.Ground.phase }, { on := 4, ground := Go.Ground.phase }, { on := 5, ground := Go.Ground.phase }, { on := 6, ground := Go.Ground.phase }, { on := 7, ground := Go.Ground.phase }, { on := 8, ground := Go.Ground.phase }, { on := 9, ground := Go.Ground.phase }, { on := 10, ground := Go.Ground.phase }, { on := 11, ground := Go.Ground.phase }, { on := 12, ground := Go.Ground.phase }, { on := 13, ground := Go.Ground.phase }], guard := none }]
structure Tz (W : World) (ab o gk g4 : Nat) (rr qq : Int) : Prop where
  p : W.cell? ⟨ab, o, none⟩ = some (.pointer (some ⟨gk, 0, none⟩))
  b0 : W.cell? ⟨g4, 0, none⟩ = some (.int .i64 rr)
  b1 : W.cell? ⟨g4, 1, none⟩ = some (.int .i64 qq)
theorem Tz.below {W W' : World} {ab o gk g4 : Nat} {rr qq : Int} (h : Tz W ab o gk g4 rr qq) (hb : Below W.heap.size W W') : Tz W' ab o gk g4 rr qq :=
  ⟨(hb.cell (p := ⟨ab, o, none⟩) (cell_lt h.p)).trans h.p, (hb.cell (p := ⟨g4, 0, none⟩) (cell_lt h.b0)).trans h.b0, (hb.cell (p := ⟨g4, 1, none⟩) (cell_lt h.b1)).trans h.b1⟩
/- behind the region -/
structure E10 (wd V : World) (H g : Nat) (s : As) (rr qq : Int) (a : Option Addr) (m c : Nat) (X : List Cx) (p : Nat) (a' : Option Addr) (m' c' : Nat) : Prop where
  oc : ∃ Y, led Y = prL s rr qq ∧ Oc V wd.heap.size a' m' c' Y
  acc : Acc V 84 H g (prS s rr qq) a m c X
  ch : Ch wd V (fun q => q = g)
  k : V.heap[p]? = some (.cells #[.int .i64 (prA s rr qq).1, .int .i64 (prA s rr qq).2] 34 (0, 0))
  lt : wd.heap.size ≤ p
section
variable {wd w4 w5 w6 : World} {H g : Nat} {s : As} {rr qq : Int} {a : Option Addr} {m c : Nat} {X : List Cx} {p : Nat} {ya : Option Addr} {ym yc : Nat} {Y : List Cx}
theorem set2_k {W : World} {p : Nat} {x y : Value} {v0 v1 : Value} (h : W.heap[p]? = some (.cells #[v0, v1] 34 (0, 0))) : ((W.setCell ⟨p, 0, none⟩ x).setCell ⟨p, 1, none⟩ y).heap[p]? = some (.cells #[x, y] 34 (0, 0)) := by rw [set_blk (set_blk h 0 _) 1 _]; rfl
theorem set2_ch (W : World) (p : Nat) (x y : Value) : Ch W ((W.setCell ⟨p, 0, none⟩ x).setCell ⟨p, 1, none⟩ y) (fun q => q = p) := (Ch.set W p 0 _).trans (Ch.set _ p 1 _)
theorem e10_s {W : World} (y1 : led Y = prL s rr qq) (y2 : Oc W wd.heap.size ya ym yc Y) (y3 : Acc W 84 H g (prS s rr qq) a m c X) (y4 : Ch wd W (fun q => q = g)) (k : W.heap[p]? = some (.cells #[.int .i64 0, .int .i64 0] 34 (0, 0))) (hp : wd.heap.size ≤ p) (hf : ∀ q, fpc a m X q → q < wd.heap.size) : E10 wd ((W.setCell ⟨p, 0, none⟩ (.int .i64 (prA s rr qq).1)).setCell ⟨p, 1, none⟩ (.int .i64 (prA s rr qq).2)) H g s rr qq a m c X p ya ym yc := by
  have C := set2_ch W p (.int .i64 (prA s rr qq).1) (.int .i64 (prA s rr qq).2)
  have hg : g ≠ p := fun e => by have h := y3.blk; rw [e, k] at h; simp only [Option.some.injEq, Obj.cells.injEq] at h; exact absurd h.2.1 (by decide)
  refine ⟨⟨Y, y1, ⟨rown_bel y2.row (fun q e => C.block q (y2.row.lt q e).2 (fun e2 => ?_)), y2.sz, fun x hx => ⟨rown_bel (y2.ps x hx).1 (fun q e => C.block q ((y2.ps x hx).1.lt q e).2 (fun e2 => ?_)), (y2.ps x hx).2⟩, y2.st⟩⟩, ?_, y4.then C (fun q _ e => e) (fun q hq e => by have e2 : q = p := e; omega), set2_k k, hp⟩
  · have := own_blk_ty y2.row k (by rw [← ownBlock_slice ya ym yc, e, e2])
    omega
  · have := own_blk_ty (y2.ps x hx).1 k (by rw [← ownBlock_slice x.pa x.pn x.pc, e, e2])
    omega
  · exact y3.keepF C.size (C.block g y3.glt hg) (fun q hq => C.block q (y3.cms.fp_lt hq).2 (fun e => by have := hf q hq; have e2 : q = p := e; omega))
end
set_option maxHeartbeats 4000000 in
theorem reg10 {Q : Exit → Act → World → Prop} {M : Nat} {E : Nat → Addr} {w : World} {H g ab ao n acp kk g4 : Nat} {s : As} {a : Option Addr} {m c : Nat} {X : List Cx} {rr qq : Int} {u1 u2 u3 u5 u6 u7 u8 u9 u10 u11 u12 u13 u14 u16 u17 u18 u19 u20 u21 u22 u23 u24 u25 u26 u27 u28 u29 u30 u31 u32 u33 u34 u35 u36 u37 u38 u39 u40 u41 u42 u43 u44 u45 u46 u47 u48 u49 u50 u51 u52 u53 u54 u55 u56 u57 u58 u59 u60 u61 u62 u63 u64 u65 u66 u67 u68 u69 u70 u71 u72 u73 u74 u75 u76 u77 u78 u79 u80 u81 u82 u83 u84 u85 u86 u87 u88 u89 u90 u91 : Value}
    (hA : Hid (Acc w 84 H g s a m c X)) (hE : Hid (Sent w M E)) (hM : 2 ≤ M) (TZ0 : Tz w ab (ao + kk) g g4 rr qq) (hkk : (kk : Int) < (n : Int)) (hQp : ∀ x a (d : Nat) v W, Q (.panic x) (a.put (some d) v) W → Q (.panic x) a W)
    (hQ : ∀ (V : World) (p : Nat) (a' : Option Addr) (m' c' : Nat), E10 w.drew V H g s rr qq a m c X p a' m' c' → Q .normal { tmps := #[.slice (some ⟨ab, ao, none⟩) n acp, u1, u2, u3, .pointer (some ⟨g4, 0, none⟩), u5, u6, u7, u8, u9, u10, u11, u12, u13, u14, .int .i64 (kk : Int), .pointer (some ⟨p, 0, none⟩), (.slice a' m' c'), errv E (prk s rr qq), u19, u20, u21, u22, u23, u24, u25, u26, u27, u28, u29, u30, u31, u32, u33, u34, u35, u36, u37, u38, .tuple #[bal (prA s rr qq).1 (prA s rr qq).2, .slice a' m' c', errv E (prk s rr qq)], .slice (some ⟨ab, ao, none⟩) n acp, .int .i64 (kk : Int), .pointer (some ⟨ab, ao + kk, none⟩), .pointer (some ⟨g, 0, none⟩), .pointer (some ⟨g4, 0, none⟩), bal rr qq, .tuple #[bal (prA s rr qq).1 (prA s rr qq).2, .slice a' m' c', errv E (prk s rr qq)], bal (prA s rr qq).1 (prA s rr qq).2, (.slice a' m' c'), errv E (prk s rr qq), u50, u51, u52, u53, u54, u55, u56, u57, u58, u59, u60, u61, u62, u63, u64, u65, u66, u67, u68, u69, u70, u71, u72, u73, u74, u75, u76, u77, u78, u79, u80, u81, u82, u83, u84, u85, u86, u87, u88, u89, u90, u91], defers := [] } V) :
    (Code.region 10 ops10 true).wp Tryd.prog Q { tmps := #[.slice (some ⟨ab, ao, none⟩) n acp, u1, u2, u3, .pointer (some ⟨g4, 0, none⟩), u5, u6, u7, u8, u9, u10, u11, u12, u13, u14, .int .i64 (kk : Int), u16, u17, u18, u19, u20, u21, u22, u23, u24, u25, u26, u27, u28, u29, u30, u31, u32, u33, u34, u35, u36, u37, u38, u39, u40, u41, u42, u43, u44, u45, u46, u47, u48, u49, u50, u51, u52, u53, u54, u55, u56, u57, u58, u59, u60, u61, u62, u63, u64, u65, u66, u67, u68, u69, u70, u71, u72, u73, u74, u75, u76, u77, u78, u79, u80, u81, u82, u83, u84, u85, u86, u87, u88, u89, u90, u91], defers := [] } w := by
  unfold ops10
  obtain ⟨wd, Hwd⟩ : ∃ wd, Hid (w.drew = wd) := ⟨_, rfl⟩
  rw [Hwd.out] at hQ
  have TZ : Tz wd ab (ao + kk) g g4 rr qq := by rw [← Hwd.out]; exact ⟨TZ0.p, TZ0.b0, TZ0.b1⟩
  have HA : Hid (Acc wd 84 H g s a m c X) := by rw [← Hwd.out]; exact hA.out.below (Below.refl _ _).drew
  have HE : Hid (Sent wd M E) := by rw [← Hwd.out]; exact hE.out.below (Below.refl _ _).drew
  have HF : Hid (∀ q, fpc a m X q → q < wd.heap.size) := fun q hq => (HA.out.cms.fp_lt hq).2
  clear TZ0
  refine wp_region_till (S := tillP 6 (fun W => Tz W ab (ao + kk) g g4 rr qq)) (by kernel_rfl) (.inr (by rw [Hwd.out]; exact TZ)) (fun hS => ?_)
  rw [Hwd.out] at hS ⊢
  refine till_take (i := 0) (v := .slice (some ⟨ab, ao, none⟩) n acp) rfl (by kernel_rfl) (by kernel_rfl) (by kernel_rfl) (fun _ _ _ h => hQp _ _ _ _ _ h) (fun L w => tillP_set (by decide)) (Or.inl ⟨by rfl, fun w => by go_simp⟩) hS (fun hSb => ?_)
  simp only [List.getElem_toArray, List.getElem_cons_zero, List.getElem_cons_succ, Act.put, List.setIfInBounds_toArray, List.set_cons_zero, List.set_cons_succ]
  clear hS
  refine till_take (i := 1) (v := .int .i64 (kk : Int)) rfl (by kernel_rfl) (by kernel_rfl) (by kernel_rfl) (fun _ _ _ h => hQp _ _ _ _ _ h) (fun L w => tillP_set (by decide)) (Or.inl ⟨by rfl, fun w => by go_simp⟩) hSb (fun hS => ?_)
  simp only [List.getElem_toArray, List.getElem_cons_zero, List.getElem_cons_succ, Act.put, List.setIfInBounds_toArray, List.set_cons_zero, List.set_cons_succ]
  clear hSb
  refine till_take (i := 2) (v := .pointer (some ⟨ab, ao + kk, none⟩)) rfl (by kernel_rfl) (by kernel_rfl) (by kernel_rfl) (fun _ _ _ h => hQp _ _ _ _ _ h) (fun L w => tillP_set (by decide)) (Or.inl ⟨by rfl, fun w => by go_simp⟩) hS (fun hSb => ?_)
  simp only [List.getElem_toArray, List.getElem_cons_zero, List.getElem_cons_succ, Act.put, List.setIfInBounds_toArray, List.set_cons_zero, List.set_cons_succ]
  clear hS
  refine till_readc (i := 3) (cs := [6]) (v := .pointer (some ⟨g, 0, none⟩)) (T := fun W => Tz W ab (ao + kk) g g4 rr qq) rfl (by kernel_rfl) (by kernel_rfl) (by kernel_rfl) (by kernel_rfl) (by kernel_rfl) (fun _ _ _ h => hQp _ _ _ _ _ h) (fun L w => tillP_set (by decide)) (fun L w h1 h2 => tillP_out (h1 6 (by simp)) h2) (Or.inl ⟨by rfl, fun w h => by have q0 := h.p; go_simp⟩) hSb (fun hS => ?_)
  simp only [List.getElem_toArray, List.getElem_cons_zero, List.getElem_cons_succ, Act.put, List.setIfInBounds_toArray, List.set_cons_zero, List.set_cons_succ]
  clear hSb
  refine till_take (i := 4) (v := .pointer (some ⟨g4, 0, none⟩)) rfl (by kernel_rfl) (by kernel_rfl) (by kernel_rfl) (fun _ _ _ h => hQp _ _ _ _ _ h) (fun L w => tillP_set (by decide)) (Or.inl ⟨by rfl, fun w => by go_simp⟩) hS (fun hSb => ?_)
  simp only [List.getElem_toArray, List.getElem_cons_zero, List.getElem_cons_succ, Act.put, List.setIfInBounds_toArray, List.set_cons_zero, List.set_cons_succ]
  clear hS
  refine till_readc (i := 5) (cs := [6]) (v := bal rr qq) (T := fun W => Tz W ab (ao + kk) g g4 rr qq) rfl (by kernel_rfl) (by kernel_rfl) (by kernel_rfl) (by kernel_rfl) (by kernel_rfl) (fun _ _ _ h => hQp _ _ _ _ _ h) (fun L w => tillP_set (by decide)) (fun L w h1 h2 => tillP_out (h1 6 (by simp)) h2) (Or.inl ⟨by rfl, fun w h => by have q0 := h.b0; have q1 := h.b1; go_simp⟩) hSb (fun hS => ?_)
  simp only [List.getElem_toArray, List.getElem_cons_zero, List.getElem_cons_succ, Act.put, List.setIfInBounds_toArray, List.set_cons_zero, List.set_cons_succ]
  clear hSb
  refine till_two (i := 6) (j := 11) (by kernel_rfl) ?_ ?_
  · refine ⟨_, rfl, fun K hK => ?_⟩
    simp only [List.getElem_toArray, List.getElem_cons_zero, List.getElem_cons_succ]
    rw [if_pos (by rfl)]
    go_simp
    go_wp2_with (go_at_call 15; refine (prepare_n HA HE hM rr qq).mono ?_; rintro e w5 ⟨ya, ym, yc, rfl, H5⟩)
    refine hK.out _ _ (.inl (by rfl)) (fun hSb => ?_)
    clear hK K
    try simp only [List.getElem_toArray, List.getElem_cons_zero, List.getElem_cons_succ, Act.put, List.setIfInBounds_toArray, List.set_cons_zero, List.set_cons_succ]
    clear hS
    refine till_take (i := 7) (v := .tuple #[bal (prA s rr qq).1 (prA s rr qq).2, .slice ya ym yc, errv E (prk s rr qq)]) rfl (by kernel_rfl) (by kernel_rfl) (by kernel_rfl) (fun _ _ _ h => hQp _ _ _ _ _ h) (fun L w => tillP_set (by decide)) (Or.inl ⟨by rfl, fun w => by go_simp⟩) hSb (fun hS => ?_)
    simp only [List.getElem_toArray, List.getElem_cons_zero, List.getElem_cons_succ, Act.put, List.setIfInBounds_toArray, List.set_cons_zero, List.set_cons_succ]
    clear hSb
    refine till_take (i := 8) (v := bal (prA s rr qq).1 (prA s rr qq).2) rfl (by kernel_rfl) (by kernel_rfl) (by kernel_rfl) (fun _ _ _ h => hQp _ _ _ _ _ h) (fun L w => tillP_set (by decide)) (Or.inl ⟨by rfl, fun w => by go_simp⟩) hS (fun hSb => ?_)
    simp only [List.getElem_toArray, List.getElem_cons_zero, List.getElem_cons_succ, Act.put, List.setIfInBounds_toArray, List.set_cons_zero, List.set_cons_succ]
    clear hS
    refine till_take (i := 9) (v := .slice ya ym yc) rfl (by kernel_rfl) (by kernel_rfl) (by kernel_rfl) (fun _ _ _ h => hQp _ _ _ _ _ h) (fun L w => tillP_set (by decide)) (Or.inl ⟨by rfl, fun w => by go_simp⟩) hSb (fun hS => ?_)
    simp only [List.getElem_toArray, List.getElem_cons_zero, List.getElem_cons_succ, Act.put, List.setIfInBounds_toArray, List.set_cons_zero, List.set_cons_succ]
    clear hSb
    refine till_take (i := 10) (v := errv E (prk s rr qq)) rfl (by kernel_rfl) (by kernel_rfl) (by kernel_rfl) (fun _ _ _ h => hQp _ _ _ _ _ h) (fun L w => tillP_set (by decide)) (Or.inl ⟨by rfl, fun w => by go_simp⟩) hS (fun hSb => ?_)
    simp only [List.getElem_toArray, List.getElem_cons_zero, List.getElem_cons_succ, Act.put, List.setIfInBounds_toArray, List.set_cons_zero, List.set_cons_succ]
    clear hS
    refine till_one (i := 11) (by kernel_rfl) rfl (fun K hK => ?_)
    simp only [List.getElem_toArray, List.getElem_cons_zero, List.getElem_cons_succ]
    rw [if_pos (by rfl)]
    go_simp
    obtain ⟨p, Hp⟩ : ∃ p, Hid (w5.heap.size = p) := ⟨_, rfl⟩
    obtain ⟨w6, Hw6⟩ : ∃ w6, Hid (w5.alloc (.cells #[.int .i64 0, .int .i64 0] 34) = w6) := ⟨_, rfl⟩
    have k6 : w6.heap[p]? = some (.cells #[.int .i64 0, .int .i64 0] 34 (0, 0)) := by rw [← Hw6.out, ← Hp.out]; exact heap_alloc_new w5 _
    have B6 : Hid (Below w5.heap.size w5 w6) := by rw [← Hw6.out]; exact alloc1 w5 _
    rw [Hw6.out, Hp.out]
    refine hK.out _ _ (.inl (by rfl)) (fun hS => ?_)
    clear hK K
    try simp only [List.getElem_toArray, List.getElem_cons_zero, List.getElem_cons_succ, Act.put, List.setIfInBounds_toArray, List.set_cons_zero, List.set_cons_succ]
    clear hSb
    refine till_one (i := 12) (by kernel_rfl) rfl (fun K hK => ?_)
    simp only [List.getElem_toArray, List.getElem_cons_zero, List.getElem_cons_succ]
    rw [if_pos (by rfl)]
    have v0 : w6.cell? ⟨p, 0, none⟩ = some (.int .i64 0) := by simp [World.cell?, k6]
    have v1 : w6.cell? ⟨p, 1, none⟩ = some (.int .i64 0) := by simp [World.cell?, k6]
    have vf : ∀ i, w6.frozen? ⟨p, i, none⟩ = false := fun i => by simp [World.frozen?, k6]
    obtain ⟨V, HV⟩ : ∃ V, Hid ((w6.setCell ⟨p, 0, none⟩ (.int .i64 (prA s rr qq).1)).setCell ⟨p, 1, none⟩ (.int .i64 (prA s rr qq).2) = V) := ⟨_, rfl⟩
    have FIN : Hid (E10 wd V H g s rr qq a m c X p ya ym yc) := by
      rw [← HV.out]
      obtain ⟨Y, y1, y2, y3, y4⟩ := H5.out
      exact e10_s y1 ((y2.below B6.out)) (y3.below B6.out) (y4.trans (Ch.below B6.out)) k6 (by have := Hp.out; have := y4.size; omega) HF.out
    go_simp
    rw [HV.out]
    refine hK.out _ _ (.inl (by rfl)) (fun hSb => ?_)
    clear hK K
    try simp only [List.getElem_toArray, List.getElem_cons_zero, List.getElem_cons_succ, Act.put, List.setIfInBounds_toArray, List.set_cons_zero, List.set_cons_succ]
    clear hS
    refine till_take (i := 13) (v := .slice ya ym yc) rfl (by kernel_rfl) (by kernel_rfl) (by kernel_rfl) (fun _ _ _ h => hQp _ _ _ _ _ h) (fun L w => tillP_set (by decide)) (Or.inl ⟨by rfl, fun w => by go_simp⟩) hSb (fun hS => ?_)
    simp only [List.getElem_toArray, List.getElem_cons_zero, List.getElem_cons_succ, Act.put, List.setIfInBounds_toArray, List.set_cons_zero, List.set_cons_succ]
    clear hSb
    refine till_take (i := 14) (v := errv E (prk s rr qq)) rfl (by kernel_rfl) (by kernel_rfl) (by kernel_rfl) (fun _ _ _ h => hQp _ _ _ _ _ h) (fun L w => tillP_set (by decide)) (Or.inl ⟨by rfl, fun w => by go_simp⟩) hS (fun hSb => ?_)
    simp only [List.getElem_toArray, List.getElem_cons_zero, List.getElem_cons_succ, Act.put, List.setIfInBounds_toArray, List.set_cons_zero, List.set_cons_succ]
    clear hS
    refine till_done (by kernel_rfl) ?_ _
    exact hQ V p ya ym yc FIN.out
  · refine ⟨_, rfl, fun K hK => ?_⟩
    simp only [List.getElem_toArray, List.getElem_cons_zero, List.getElem_cons_succ]
    rw [if_pos (by rfl)]
    go_simp
    obtain ⟨p, Hp⟩ : ∃ p, Hid (wd.heap.size = p) := ⟨_, rfl⟩
    obtain ⟨w4, Hw4⟩ : ∃ w4, Hid (wd.alloc (.cells #[.int .i64 0, .int .i64 0] 34) = w4) := ⟨_, rfl⟩
    have k4 : w4.heap[p]? = some (.cells #[.int .i64 0, .int .i64 0] 34 (0, 0)) := by rw [← Hw4.out, ← Hp.out]; exact heap_alloc_new wd _
    have B4 : Hid (Below wd.heap.size wd w4) := by rw [← Hw4.out]; exact alloc1 wd _
    have HA4 : Hid (Acc w4 84 H g s a m c X) := HA.out.below B4.out
    have HE4 : Hid (Sent w4 M E) := HE.out.below B4.out
    rw [Hw4.out, Hp.out]
    refine hK.out _ _ (.inr (TZ.below B4.out)) (fun hSb => ?_)
    clear hK K
    try simp only [List.getElem_toArray, List.getElem_cons_zero, List.getElem_cons_succ, Act.put, List.setIfInBounds_toArray, List.set_cons_zero, List.set_cons_succ]
    clear hS
    refine till_one (i := 6) (by kernel_rfl) rfl (fun K hK => ?_)
    simp only [List.getElem_toArray, List.getElem_cons_zero, List.getElem_cons_succ]
    rw [if_pos (by rfl)]
    go_simp
    go_wp2_with (go_at_call 15; refine (prepare_n HA4 HE4 hM rr qq).mono ?_; rintro e w5 ⟨ya, ym, yc, rfl, H5⟩)
    refine hK.out _ _ (.inl (by rfl)) (fun hS => ?_)
    clear hK K
    try simp only [List.getElem_toArray, List.getElem_cons_zero, List.getElem_cons_succ, Act.put, List.setIfInBounds_toArray, List.set_cons_zero, List.set_cons_succ]
    clear hSb
    refine till_take (i := 7) (v := .tuple #[bal (prA s rr qq).1 (prA s rr qq).2, .slice ya ym yc, errv E (prk s rr qq)]) rfl (by kernel_rfl) (by kernel_rfl) (by kernel_rfl) (fun _ _ _ h => hQp _ _ _ _ _ h) (fun L w => tillP_set (by decide)) (Or.inl ⟨by rfl, fun w => by go_simp⟩) hS (fun hSb => ?_)
    simp only [List.getElem_toArray, List.getElem_cons_zero, List.getElem_cons_succ, Act.put, List.setIfInBounds_toArray, List.set_cons_zero, List.set_cons_succ]
    clear hS
    refine till_take (i := 8) (v := bal (prA s rr qq).1 (prA s rr qq).2) rfl (by kernel_rfl) (by kernel_rfl) (by kernel_rfl) (fun _ _ _ h => hQp _ _ _ _ _ h) (fun L w => tillP_set (by decide)) (Or.inl ⟨by rfl, fun w => by go_simp⟩) hSb (fun hS => ?_)
    simp only [List.getElem_toArray, List.getElem_cons_zero, List.getElem_cons_succ, Act.put, List.setIfInBounds_toArray, List.set_cons_zero, List.set_cons_succ]
    clear hSb
    refine till_take (i := 9) (v := .slice ya ym yc) rfl (by kernel_rfl) (by kernel_rfl) (by kernel_rfl) (fun _ _ _ h => hQp _ _ _ _ _ h) (fun L w => tillP_set (by decide)) (Or.inl ⟨by rfl, fun w => by go_simp⟩) hS (fun hSb => ?_)
    simp only [List.getElem_toArray, List.getElem_cons_zero, List.getElem_cons_succ, Act.put, List.setIfInBounds_toArray, List.set_cons_zero, List.set_cons_succ]
    clear hS
    refine till_take (i := 10) (v := errv E (prk s rr qq)) rfl (by kernel_rfl) (by kernel_rfl) (by kernel_rfl) (fun _ _ _ h => hQp _ _ _ _ _ h) (fun L w => tillP_set (by decide)) (Or.inl ⟨by rfl, fun w => by go_simp⟩) hSb (fun hS => ?_)
    simp only [List.getElem_toArray, List.getElem_cons_zero, List.getElem_cons_succ, Act.put, List.setIfInBounds_toArray, List.set_cons_zero, List.set_cons_succ]
    clear hSb
    refine till_one (i := 12) (by kernel_rfl) rfl (fun K hK => ?_)
    simp only [List.getElem_toArray, List.getElem_cons_zero, List.getElem_cons_succ]
    rw [if_pos (by rfl)]
    have k5 : w5.heap[p]? = some (.cells #[.int .i64 0, .int .i64 0] 34 (0, 0)) := by
      obtain ⟨Y, y1, y2, y3, y4⟩ := H5.out
      exact chT y4 HA4.out.blk k4 (by decide)
    have v0 : w5.cell? ⟨p, 0, none⟩ = some (.int .i64 0) := by simp [World.cell?, k5]
    have v1 : w5.cell? ⟨p, 1, none⟩ = some (.int .i64 0) := by simp [World.cell?, k5]
    have vf : ∀ i, w5.frozen? ⟨p, i, none⟩ = false := fun i => by simp [World.frozen?, k5]
    obtain ⟨V, HV⟩ : ∃ V, Hid ((w5.setCell ⟨p, 0, none⟩ (.int .i64 (prA s rr qq).1)).setCell ⟨p, 1, none⟩ (.int .i64 (prA s rr qq).2) = V) := ⟨_, rfl⟩
    have FIN : Hid (E10 wd V H g s rr qq a m c X p ya ym yc) := by
      rw [← HV.out]
      obtain ⟨Y, y1, y2, y3, y4⟩ := H5.out
      exact e10_s y1 (y2.mono B4.out.size) y3 ((Ch.below B4.out).trans y4) k5 (by have := Hp.out; omega) HF.out
    go_simp
    rw [HV.out]
    refine hK.out _ _ (.inl (by rfl)) (fun hSb => ?_)
    clear hK K
    try simp only [List.getElem_toArray, List.getElem_cons_zero, List.getElem_cons_succ, Act.put, List.setIfInBounds_toArray, List.set_cons_zero, List.set_cons_succ]
    clear hS
    refine till_take (i := 13) (v := .slice ya ym yc) rfl (by kernel_rfl) (by kernel_rfl) (by kernel_rfl) (fun _ _ _ h => hQp _ _ _ _ _ h) (fun L w => tillP_set (by decide)) (Or.inl ⟨by rfl, fun w => by go_simp⟩) hSb (fun hS => ?_)
    simp only [List.getElem_toArray, List.getElem_cons_zero, List.getElem_cons_succ, Act.put, List.setIfInBounds_toArray, List.set_cons_zero, List.set_cons_succ]
    clear hSb
    refine till_take (i := 14) (v := errv E (prk s rr qq)) rfl (by kernel_rfl) (by kernel_rfl) (by kernel_rfl) (fun _ _ _ h => hQp _ _ _ _ _ h) (fun L w => tillP_set (by decide)) (Or.inl ⟨by rfl, fun w => by go_simp⟩) hS (fun hSb => ?_)
    simp only [List.getElem_toArray, List.getElem_cons_zero, List.getElem_cons_succ, Act.put, List.setIfInBounds_toArray, List.set_cons_zero, List.set_cons_succ]
    clear hS
    refine till_done (by kernel_rfl) ?_ _
    exact hQ V p ya ym yc FIN.out
end Go.Proofs.YtdfnjcjpblkmcaaDoor
