/- Three appends of count, in whatever order they come. -/
import Derived.Test.YtdfnjcjpblkmcaaDoorPb
namespace Go.Proofs.YtdfnjcjpblkmcaaDoor
open Go.ChangeShapes Go.WideShapes Go.ChangeAt Go.RowKit
set_option maxRecDepth 20000
set_option linter.unusedVariables false
set_option linter.unusedSimpArgs false
theorem till_uno {P : Program} {ops : Array Oper} {Q : Exit → Act → World → Prop} {md : Region.Mode} {S : Array Bool → World → Prop} {i : Nat} {f : Nat} {L : Array Bool} {a : Act} {w : World} (hr : Region.ready md ops L = [i]) (h1 : TillOp P md ops Q S f L a w i) : wpTill P md ops Q S (f + 1) L a w :=
  till_some hr (by simp) (fun k hk => by
    obtain rfl : k = i := by simpa using hk
    exact h1)
def ops9 : Array Oper := #[{ dst := some 31, op := Go.Op.move (Go.Operand.tmp 0), type := 58, pos := "law.go:188", after := #[], guard := none }, { dst := some 32, op := Go.Op.move (Go.Operand.tmp 0), type := 58, pos := "law.go:188", after := #[{ on := 25, ground := Go.Ground.gcOnly Go.Departure.lateStores }], guard := none }, { dst := some 33, op := Go.Op.move (Go.Operand.tmp 0), type := 58, pos := "law.go:188", after := #[{ on := 28, ground := Go.Ground.gcOnly Go.Departure.lateStores }], guard := none }, { dst := some 34, op := Go.Op.move (Go.Operand.tmp 0), type := 58, pos := "law.go:188", after := #[], guard := none }, { dst := some 35, op := Go.Op.nilCheck (Go.Operand.tmp 34), type := 0, pos := "law.go:188", after := #[{ on := 3, ground := Go.Ground.data }], guard := none }, { dst := some 36, op := Go.Op.fieldAddr 63 (Go.Operand.tmp 35) 0, type := 0, pos := "law.go:188", after := #[{ on := 4, ground := Go.Ground.data }], guard := none }, { dst := some 37, op := Go.Op.load 59 (Go.Operand.tmp 36), type := 59, pos := "law.go:188", after := #[{ on := 5, ground := Go.Ground.data }], guard := none }, { dst := some 38, op := Go.Op.load 34 (Go.Operand.tmp 5), type := 34, pos := "law.go:188", after := #[], guard := none }, { dst := some 39, op := Go.Op.buildSlice 59 1 #[(0, Go.Operand.tmp 38)], type := 59, pos := "law.go:188", after := #[{ on := 7, ground := Go.Ground.data }], guard := none }, { dst := some 40, op := Go.Op.call { callee := Go.Callee.builtin Go.Builtin.append, args := #[Go.Operand.tmp 37, Go.Operand.tmp 39], argTypes := #[59, 59] }, type := 59, pos := "law.go:188", after := #[{ on := 6, ground := Go.Ground.data }, { on := 8, ground := Go.Ground.data }], guard := none }, { dst := some 41, op := Go.Op.move (Go.Operand.tmp 0), type := 58, pos := "law.go:188", after := #[], guard := none }, { dst := some 42, op := Go.Op.nilCheck (Go.Operand.tmp 41), type := 0, pos := "law.go:188", after := #[{ on := 10, ground := Go.Ground.data }], guard := none }, { dst := some 43, op := Go.Op.fieldAddr 63 (Go.Operand.tmp 42) 1, type := 0, pos := "law.go:188", after := #[{ on := 11, ground := Go.Ground.data }], guard := none }, { dst := some 44, op := Go.Op.load 60 (Go.Operand.tmp 43), type := 60, pos := "law.go:188", after := #[{ on := 12, ground := Go.Ground.data }], guard := none }, { dst := some 45, op := Go.Op.move (Go.Operand.tmp 2), type := 35, pos := "law.go:188", after := #[], guard := none }, { dst := some 46, op := Go.Op.buildSlice 60 1 #[(0, Go.Operand.tmp 45)], type := 60, pos := "law.go:188", after := #[{ on := 14, ground := Go.Ground.data }], guard := none }, { dst := some 47, op := Go.Op.call { callee := Go.Callee.builtin Go.Builtin.append, args := #[Go.Operand.tmp 44, Go.Operand.tmp 46], argTypes := #[60, 60] }, type := 60, pos := "law.go:188", after := #[{ on := 13, ground := Go.Ground.data }, { on := 15, ground := Go.Ground.data }, { on := 9, ground := Go.Ground.chain }], guard := none }, { dst := some 48, op := Go.Op.move (Go.Operand.tmp 0), type := 58, pos := "law.go:188", after := #[], guard := none }, { dst := some 49, op := Go.Op.nilCheck (Go.Operand.tmp 48), type := 0, pos := "law.go:188", after := #[{ on := 17, ground := Go.Ground.data }], guard := none }, { dst := some 50, op := Go.Op.fieldAddr 63 (Go.Operand.tmp 49) 2, type := 0, pos := "law.go:188", after := #[{ on := 18, ground := Go.Ground.data }], guard := none }, { dst := some 51, op := Go.Op.load 61 (Go.Operand.tmp 50), type := 61, pos := "law.go:188", after := #[{ on := 19, ground := Go.Ground.data }], guard := none }, { dst := some 52, op := Go.Op.buildSlice 61 1 #[(0, Go.Operand.const (Go.Value.int Go.IntKind.i64 0))], type := 61, pos := "law.go:188", after := #[], guard := none }, { dst := some 53, op := Go.Op.call { callee := Go.Callee.builtin Go.Builtin.append, args := #[Go.Operand.tmp 51, Go.Operand.tmp 52], argTypes := #[61, 61] }, type := 61, pos := "law.go:188", after := #[{ on := 20, ground := Go.Ground.data }, { on := 21, ground := Go.Ground.data }, { on := 16, ground := Go.Ground.chain }], guard := none }, { dst := some 54, op := Go.Op.nilCheck (Go.Operand.tmp 31), type := 0, pos := "law.go:188", after := #[{ on := 0, ground := Go.Ground.data }, { on := 0, ground := Go.Ground.phase }, { on := 1, ground := Go.Ground.textOnly Go.Departure.lateStores }, { on := 2, ground := Go.Ground.textOnly Go.Departure.lateStores }, { on := 3, ground := Go.Ground.phase }, { on := 4, ground := Go.Ground.phase }, { on := 5, ground := Go.Ground.phase }, { on := 6, ground := Go.Ground.phase }, { on := 7, ground := Go.Ground.phase }, { on := 8, ground := Go.Ground.phase }, { on := 9, ground := Go.Ground.phase }, { on := 10, ground := Go.Ground.textOnly Go.Departure.lateStores }, { on := 11, ground := Go.Ground.textOnly Go.Departure.lateStoresUnsure }, { on := 12, ground := Go.Ground.textOnly Go.Departure.lateStoresUnsure }, { on := 13, ground := Go.Ground.phase }, { on := 14, ground := Go.Ground.textOnly Go.Departure.lateStores }, { on := 15, ground := Go.Ground.textOnly Go.Departure.lateStoresUnsure }, { on := 16, ground := Go.Ground.phase }, { on := 17, ground := Go.Ground.textOnly Go.Departure.lateStores }, { on := 18, ground := Go.Ground.textOnly Go.Departure.lateStoresUnsure }, { on := 19, ground := Go.Ground.textOnly Go.Departure.lateStoresUnsure }, { on := 20, ground := Go.Ground.phase }, { on := 21, ground := Go.Ground.textOnly Go.Departure.lateStoresUnsure }, { on := 22, ground := Go.Ground.phase }], guard := none }, { dst := some 55, op := Go.Op.fieldAddr 63 (Go.Operand.tmp 54) 0, type := 0, pos := "law.go:188", after := #[{ on := 23, ground := Go.Ground.data }, { on := 0, ground := Go.Ground.phase }, { on := 1, ground := Go.Ground.textOnly Go.Departure.lateStores }, { on := 2, ground := Go.Ground.textOnly Go.Departure.lateStores }, { on := 3, ground := Go.Ground.phase }, { on := 4, ground := Go.Ground.phase }, { on := 5, ground := Go.Ground.phase }, { on := 6, ground := Go.Ground.phase }, { on := 7, ground := Go.Ground.phase }, { on := 8, ground := Go.Ground.phase }, { on := 9, ground := Go.Ground.phase }, { on := 10, ground := Go.Ground.textOnly Go.Departure.lateStores }, { on := 11, ground := Go.Ground.textOnly Go.Departure.lateStoresUnsure }, { on := 12, ground := Go.Ground.textOnly Go.Departure.lateStoresUnsure }, { on := 13, ground := Go.Ground.phase }, { on := 14, ground := Go.Ground.textOnly Go.Departure.lateStores }, { on := 15, ground := Go.Ground.textOnly Go.Departure.lateStoresUnsure }, { on := 16, ground := Go.Ground.phase }, { on := 17, ground := Go.Ground.textOnly Go.Departure.lateStores }, { on := 18, ground := Go.Ground.textOnly Go.Departure.lateStoresUnsure }, { on := 19, ground := Go.Ground.textOnly Go.Departure.lateStoresUnsure }, { on := 20, ground := Go.Ground.phase }, { on := 21, ground := Go.Ground.textOnly Go.Departure.lateStoresUnsure }, { on := 22, ground := Go.Ground.phase }], guard := none }, { dst := none, op := Go.Op.store 59 (Go.Operand.tmp 55) (Go.Operand.tmp 40), type := 0, pos := "law.go:188", after := #[{ on := 24, ground := Go.Ground.data }, { on := 9, ground := Go.Ground.data }, { on := 22, ground := Go.Ground.chain }, { on := 0, ground := Go.Ground.phase }, { on := 1, ground := Go.Ground.textOnly Go.Departure.lateStores }, { on := 2, ground := Go.Ground.textOnly Go.Departure.lateStores }, { on := 3, ground := Go.Ground.phase }, { on := 4, ground := Go.Ground.phase }, { on := 5, ground := Go.Ground.phase }, { on := 6, ground := Go.Ground.phase }, { on := 7, ground := Go.Ground.phase }, { on := 8, ground := Go.Ground.phase }, { on := 9, ground := Go.Ground.phase }, { on := 10, ground := Go.Ground.textOnly Go.Departure.lateStores }, { on := 11, ground := Go.Ground.textOnly Go.Departure.lateStoresUnsure }, { on := 12, ground := Go.Ground.textOnly Go.Departure.lateStoresUnsure }, { on := 13, ground := Go.Ground.phase }, { on := 14, ground := Go.Ground.textOnly Go.Departure.lateStores }, { on := 15, ground := Go.Ground.textOnly Go.Departure.lateStoresUnsure }, { on := 16, ground := Go.Ground.phase }, { on := 17, ground := Go.Ground.textOnly Go.Departure.lateStores }, { on := 18, ground := Go.Ground.textOnly Go.Departure.lateStoresUnsure }, { on := 19, ground := Go.Ground.textOnly Go.Departure.lateStoresUnsure }, { on := 20, ground := Go.Ground.phase }, { on := 21, ground := Go.Ground.textOnly Go.Departure.lateStoresUnsure }, { on := 22, ground := Go.Ground.phase }], guard := none }, { dst := some 56, op := Go.Op.nilCheck (Go.Operand.tmp 32), type := 0, pos := "law.go:188", after := #[{ on := 1, ground := Go.Ground.data }, { on := 0, ground := Go.Ground.phase }, { on := 1, ground := Go.Ground.phase }, { on := 2, ground := Go.Ground.textOnly Go.Departure.lateStores }, { on := 3, ground := Go.Ground.phase }, { on := 4, ground := Go.Ground.phase }, { on := 5, ground := Go.Ground.phase }, { on := 6, ground := Go.Ground.phase }, { on := 7, ground := Go.Ground.phase }, { on := 8, ground := Go.Ground.phase }, { on := 9, ground := Go.Ground.phase }, { on := 10, ground := Go.Ground.phase }, { on := 11, ground := Go.Ground.phase }, { on := 12, ground := Go.Ground.phase }, { on := 13, ground := Go.Ground.phase }, { on := 14, ground := Go.Ground.phase }, { on := 15, ground := Go.Ground.phase }, { on := 16, ground := Go.Ground.phase }, { on := 17, ground := Go.Ground.textOnly Go.Departure.lateStores }, { on := 18, ground := Go.Ground.textOnly Go.Departure.lateStoresUnsure }, { on := 19, ground := Go.Ground.textOnly Go.Departure.lateStoresUnsure }, { on := 20, ground := Go.Ground.phase }, { on := 21, ground := Go.Ground.textOnly Go.Departure.lateStoresUnsure }, { on := 22, ground := Go.Ground.phase }, { on := 23, ground := Go.Ground.phase }, { on := 24, ground := Go.Ground.phase }, { on := 25, ground := Go.Ground.phase }], guard := none }, { dst := some 57, op := Go.Op.fieldAddr 63 (Go.Operand.tmp 56) 1, type := 0, pos := "law.go:188", after := #[{ on := 26, ground := Go.Ground.data }, { on := 0, ground := Go.Ground.phase }, { on := 1, ground := Go.Ground.phase }, { on := 2, ground := Go.Ground.textOnly Go.Departure.lateStores }, { on := 3, ground := Go.Ground.phase }, { on := 4, ground := Go.Ground.phase }, { on := 5, ground := Go.Ground.phase }, { on := 6, ground := Go.Ground.phase }, { on := 7, ground := Go.Ground.phase }, { on := 8, ground := Go.Ground.phase }, { on := 9, ground := Go.Ground.phase }, { on := 10, ground := Go.Ground.phase }, { on := 11, ground := Go.Ground.phase }, { on := 12, ground := Go.Ground.phase }, { on := 13, ground := Go.Ground.phase }, { on := 14, ground := Go.Ground.phase }, { on := 15, ground := Go.Ground.phase }, { on := 16, ground := Go.Ground.phase }, { on := 17, ground := Go.Ground.textOnly Go.Departure.lateStores }, { on := 18, ground := Go.Ground.textOnly Go.Departure.lateStoresUnsure }, { on := 19, ground := Go.Ground.textOnly Go.Departure.lateStoresUnsure }, { on := 20, ground := Go.Ground.phase }, { on := 21, ground := Go.Ground.textOnly Go.Departure.lateStoresUnsure }, { on := 22, ground := Go.Ground.phase }, { on := 23, ground := Go.Ground.phase }, { on := 24, ground := Go.Ground.phase }, { on := 25, ground := Go.Ground.phase }], guard := none }, { dst := none, op := Go.Op.store 60 (Go.Operand.tmp 57) (Go.Operand.tmp 47), type := 0, pos := "law.go:188", after := #[{ on := 27, ground := Go.Ground.data }, { on := 16, ground := Go.Ground.data }, { on := 25, ground := Go.Ground.chain }, { on := 0, ground := Go.Ground.phase }, { on := 1, ground := Go.Ground.phase }, { on := 2, ground := Go.Ground.textOnly Go.Departure.lateStores }, { on := 3, ground := Go.Ground.phase }, { on := 4, ground := Go.Ground.phase }, { on := 5, ground := Go.Ground.phase }, { on := 6, ground := Go.Ground.phase }, { on := 7, ground := Go.Ground.phase }, { on := 8, ground := Go.Ground.phase }, { on := 9, ground := Go.Ground.phase }, { on := 10, ground := Go.Ground.phase }, { on := 11, ground := Go.Ground.phase }, { on := 12, ground := Go.Ground.phase }, { on := 13, ground := Go.Ground.phase }, { on := 14, ground := Go.Ground.phase }, { on := 15, ground := Go.Ground.phase }, { on := 16, ground := Go.Ground.phase }, { on := 17, ground := Go.Ground.textOnly Go.Departure.lateStores }, { on := 18, ground := Go.Ground.textOnly Go.Departure.lateStoresUnsure }, { on := 19, ground := Go.Ground.textOnly Go.Departure.lateStoresUnsure }, { on := 20, ground := Go.Ground.phase }, { on := 21, ground := Go.Ground.textOnly Go.Departure.lateStoresUnsure }, { on := 22, ground := Go.Ground.phase }, { on := 23, ground := Go.Ground.phase }, { on := 24, ground := Go.Ground.phase }, { on := 25, ground := Go.Ground.phase }], guard := none }, { dst := some 58, op := Go.Op.nilCheck (Go.Operand.tmp 33), type := 0, pos := "law.go:188", after := #[{ on := 2, ground := Go.Ground.data }, { on := 0, ground := Go.Ground.phase }, { on := 1, ground := Go.Ground.phase }, { on := 2, ground := Go.Ground.phase }, { on := 3, ground := Go.Ground.phase }, { on := 4, ground := Go.Ground.phase }, { on := 5, ground := Go.Ground.phase }, { on := 6, ground := Go.Ground.phase }, { on := 7, ground := Go.Ground.phase }, { on := 8, ground := Go.Ground.phase }, { on := 9, ground := Go.Ground.phase }, { on := 10, ground := Go.Ground.phase }, { on := 11, ground := Go.Ground.phase }, { on := 12, ground := Go.Ground.phase }, { on := 13, ground := Go.Ground.phase }, { on := 14, ground := Go.Ground.phase }, { on := 15, ground := Go.Ground.phase }, { on := 16, ground := Go.Ground.phase }, { on := 17, ground := Go.Ground.phase }, { on := 18, ground := Go.Ground.phase }, { on := 19, ground := Go.Ground.phase }, { on := 20, ground := Go.Ground.phase }, { on := 21, ground := Go.Ground.phase }, { on := 22, ground := Go.Ground.phase }, { on := 23, ground := Go.Ground.phase }, { on := 24, ground := Go.Ground.phase }, { on := 25, ground := Go.Ground.phase }, { on := 26, ground := Go.Ground.phase }, { on := 27, ground := Go.Ground.phase }, { on := 28, ground := Go.Ground.phase }], guard := none }, { dst := some 59, op := Go.Op.fieldAddr 63 (Go.Operand.tmp 58) 2, type := 0, pos := "law.go:188", after := #[{ on := 29, ground := Go.Ground.data }, { on := 0, ground := Go.Ground.phase }, { on := 1, ground := Go.Ground.phase }, { on := 2, ground := Go.Ground.phase }, { on := 3, ground := Go.Ground.phase }, { on := 4, ground := Go.Ground.phase }, { on := 5, ground := Go.Ground.phase }, { on := 6, ground := Go.Ground.phase }, { on := 7, ground := Go.Ground.phase }, { on := 8, ground := Go.Ground.phase }, { on := 9, ground := Go.Ground.phase }, { on := 10, ground := Go.Ground.phase }, { on := 11, ground := Go.Ground.phase }, { on := 12, ground := Go.Ground.phase }, { on := 13, ground := Go.Ground.phase }, { on := 14, ground := Go.Ground.phase }, { on := 15, ground := Go.Ground.phase }, { on := 16, ground := Go.Ground.phase }, { on := 17, ground := Go.Ground.phase }, { on := 18, ground := Go.Ground.phase }, { on := 19, ground := Go.Ground.phase }, { on := 20, ground := Go.Ground.phase }, { on := 21, ground := Go.Ground.phase }, { on := 22, ground := Go.Ground.phase }, { on := 23, ground := Go.Ground.phase }, { on := 24, ground := Go.Ground.phase }, { on := 25, ground := Go.Ground.phase }, { on := 26, ground := Go.Ground.phase }, { on := 27, ground := Go.Ground.phase }, { on := 28, ground := Go.Ground.phase }], guard := none }, { dst := none, op := Go.Op.store 61 (Go.Operand.tmp 59) (Go.Operand.tmp 53), type := 0, pos := "law.go:188", after := #[{ on := 30, ground := Go.Ground.data }, { on := 22, ground := Go.Ground.data }, { on := 28, ground := Go.Ground.chain }, { on := 0, ground := Go.Ground.phase }, { on := 1, ground := Go.Ground.phase }, { on := 2, ground := Go.Ground.phase }, { on := 3, ground := Go.Ground.phase }, { on := 4, ground := Go.Ground.phase }, { on := 5, ground := Go.Ground.phase }, { on := 6, ground := Go.Ground.phase }, { on := 7, ground := Go.Ground.phase }, { on := 8, ground := Go.Ground.phase }, { on := 9, ground := Go.Ground.phase }, { on := 10, ground := Go.Ground.phase }, { on := 11, ground := Go.Ground.phase }, { on := 12, ground := Go.Ground.phase }, { on := 13, ground := Go.Ground.phase }, { on := 14, ground := Go.Ground.phase }, { on := 15, ground := Go.Ground.phase }, { on := 16, ground := Go.Ground.phase }, { on := 17, ground := Go.Ground.phase }, { on := 18, ground := Go.Ground.phase }, { on := 19, ground := Go.Ground.phase }, { on := 20, ground := Go.Ground.phase }, { on := 21, ground := Go.Ground.phase }, { on := 22, ground := Go.Ground.phase }, { on := 23, ground := Go.Ground.phase }, { on := 24, ground := Go.Ground.phase }, { on := 25, ground := Go.Ground.phase }, { on := 26, ground := Go.Ground.phase }, { on := 27, ground := Go.Ground.phase }, { on := 28, ground := Go.Ground.phase }], guard := none }]
/- what the region reads -/
structure Cg (W : World) (gg gb : Nat) (ba la ca : Option Addr) (N bc lc cc : Nat) (r n : Int) : Prop where
  k : W.heap[gg]? = some (.cells #[.slice ba N bc, .slice la N lc, .slice ca N cc] 63 (0, 0))
  b : W.heap[gb]? = some (.cells #[.int .i64 r, .int .i64 n] 34 (0, 0))
section
variable {W : World} {gg gb : Nat} {ba la ca : Option Addr} {N bc lc cc : Nat} {r n : Int}
theorem Cg.c0 (h : Cg W gg gb ba la ca N bc lc cc r n) : W.cell? ⟨gg, 0, none⟩ = some (.slice ba N bc) := by simp [World.cell?, h.k]
theorem Cg.c1 (h : Cg W gg gb ba la ca N bc lc cc r n) : W.cell? ⟨gg, 1, none⟩ = some (.slice la N lc) := by simp [World.cell?, h.k]
theorem Cg.c2 (h : Cg W gg gb ba la ca N bc lc cc r n) : W.cell? ⟨gg, 2, none⟩ = some (.slice ca N cc) := by simp [World.cell?, h.k]
theorem Cg.b0 (h : Cg W gg gb ba la ca N bc lc cc r n) : W.cell? ⟨gb, 0, none⟩ = some (.int .i64 r) := by simp [World.cell?, h.b]
theorem Cg.b1 (h : Cg W gg gb ba la ca N bc lc cc r n) : W.cell? ⟨gb, 1, none⟩ = some (.int .i64 n) := by simp [World.cell?, h.b]
end
def rws (ba la ca : Option Addr) (q : Nat) : Prop := blkOf ba = some q ∨ blkOf la = some q ∨ blkOf ca = some q
structure R9 (wd W : World) (gg gb : Nat) (ba la ca : Option Addr) : Prop where
  g : W.heap[gg]? = wd.heap[gg]?
  b : W.heap[gb]? = wd.heap[gb]?
  ch : Ch wd W (rws ba la ca)
  lg : gg < wd.heap.size
  lb : gb < wd.heap.size
/- where the three rows lie -/
structure Lt (wd : World) (gg gb : Nat) (ba la ca : Option Addr) : Prop where
  lba : ∀ q, blkOf ba = some q → q < wd.heap.size
  lla : ∀ q, blkOf la = some q → q < wd.heap.size
  lca : ∀ q, blkOf ca = some q → q < wd.heap.size
  gba : ∀ q, blkOf ba = some q → q ≠ gg
  gla : ∀ q, blkOf la = some q → q ≠ gg
  gca : ∀ q, blkOf ca = some q → q ≠ gg
  bba : ∀ q, blkOf ba = some q → q ≠ gb
  bla : ∀ q, blkOf la = some q → q ≠ gb
  bca : ∀ q, blkOf ca = some q → q ≠ gb
  Sba : ∀ q, blkOf ba = some q → rws ba la ca q
  Sla : ∀ q, blkOf la = some q → rws ba la ca q
  Sca : ∀ q, blkOf ca = some q → rws ba la ca q
theorem own_blk_ne {w : World} {B t z g t' : Nat} {a : Option Addr} {n c : Nat} {xs : List Value} {cs : Array Value} {fr : Nat × Nat} (h : w.ownsRow B t z (.slice a n c) n xs) (hg : w.heap[g]? = some (.cells cs t' fr)) (ht : t ≠ t') : ∀ q, blkOf a = some q → q ≠ g := by
  intro q hq e
  subst e
  rcases h.2 with ⟨h1, _⟩ | ⟨g, cap, cur, h1, h2, h3, _⟩
  · simp at h1
    rw [h1.1] at hq
    cases hq
  · simp only [Value.slice.injEq] at h1
    rw [h1.1] at hq
    cases hq
    rw [hg] at h3
    simp only [Option.some.injEq, Obj.cells.injEq] at h3
    exact ht h3.2.1.symm
theorem R9.bel {wd W W' : World} {gg gb : Nat} {ba la ca : Option Addr} (h : R9 wd W gg gb ba la ca) (hb : Below W.heap.size W W') : R9 wd W' gg gb ba la ca :=
  ⟨(hb.block gg (Nat.lt_of_lt_of_le h.lg h.ch.size)).trans h.g, (hb.block gb (Nat.lt_of_lt_of_le h.lb h.ch.size)).trans h.b, h.ch.trans (Ch.below hb), h.lg, h.lb⟩
theorem R9.grow {wd W W' : World} {gg gb : Nat} {ba la ca : Option Addr} {row : Option Nat} (h : R9 wd W gg gb ba la ca) (gr : W.grownBy W' row) (hr : ∀ q, row = some q → rws ba la ca q ∧ q < wd.heap.size ∧ q ≠ gg ∧ q ≠ gb) : R9 wd W' gg gb ba la ca :=
  ⟨(gr.block gg (Nat.lt_of_lt_of_le h.lg h.ch.size) (fun e => (hr gg e.symm).2.2.1 rfl)).trans h.g, (gr.block gb (Nat.lt_of_lt_of_le h.lb h.ch.size) (fun e => (hr gb e.symm).2.2.2 rfl)).trans h.b, h.ch.trans ⟨gr.os, gr.tape, gr.output, gr.size, fun k hk hn => gr.block k hk (fun e => hn (hr k e.symm).1)⟩, h.lg, h.lb⟩
theorem R9.cg {wd W : World} {gg gb : Nat} {ba la ca : Option Addr} {N bc lc cc : Nat} {r n : Int} (h : R9 wd W gg gb ba la ca) (c : Cg wd gg gb ba la ca N bc lc cc r n) : Cg W gg gb ba la ca N bc lc cc r n := ⟨h.g.trans c.k, h.b.trans c.b⟩
/- behind the region -/
structure E9 (wd V : World) (B gg gb : Nat) (ba la ca : Option Addr) (ba' la' ca' : Option Addr) (N bc' lc' cc' : Nat) (xb xl xc : List Value) (r n : Int) (l : Value) : Prop where
  k : V.heap[gg]? = some (.cells #[.slice ba' (N + 1) bc', .slice la' (N + 1) lc', .slice ca' (N + 1) cc'] 63 (0, 0))
  b : V.heap[gb]? = wd.heap[gb]?
  ob : V.ownsRow B 34 2 (.slice ba' (N + 1) bc') (N + 1) (xb ++ [.int .i64 r, .int .i64 n])
  ol : V.ownsRow B 35 1 (.slice la' (N + 1) lc') (N + 1) (xl ++ [l])
  oc : V.ownsRow B 3 1 (.slice ca' (N + 1) cc') (N + 1) (xc ++ [.int .i64 0])
  ch : Ch wd V (fun q => q = gg ∨ rws ba la ca q)
  nb : ∀ q, blkOf ba' = some q → blkOf ba = some q ∨ wd.heap.size ≤ q
  nl : ∀ q, blkOf la' = some q → blkOf la = some q ∨ wd.heap.size ≤ q
  nc : ∀ q, blkOf ca' = some q → blkOf ca = some q ∨ wd.heap.size ≤ q
theorem R9.fin {wd W : World} {B gg gb : Nat} {ba la ca ba' la' ca' : Option Addr} {N bc lc cc bc' lc' cc' : Nat} {xb xl xc : List Value} {r n : Int} {l : Value} (h : R9 wd W gg gb ba la ca) (c : Cg wd gg gb ba la ca N bc lc cc r n) (ob : W.ownsRow B 34 2 (.slice ba' (N + 1) bc') (N + 1) (xb ++ [.int .i64 r, .int .i64 n])) (ol : W.ownsRow B 35 1 (.slice la' (N + 1) lc') (N + 1) (xl ++ [l])) (oc : W.ownsRow B 3 1 (.slice ca' (N + 1) cc') (N + 1) (xc ++ [.int .i64 0]))
    (nb : ∀ q, blkOf ba' = some q → blkOf ba = some q ∨ wd.heap.size ≤ q) (nl : ∀ q, blkOf la' = some q → blkOf la = some q ∨ wd.heap.size ≤ q) (nc : ∀ q, blkOf ca' = some q → blkOf ca = some q ∨ wd.heap.size ≤ q) :
    ∃ V1 V2 V3, Hid (W.setCell ⟨gg, 0, none⟩ (.slice ba' (N + 1) bc') = V1) ∧ Hid (V1.setCell ⟨gg, 1, none⟩ (.slice la' (N + 1) lc') = V2) ∧ Hid (V2.setCell ⟨gg, 2, none⟩ (.slice ca' (N + 1) cc') = V3) ∧ W.cell? ⟨gg, 0, none⟩ = some (.slice ba N bc) ∧ W.frozen? ⟨gg, 0, none⟩ = false ∧ V1.cell? ⟨gg, 1, none⟩ = some (.slice la N lc) ∧ V1.frozen? ⟨gg, 1, none⟩ = false ∧ V2.cell? ⟨gg, 2, none⟩ = some (.slice ca N cc) ∧ V2.frozen? ⟨gg, 2, none⟩ = false ∧ E9 wd V3 B gg gb ba la ca ba' la' ca' N bc' lc' cc' xb xl xc r n l := by
  have k0 := (h.cg c).k
  obtain ⟨V1, HV1⟩ : ∃ V1, W.setCell ⟨gg, 0, none⟩ (.slice ba' (N + 1) bc') = V1 := ⟨_, rfl⟩
  have k1 : V1.heap[gg]? = some (.cells #[.slice ba' (N + 1) bc', .slice la N lc, .slice ca N cc] 63 (0, 0)) := by rw [← HV1, set_blk k0 0 _]; rfl
  obtain ⟨V2, HV2⟩ : ∃ V2, V1.setCell ⟨gg, 1, none⟩ (.slice la' (N + 1) lc') = V2 := ⟨_, rfl⟩
  have k2 : V2.heap[gg]? = some (.cells #[.slice ba' (N + 1) bc', .slice la' (N + 1) lc', .slice ca N cc] 63 (0, 0)) := by rw [← HV2, set_blk k1 1 _]; rfl
  obtain ⟨V3, HV3⟩ : ∃ V3, V2.setCell ⟨gg, 2, none⟩ (.slice ca' (N + 1) cc') = V3 := ⟨_, rfl⟩
  have k3 : V3.heap[gg]? = some (.cells #[.slice ba' (N + 1) bc', .slice la' (N + 1) lc', .slice ca' (N + 1) cc'] 63 (0, 0)) := by rw [← HV3, set_blk k2 2 _]; rfl
  have C : Ch W V3 (fun q => q = gg) := by
    rw [← HV3, ← HV2, ← HV1]
    exact ((Ch.set W gg 0 _).trans (Ch.set _ gg 1 _)).trans (Ch.set _ gg 2 _)
  have keep : ∀ {t z : Nat} {a : Option Addr} {m cp : Nat} {xs : List Value}, t ≠ 63 → W.ownsRow B t z (.slice a m cp) m xs → V3.ownsRow B t z (.slice a m cp) m xs := fun {t z a m cp xs} ht ho => rown_bel ho (fun q e => C.block q (ho.lt q e).2 (fun e2 => own_blk_ne ho k0 ht q (by rw [← ownBlock_slice a m cp]; exact e) e2))
  refine ⟨V1, V2, V3, HV1, HV2, HV3, by simp [World.cell?, k0], by simp [World.frozen?, k0], by simp [World.cell?, k1], by simp [World.frozen?, k1], by simp [World.cell?, k2], by simp [World.frozen?, k2], ⟨k3, ?_, keep (t := 34) (by decide) ob, keep (t := 35) (by decide) ol, keep (t := 3) (by decide) oc, (h.ch.weak (fun q _ e => .inr e)).trans (C.weak (fun q _ e => .inl e)), nb, nl, nc⟩⟩
  have hne : gb ≠ gg := fun e => by have h1 := (h.cg c).b; rw [e, k0] at h1; cases h1
  exact (C.block gb (Nat.lt_of_lt_of_le h.lb h.ch.size) hne).trans h.b
set_option maxHeartbeats 8000000 in
theorem reg9 {Q : Exit → Act → World → Prop} {w : World} {B gg gb N : Nat} {ba la ca ll : Option Addr} {bc lc cc lm lk : Nat} {xb xl xc : List Value} {r n : Int} {u1 u3 u4 u6 u7 u8 u9 u10 u11 u12 u13 u14 u15 u16 u17 u18 u19 u20 u21 u22 u23 u24 u25 u26 u27 u28 u29 u30 u31 u32 u33 u34 u35 u36 u37 u38 u39 u40 u41 u42 u43 u44 u45 u46 u47 u48 u49 u50 u51 u52 u53 u54 u55 u56 u57 u58 u59 u60 u61 u62 u63 u64 u65 u66 u67 u68 u69 u70 u71 u72 u73 u74 u75 u76 u77 u78 u79 u80 u81 u82 u83 u84 u85 u86 u87 u88 u89 u90 u91 u92 u93 u94 u95 u96 u97 u98 u99 u100 u101 u102 u103 u104 u105 u106 u107 u108 u109 u110 u111 u112 u113 u114 u115 u116 u117 u118 u119 u120 u121 : Value}
    (CG0 : Cg w gg gb ba la ca N bc lc cc r n) (O9' : w.ownsRow B 34 2 (.slice ba N bc) N xb) (O16' : w.ownsRow B 35 1 (.slice la N lc) N xl) (O22' : w.ownsRow B 3 1 (.slice ca N cc) N xc) (hB' : B ≤ w.heap.size) (hbb : ∀ q, blkOf ba = some q → q ≠ gb) (hN : N ≤ 1000) (hQp : ∀ x a (d : Nat) v W, Q (.panic x) (a.put (some d) v) W → Q (.panic x) a W)
    (hQ : ∀ (V : World) (ba' : Option Addr) (bc' : Nat) (la' : Option Addr) (lc' : Nat) (ca' : Option Addr) (cc' p8 p15 p21 : Nat), E9 w.drew V B gg gb ba la ca ba' la' ca' N bc' lc' cc' xb xl xc r n (.slice ll lm lk) → Q .normal { tmps := #[.pointer (some ⟨gg, 0, none⟩), u1, .slice ll lm lk, u3, u4, .pointer (some ⟨gb, 0, none⟩), u6, u7, u8, u9, u10, u11, u12, u13, u14, u15, u16, u17, u18, u19, u20, u21, u22, u23, u24, u25, u26, u27, u28, u29, u30, .pointer (some ⟨gg, 0, none⟩), .pointer (some ⟨gg, 0, none⟩), .pointer (some ⟨gg, 0, none⟩), .pointer (some ⟨gg, 0, none⟩), .pointer (some ⟨gg, 0, none⟩), .pointer (some ⟨gg, 0, none⟩), .slice ba N bc, bal r n, .slice (some ⟨p8, 0, none⟩) 1 1, (.slice ba' (N + 1) bc'), .pointer (some ⟨gg, 0, none⟩), .pointer (some ⟨gg, 0, none⟩), .pointer (some ⟨gg, 1, none⟩), .slice la N lc, .slice ll lm lk, .slice (some ⟨p15, 0, none⟩) 1 1, (.slice la' (N + 1) lc'), .pointer (some ⟨gg, 0, none⟩), .pointer (some ⟨gg, 0, none⟩), .pointer (some ⟨gg, 2, none⟩), .slice ca N cc, .slice (some ⟨p21, 0, none⟩) 1 1, (.slice ca' (N + 1) cc'), .pointer (some ⟨gg, 0, none⟩), .pointer (some ⟨gg, 0, none⟩), .pointer (some ⟨gg, 0, none⟩), .pointer (some ⟨gg, 1, none⟩), .pointer (some ⟨gg, 0, none⟩), .pointer (some ⟨gg, 2, none⟩), u60, u61, u62, u63, u64, u65, u66, u67, u68, u69, u70, u71, u72, u73, u74, u75, u76, u77, u78, u79, u80, u81, u82, u83, u84, u85, u86, u87, u88, u89, u90, u91, u92, u93, u94, u95, u96, u97, u98, u99, u100, u101, u102, u103, u104, u105, u106, u107, u108, u109, u110, u111, u112, u113, u114, u115, u116, u117, u118, u119, u120, u121], defers := [] } V) :
    (Code.region 9 ops9 true).wp Tryd.prog Q { tmps := #[.pointer (some ⟨gg, 0, none⟩), u1, .slice ll lm lk, u3, u4, .pointer (some ⟨gb, 0, none⟩), u6, u7, u8, u9, u10, u11, u12, u13, u14, u15, u16, u17, u18, u19, u20, u21, u22, u23, u24, u25, u26, u27, u28, u29, u30, u31, u32, u33, u34, u35, u36, u37, u38, u39, u40, u41, u42, u43, u44, u45, u46, u47, u48, u49, u50, u51, u52, u53, u54, u55, u56, u57, u58, u59, u60, u61, u62, u63, u64, u65, u66, u67, u68, u69, u70, u71, u72, u73, u74, u75, u76, u77, u78, u79, u80, u81, u82, u83, u84, u85, u86, u87, u88, u89, u90, u91, u92, u93, u94, u95, u96, u97, u98, u99, u100, u101, u102, u103, u104, u105, u106, u107, u108, u109, u110, u111, u112, u113, u114, u115, u116, u117, u118, u119, u120, u121], defers := [] } w := by
  unfold ops9
  obtain ⟨wd, Hwd⟩ : ∃ wd, Hid (w.drew = wd) := ⟨_, rfl⟩
  rw [Hwd.out] at hQ
  have CG : Cg wd gg gb ba la ca N bc lc cc r n := by rw [← Hwd.out]; exact ⟨CG0.k, CG0.b⟩
  have O9 : wd.ownsRow B 34 2 (.slice ba N bc) N xb := by rw [← Hwd.out]; exact O9'
  have O16 : wd.ownsRow B 35 1 (.slice la N lc) N xl := by rw [← Hwd.out]; exact O16'
  have O22 : wd.ownsRow B 3 1 (.slice ca N cc) N xc := by rw [← Hwd.out]; exact O22'
  have hB : B ≤ wd.heap.size := by rw [← Hwd.out]; exact hB'
  have LT : Lt wd gg gb ba la ca := by
    have f : ∀ {t z : Nat} {a : Option Addr} {c : Nat} {xs : List Value}, wd.ownsRow B t z (.slice a N c) N xs → ∀ q, blkOf a = some q → q < wd.heap.size := fun {t z a c xs} h q hq => (h.lt q (by rw [ownBlock_slice]; exact hq)).2
    exact ⟨f O9, f O16, f O22, own_blk_ne (t := 34) O9 CG.k (by decide), own_blk_ne (t := 35) O16 CG.k (by decide), own_blk_ne (t := 3) O22 CG.k (by decide), hbb, own_blk_ne (t := 35) O16 CG.b (by decide), own_blk_ne (t := 3) O22 CG.b (by decide), fun q h => .inl h, fun q h => .inr (.inl h), fun q h => .inr (.inr h)⟩
  have R0 : R9 wd wd gg gb ba la ca := ⟨rfl, rfl, Ch.refl _ _, (Array.getElem?_eq_some_iff.1 CG.k).1, (Array.getElem?_eq_some_iff.1 CG.b).1⟩
  clear O9' O16' O22' CG0 hB' hbb
  refine wp_region_till (S := tillP 25 (fun W => Cg W gg gb ba la ca N bc lc cc r n)) (by kernel_rfl) (.inr (by rw [Hwd.out]; exact CG)) (fun hS => ?_)
  rw [Hwd.out] at hS ⊢
  refine till_take (i := 0) (v := .pointer (some ⟨gg, 0, none⟩)) rfl (by kernel_rfl) (by kernel_rfl) (by kernel_rfl) (fun _ _ _ h => hQp _ _ _ _ _ h) (fun L w => tillP_set (by decide)) (Or.inl ⟨by rfl, fun w => by go_simp⟩) hS (fun hSb => ?_)
  simp only [List.getElem_toArray, List.getElem_cons_zero, List.getElem_cons_succ, Act.put, List.setIfInBounds_toArray, List.set_cons_zero, List.set_cons_succ]
  clear hS
  refine till_take (i := 1) (v := .pointer (some ⟨gg, 0, none⟩)) rfl (by kernel_rfl) (by kernel_rfl) (by kernel_rfl) (fun _ _ _ h => hQp _ _ _ _ _ h) (fun L w => tillP_set (by decide)) (Or.inl ⟨by rfl, fun w => by go_simp⟩) hSb (fun hS => ?_)
  simp only [List.getElem_toArray, List.getElem_cons_zero, List.getElem_cons_succ, Act.put, List.setIfInBounds_toArray, List.set_cons_zero, List.set_cons_succ]
  clear hSb
  refine till_take (i := 2) (v := .pointer (some ⟨gg, 0, none⟩)) rfl (by kernel_rfl) (by kernel_rfl) (by kernel_rfl) (fun _ _ _ h => hQp _ _ _ _ _ h) (fun L w => tillP_set (by decide)) (Or.inl ⟨by rfl, fun w => by go_simp⟩) hS (fun hSb => ?_)
  simp only [List.getElem_toArray, List.getElem_cons_zero, List.getElem_cons_succ, Act.put, List.setIfInBounds_toArray, List.set_cons_zero, List.set_cons_succ]
  clear hS
  refine till_take (i := 3) (v := .pointer (some ⟨gg, 0, none⟩)) rfl (by kernel_rfl) (by kernel_rfl) (by kernel_rfl) (fun _ _ _ h => hQp _ _ _ _ _ h) (fun L w => tillP_set (by decide)) (Or.inl ⟨by rfl, fun w => by go_simp⟩) hSb (fun hS => ?_)
  simp only [List.getElem_toArray, List.getElem_cons_zero, List.getElem_cons_succ, Act.put, List.setIfInBounds_toArray, List.set_cons_zero, List.set_cons_succ]
  clear hSb
  refine till_take (i := 4) (v := .pointer (some ⟨gg, 0, none⟩)) rfl (by kernel_rfl) (by kernel_rfl) (by kernel_rfl) (fun _ _ _ h => hQp _ _ _ _ _ h) (fun L w => tillP_set (by decide)) (Or.inl ⟨by rfl, fun w => by go_simp⟩) hS (fun hSb => ?_)
  simp only [List.getElem_toArray, List.getElem_cons_zero, List.getElem_cons_succ, Act.put, List.setIfInBounds_toArray, List.set_cons_zero, List.set_cons_succ]
  clear hS
  refine till_take (i := 5) (v := .pointer (some ⟨gg, 0, none⟩)) rfl (by kernel_rfl) (by kernel_rfl) (by kernel_rfl) (fun _ _ _ h => hQp _ _ _ _ _ h) (fun L w => tillP_set (by decide)) (Or.inl ⟨by rfl, fun w => by go_simp⟩) hSb (fun hS => ?_)
  simp only [List.getElem_toArray, List.getElem_cons_zero, List.getElem_cons_succ, Act.put, List.setIfInBounds_toArray, List.set_cons_zero, List.set_cons_succ]
  clear hSb
  refine till_readc (i := 6) (cs := [9, 25]) (v := .slice ba N bc) (T := fun W => Cg W gg gb ba la ca N bc lc cc r n) rfl (by kernel_rfl) (by kernel_rfl) (by kernel_rfl) (by kernel_rfl) (by kernel_rfl) (fun _ _ _ h => hQp _ _ _ _ _ h) (fun L w => tillP_set (by decide)) (fun L w h1 h2 => tillP_out (h1 25 (by simp)) h2) (Or.inl ⟨by rfl, fun w h => by have q0 := h.c0; go_simp⟩) hS (fun hSb => ?_)
  simp only [List.getElem_toArray, List.getElem_cons_zero, List.getElem_cons_succ, Act.put, List.setIfInBounds_toArray, List.set_cons_zero, List.set_cons_succ]
  clear hS
  refine till_readc (i := 7) (cs := [8, 9, 25]) (v := bal r n) (T := fun W => Cg W gg gb ba la ca N bc lc cc r n) rfl (by kernel_rfl) (by kernel_rfl) (by kernel_rfl) (by kernel_rfl) (by kernel_rfl) (fun _ _ _ h => hQp _ _ _ _ _ h) (fun L w => tillP_set (by decide)) (fun L w h1 h2 => tillP_out (h1 25 (by simp)) h2) (Or.inl ⟨by rfl, fun w h => by have q0 := h.b0; have q1 := h.b1; go_simp⟩) hSb (fun hS => ?_)
  simp only [List.getElem_toArray, List.getElem_cons_zero, List.getElem_cons_succ, Act.put, List.setIfInBounds_toArray, List.set_cons_zero, List.set_cons_succ]
  clear hSb
  refine till_take (i := 10) (v := .pointer (some ⟨gg, 0, none⟩)) rfl (by kernel_rfl) (by kernel_rfl) (by kernel_rfl) (fun _ _ _ h => hQp _ _ _ _ _ h) (fun L w => tillP_set (by decide)) (Or.inl ⟨by rfl, fun w => by go_simp⟩) hS (fun hSb => ?_)
  simp only [List.getElem_toArray, List.getElem_cons_zero, List.getElem_cons_succ, Act.put, List.setIfInBounds_toArray, List.set_cons_zero, List.set_cons_succ]
  clear hS
  refine till_take (i := 11) (v := .pointer (some ⟨gg, 0, none⟩)) rfl (by kernel_rfl) (by kernel_rfl) (by kernel_rfl) (fun _ _ _ h => hQp _ _ _ _ _ h) (fun L w => tillP_set (by decide)) (Or.inl ⟨by rfl, fun w => by go_simp⟩) hSb (fun hS => ?_)
  simp only [List.getElem_toArray, List.getElem_cons_zero, List.getElem_cons_succ, Act.put, List.setIfInBounds_toArray, List.set_cons_zero, List.set_cons_succ]
  clear hSb
  refine till_take (i := 12) (v := .pointer (some ⟨gg, 1, none⟩)) rfl (by kernel_rfl) (by kernel_rfl) (by kernel_rfl) (fun _ _ _ h => hQp _ _ _ _ _ h) (fun L w => tillP_set (by decide)) (Or.inl ⟨by rfl, fun w => by go_simp⟩) hS (fun hSb => ?_)
  simp only [List.getElem_toArray, List.getElem_cons_zero, List.getElem_cons_succ, Act.put, List.setIfInBounds_toArray, List.set_cons_zero, List.set_cons_succ]
  clear hS
  refine till_readc (i := 13) (cs := [16, 22, 25]) (v := .slice la N lc) (T := fun W => Cg W gg gb ba la ca N bc lc cc r n) rfl (by kernel_rfl) (by kernel_rfl) (by kernel_rfl) (by kernel_rfl) (by kernel_rfl) (fun _ _ _ h => hQp _ _ _ _ _ h) (fun L w => tillP_set (by decide)) (fun L w h1 h2 => tillP_out (h1 25 (by simp)) h2) (Or.inl ⟨by rfl, fun w h => by have q0 := h.c1; go_simp⟩) hSb (fun hS => ?_)
  simp only [List.getElem_toArray, List.getElem_cons_zero, List.getElem_cons_succ, Act.put, List.setIfInBounds_toArray, List.set_cons_zero, List.set_cons_succ]
  clear hSb
  refine till_take (i := 14) (v := .slice ll lm lk) rfl (by kernel_rfl) (by kernel_rfl) (by kernel_rfl) (fun _ _ _ h => hQp _ _ _ _ _ h) (fun L w => tillP_set (by decide)) (Or.inl ⟨by rfl, fun w => by go_simp⟩) hS (fun hSb => ?_)
  simp only [List.getElem_toArray, List.getElem_cons_zero, List.getElem_cons_succ, Act.put, List.setIfInBounds_toArray, List.set_cons_zero, List.set_cons_succ]
  clear hS
  refine till_take (i := 17) (v := .pointer (some ⟨gg, 0, none⟩)) rfl (by kernel_rfl) (by kernel_rfl) (by kernel_rfl) (fun _ _ _ h => hQp _ _ _ _ _ h) (fun L w => tillP_set (by decide)) (Or.inl ⟨by rfl, fun w => by go_simp⟩) hSb (fun hS => ?_)
  simp only [List.getElem_toArray, List.getElem_cons_zero, List.getElem_cons_succ, Act.put, List.setIfInBounds_toArray, List.set_cons_zero, List.set_cons_succ]
  clear hSb
  refine till_take (i := 18) (v := .pointer (some ⟨gg, 0, none⟩)) rfl (by kernel_rfl) (by kernel_rfl) (by kernel_rfl) (fun _ _ _ h => hQp _ _ _ _ _ h) (fun L w => tillP_set (by decide)) (Or.inl ⟨by rfl, fun w => by go_simp⟩) hS (fun hSb => ?_)
  simp only [List.getElem_toArray, List.getElem_cons_zero, List.getElem_cons_succ, Act.put, List.setIfInBounds_toArray, List.set_cons_zero, List.set_cons_succ]
  clear hS
  refine till_take (i := 19) (v := .pointer (some ⟨gg, 2, none⟩)) rfl (by kernel_rfl) (by kernel_rfl) (by kernel_rfl) (fun _ _ _ h => hQp _ _ _ _ _ h) (fun L w => tillP_set (by decide)) (Or.inl ⟨by rfl, fun w => by go_simp⟩) hSb (fun hS => ?_)
  simp only [List.getElem_toArray, List.getElem_cons_zero, List.getElem_cons_succ, Act.put, List.setIfInBounds_toArray, List.set_cons_zero, List.set_cons_succ]
  clear hSb
  refine till_readc (i := 20) (cs := [22, 25]) (v := .slice ca N cc) (T := fun W => Cg W gg gb ba la ca N bc lc cc r n) rfl (by kernel_rfl) (by kernel_rfl) (by kernel_rfl) (by kernel_rfl) (by kernel_rfl) (fun _ _ _ h => hQp _ _ _ _ _ h) (fun L w => tillP_set (by decide)) (fun L w h1 h2 => tillP_out (h1 25 (by simp)) h2) (Or.inl ⟨by rfl, fun w h => by have q0 := h.c2; go_simp⟩) hS (fun hSb => ?_)
  simp only [List.getElem_toArray, List.getElem_cons_zero, List.getElem_cons_succ, Act.put, List.setIfInBounds_toArray, List.set_cons_zero, List.set_cons_succ]
  clear hS
  refine till_three (i := 8) (j := 15) (l := 21) (by kernel_rfl) ?_ ?_ ?_
  · refine ⟨_, rfl, fun K hK => ?_⟩
    simp only [List.getElem_toArray, List.getElem_cons_zero, List.getElem_cons_succ]
    rw [if_pos (by rfl)]
    go_simp
    obtain ⟨p8, Hp8⟩ : ∃ p8, Hid (wd.heap.size = p8) := ⟨_, rfl⟩
    obtain ⟨W1, HW1⟩ : ∃ W1, Hid (wd.alloc (.cells #[.int .i64 r, .int .i64 n] 34) = W1) := ⟨_, rfl⟩
    have b_ : Below wd.heap.size wd W1 := by rw [← HW1.out]; exact alloc1 _ _
    have Kp8 : W1.heap[p8]? = some (.cells #[.int .i64 r, .int .i64 n] 34 (0, 0)) := by rw [← HW1.out, ← Hp8.out]; exact heap_alloc_new _ _
    have Lp8 : wd.heap.size ≤ p8 := by rw [← Hp8.out]; exact R0.ch.size
    have O9 : W1.ownsRow B 34 2 (.slice ba N bc) N xb := rown_bel O9 (fun q e => b_.block q (O9.lt q e).2)
    have O16 : W1.ownsRow B 35 1 (.slice la N lc) N xl := rown_bel O16 (fun q e => b_.block q (O16.lt q e).2)
    have O22 : W1.ownsRow B 3 1 (.slice ca N cc) N xc := rown_bel O22 (fun q e => b_.block q (O22.lt q e).2)
    have R0 := R0.bel b_
    rw [HW1.out, Hp8.out]
    refine hK.out _ _ (.inr (R0.cg CG)) (fun hS => ?_)
    clear hK K
    try simp only [List.getElem_toArray, List.getElem_cons_zero, List.getElem_cons_succ, Act.put, List.setIfInBounds_toArray, List.set_cons_zero, List.set_cons_succ]
    clear hSb
    refine till_three (i := 9) (j := 15) (l := 21) (by kernel_rfl) ?_ ?_ ?_
    · refine ⟨_, rfl, fun K hK => ?_⟩
      simp only [List.getElem_toArray, List.getElem_cons_zero, List.getElem_cons_succ]
      rw [if_pos (by rfl)]
      have SZ_ : wd.heap.size ≤ W1.heap.size := R0.ch.size
      obtain ⟨a9, c9, W2, ap_, on_, gr_, nw_⟩ := app_one Tryd.underlying59 info34 rfl (by decide) O9 (cs := [.int .i64 r, .int .i64 n]) Kp8 rfl (by simp [Value.oneCell']) (by omega) (by unfold maxLen; omega) (Nat.le_trans hB R0.ch.size)
      have AP_ : Hid ((Builtin.append_ #[59, 59] 59 #[.slice ba N bc, .slice (some ⟨p8, 0, none⟩) 1 1]).run Tryd.prog W1 = .ok (.slice a9 (N + 1) c9) W2) := ap_
      have O16 : W2.ownsRow B 35 1 (.slice la N lc) N xl := rown_bel O16 (fun q e => gr_.block q (O16.lt q e).2 (fun e2 => rown_ne O16 O9 (by decide) e (by rw [ownBlock_slice]; exact e2.symm)))
      have O22 : W2.ownsRow B 3 1 (.slice ca N cc) N xc := rown_bel O22 (fun q e => gr_.block q (O22.lt q e).2 (fun e2 => rown_ne O22 O9 (by decide) e (by rw [ownBlock_slice]; exact e2.symm)))
      have Kp8 := (gr_.block p8 (Array.getElem?_eq_some_iff.1 Kp8).1 (fun e => by have h1 := LT.lba p8 e.symm; omega)).trans Kp8
      have R0 := R0.grow gr_ (fun q e => ⟨LT.Sba q e, LT.lba q e, LT.gba q e, LT.bba q e⟩)
      have O9 := on_
      have N9 : ∀ q, blkOf a9 = some q → blkOf ba = some q ∨ wd.heap.size ≤ q := fun q e => (nw_ q e).imp id (fun h => Nat.le_trans SZ_ h)
      refine wp_app (.tmp 37) (.tmp 39) (by rfl) (by rfl) (by rfl) (by rfl) AP_ ?_
      refine hK.out _ _ (.inr (R0.cg CG)) (fun hSb => ?_)
      clear hK K
      try simp only [List.getElem_toArray, List.getElem_cons_zero, List.getElem_cons_succ, Act.put, List.setIfInBounds_toArray, List.set_cons_zero, List.set_cons_succ]
      clear hS
      refine till_two (i := 15) (j := 21) (by kernel_rfl) ?_ ?_
      · refine ⟨_, rfl, fun K hK => ?_⟩
        simp only [List.getElem_toArray, List.getElem_cons_zero, List.getElem_cons_succ]
        rw [if_pos (by rfl)]
        go_simp
        obtain ⟨p15, Hp15⟩ : ∃ p15, Hid (W2.heap.size = p15) := ⟨_, rfl⟩
        obtain ⟨W3, HW3⟩ : ∃ W3, Hid (W2.alloc (.cells #[.slice ll lm lk] 35) = W3) := ⟨_, rfl⟩
        have b_ : Below W2.heap.size W2 W3 := by rw [← HW3.out]; exact alloc1 _ _
        have Kp15 : W3.heap[p15]? = some (.cells #[.slice ll lm lk] 35 (0, 0)) := by rw [← HW3.out, ← Hp15.out]; exact heap_alloc_new _ _
        have Lp15 : wd.heap.size ≤ p15 := by rw [← Hp15.out]; exact R0.ch.size
        have O9 : W3.ownsRow B 34 2 (.slice a9 (N + 1) c9) (N + 1) (xb ++ [.int .i64 r, .int .i64 n]) := rown_bel O9 (fun q e => b_.block q (O9.lt q e).2)
        have O16 : W3.ownsRow B 35 1 (.slice la N lc) N xl := rown_bel O16 (fun q e => b_.block q (O16.lt q e).2)
        have O22 : W3.ownsRow B 3 1 (.slice ca N cc) N xc := rown_bel O22 (fun q e => b_.block q (O22.lt q e).2)
        have Kp8 := (b_.block p8 (Array.getElem?_eq_some_iff.1 Kp8).1).trans Kp8
        have R0 := R0.bel b_
        rw [HW3.out, Hp15.out]
        refine hK.out _ _ (.inr (R0.cg CG)) (fun hS => ?_)
        clear hK K
        try simp only [List.getElem_toArray, List.getElem_cons_zero, List.getElem_cons_succ, Act.put, List.setIfInBounds_toArray, List.set_cons_zero, List.set_cons_succ]
        clear hSb
        refine till_two (i := 16) (j := 21) (by kernel_rfl) ?_ ?_
        · refine ⟨_, rfl, fun K hK => ?_⟩
          simp only [List.getElem_toArray, List.getElem_cons_zero, List.getElem_cons_succ]
          rw [if_pos (by rfl)]
          have SZ_ : wd.heap.size ≤ W3.heap.size := R0.ch.size
          obtain ⟨a16, c16, W4, ap_, on_, gr_, nw_⟩ := app_one Tryd.underlying60 info35 rfl (by decide) O16 (cs := [.slice ll lm lk]) Kp15 rfl (by simp [Value.oneCell']) (by omega) (by unfold maxLen; omega) (Nat.le_trans hB R0.ch.size)
          have AP_ : Hid ((Builtin.append_ #[60, 60] 60 #[.slice la N lc, .slice (some ⟨p15, 0, none⟩) 1 1]).run Tryd.prog W3 = .ok (.slice a16 (N + 1) c16) W4) := ap_
          have O9 : W4.ownsRow B 34 2 (.slice a9 (N + 1) c9) (N + 1) (xb ++ [.int .i64 r, .int .i64 n]) := rown_bel O9 (fun q e => gr_.block q (O9.lt q e).2 (fun e2 => rown_ne O9 O16 (by decide) e (by rw [ownBlock_slice]; exact e2.symm)))
          have O22 : W4.ownsRow B 3 1 (.slice ca N cc) N xc := rown_bel O22 (fun q e => gr_.block q (O22.lt q e).2 (fun e2 => rown_ne O22 O16 (by decide) e (by rw [ownBlock_slice]; exact e2.symm)))
          have Kp8 := (gr_.block p8 (Array.getElem?_eq_some_iff.1 Kp8).1 (fun e => by have h1 := LT.lla p8 e.symm; omega)).trans Kp8
          have Kp15 := (gr_.block p15 (Array.getElem?_eq_some_iff.1 Kp15).1 (fun e => by have h1 := LT.lla p15 e.symm; omega)).trans Kp15
          have R0 := R0.grow gr_ (fun q e => ⟨LT.Sla q e, LT.lla q e, LT.gla q e, LT.bla q e⟩)
          have O16 := on_
          have N16 : ∀ q, blkOf a16 = some q → blkOf la = some q ∨ wd.heap.size ≤ q := fun q e => (nw_ q e).imp id (fun h => Nat.le_trans SZ_ h)
          refine wp_app (.tmp 44) (.tmp 46) (by rfl) (by rfl) (by rfl) (by rfl) AP_ ?_
          refine hK.out _ _ (.inr (R0.cg CG)) (fun hSb => ?_)
          clear hK K
          try simp only [List.getElem_toArray, List.getElem_cons_zero, List.getElem_cons_succ, Act.put, List.setIfInBounds_toArray, List.set_cons_zero, List.set_cons_succ]
          clear hS
          refine till_uno (i := 21) (by kernel_rfl) ?_
          · refine ⟨_, rfl, fun K hK => ?_⟩
            simp only [List.getElem_toArray, List.getElem_cons_zero, List.getElem_cons_succ]
            rw [if_pos (by rfl)]
            go_simp
            obtain ⟨p21, Hp21⟩ : ∃ p21, Hid (W4.heap.size = p21) := ⟨_, rfl⟩
            obtain ⟨W5, HW5⟩ : ∃ W5, Hid (W4.alloc (.cells #[.int .i64 0] 3) = W5) := ⟨_, rfl⟩
            have b_ : Below W4.heap.size W4 W5 := by rw [← HW5.out]; exact alloc1 _ _
            have Kp21 : W5.heap[p21]? = some (.cells #[.int .i64 0] 3 (0, 0)) := by rw [← HW5.out, ← Hp21.out]; exact heap_alloc_new _ _
            have Lp21 : wd.heap.size ≤ p21 := by rw [← Hp21.out]; exact R0.ch.size
            have O9 : W5.ownsRow B 34 2 (.slice a9 (N + 1) c9) (N + 1) (xb ++ [.int .i64 r, .int .i64 n]) := rown_bel O9 (fun q e => b_.block q (O9.lt q e).2)
            have O16 : W5.ownsRow B 35 1 (.slice a16 (N + 1) c16) (N + 1) (xl ++ [.slice ll lm lk]) := rown_bel O16 (fun q e => b_.block q (O16.lt q e).2)
            have O22 : W5.ownsRow B 3 1 (.slice ca N cc) N xc := rown_bel O22 (fun q e => b_.block q (O22.lt q e).2)
            have Kp8 := (b_.block p8 (Array.getElem?_eq_some_iff.1 Kp8).1).trans Kp8
            have Kp15 := (b_.block p15 (Array.getElem?_eq_some_iff.1 Kp15).1).trans Kp15
            have R0 := R0.bel b_
            rw [HW5.out, Hp21.out]
            refine hK.out _ _ (.inr (R0.cg CG)) (fun hS => ?_)
            clear hK K
            try simp only [List.getElem_toArray, List.getElem_cons_zero, List.getElem_cons_succ, Act.put, List.setIfInBounds_toArray, List.set_cons_zero, List.set_cons_succ]
            clear hSb
            refine till_uno (i := 22) (by kernel_rfl) ?_
            · refine ⟨_, rfl, fun K hK => ?_⟩
              simp only [List.getElem_toArray, List.getElem_cons_zero, List.getElem_cons_succ]
              rw [if_pos (by rfl)]
              have SZ_ : wd.heap.size ≤ W5.heap.size := R0.ch.size
              obtain ⟨a22, c22, W6, ap_, on_, gr_, nw_⟩ := app_one Tryd.underlying61 info3 rfl (by decide) O22 (cs := [.int .i64 0]) Kp21 rfl (by simp [Value.oneCell']) (by omega) (by unfold maxLen; omega) (Nat.le_trans hB R0.ch.size)
              have AP_ : Hid ((Builtin.append_ #[61, 61] 61 #[.slice ca N cc, .slice (some ⟨p21, 0, none⟩) 1 1]).run Tryd.prog W5 = .ok (.slice a22 (N + 1) c22) W6) := ap_
              have O9 : W6.ownsRow B 34 2 (.slice a9 (N + 1) c9) (N + 1) (xb ++ [.int .i64 r, .int .i64 n]) := rown_bel O9 (fun q e => gr_.block q (O9.lt q e).2 (fun e2 => rown_ne O9 O22 (by decide) e (by rw [ownBlock_slice]; exact e2.symm)))
              have O16 : W6.ownsRow B 35 1 (.slice a16 (N + 1) c16) (N + 1) (xl ++ [.slice ll lm lk]) := rown_bel O16 (fun q e => gr_.block q (O16.lt q e).2 (fun e2 => rown_ne O16 O22 (by decide) e (by rw [ownBlock_slice]; exact e2.symm)))
              have Kp8 := (gr_.block p8 (Array.getElem?_eq_some_iff.1 Kp8).1 (fun e => by have h1 := LT.lca p8 e.symm; omega)).trans Kp8
              have Kp15 := (gr_.block p15 (Array.getElem?_eq_some_iff.1 Kp15).1 (fun e => by have h1 := LT.lca p15 e.symm; omega)).trans Kp15
              have Kp21 := (gr_.block p21 (Array.getElem?_eq_some_iff.1 Kp21).1 (fun e => by have h1 := LT.lca p21 e.symm; omega)).trans Kp21
              have R0 := R0.grow gr_ (fun q e => ⟨LT.Sca q e, LT.lca q e, LT.gca q e, LT.bca q e⟩)
              have O22 := on_
              have N22 : ∀ q, blkOf a22 = some q → blkOf ca = some q ∨ wd.heap.size ≤ q := fun q e => (nw_ q e).imp id (fun h => Nat.le_trans SZ_ h)
              refine wp_app (.tmp 51) (.tmp 52) (by rfl) (by rfl) (by rfl) (by rfl) AP_ ?_
              refine hK.out _ _ (.inr (R0.cg CG)) (fun hSb => ?_)
              clear hK K
              try simp only [List.getElem_toArray, List.getElem_cons_zero, List.getElem_cons_succ, Act.put, List.setIfInBounds_toArray, List.set_cons_zero, List.set_cons_succ]
              clear hS
              obtain ⟨V1, V2, V3, HV1, HV2, HV3, c0_, f0_, c1_, f1_, c2_, f2_, FIN⟩ := R0.fin (ba' := a9) (bc' := c9) (la' := a16) (lc' := c16) (ca' := a22) (cc' := c22) CG O9 O16 O22 N9 N16 N22
              refine till_take (i := 23) (v := .pointer (some ⟨gg, 0, none⟩)) rfl (by kernel_rfl) (by kernel_rfl) (by kernel_rfl) (fun _ _ _ h => hQp _ _ _ _ _ h) (fun L w => tillP_set (by decide)) (Or.inl ⟨by rfl, fun w => by go_simp⟩) hSb (fun hS => ?_)
              simp only [List.getElem_toArray, List.getElem_cons_zero, List.getElem_cons_succ, Act.put, List.setIfInBounds_toArray, List.set_cons_zero, List.set_cons_succ]
              clear hSb
              refine till_take (i := 24) (v := .pointer (some ⟨gg, 0, none⟩)) rfl (by kernel_rfl) (by kernel_rfl) (by kernel_rfl) (fun _ _ _ h => hQp _ _ _ _ _ h) (fun L w => tillP_set (by decide)) (Or.inl ⟨by rfl, fun w => by go_simp⟩) hS (fun hSb => ?_)
              simp only [List.getElem_toArray, List.getElem_cons_zero, List.getElem_cons_succ, Act.put, List.setIfInBounds_toArray, List.set_cons_zero, List.set_cons_succ]
              clear hS
              refine till_one (i := 25) (by kernel_rfl) rfl (fun K hK => ?_)
              simp only [List.getElem_toArray, List.getElem_cons_zero, List.getElem_cons_succ]
              rw [if_pos (by rfl)]
              go_simp
              rw [HV1.out]
              refine hK.out _ _ (.inl (by rfl)) (fun hS => ?_)
              clear hK K
              try simp only [List.getElem_toArray, List.getElem_cons_zero, List.getElem_cons_succ, Act.put, List.setIfInBounds_toArray, List.set_cons_zero, List.set_cons_succ]
              clear hSb
              refine till_take (i := 26) (v := .pointer (some ⟨gg, 0, none⟩)) rfl (by kernel_rfl) (by kernel_rfl) (by kernel_rfl) (fun _ _ _ h => hQp _ _ _ _ _ h) (fun L w => tillP_set (by decide)) (Or.inl ⟨by rfl, fun w => by go_simp⟩) hS (fun hSb => ?_)
              simp only [List.getElem_toArray, List.getElem_cons_zero, List.getElem_cons_succ, Act.put, List.setIfInBounds_toArray, List.set_cons_zero, List.set_cons_succ]
              clear hS
              refine till_take (i := 27) (v := .pointer (some ⟨gg, 1, none⟩)) rfl (by kernel_rfl) (by kernel_rfl) (by kernel_rfl) (fun _ _ _ h => hQp _ _ _ _ _ h) (fun L w => tillP_set (by decide)) (Or.inl ⟨by rfl, fun w => by go_simp⟩) hSb (fun hS => ?_)
              simp only [List.getElem_toArray, List.getElem_cons_zero, List.getElem_cons_succ, Act.put, List.setIfInBounds_toArray, List.set_cons_zero, List.set_cons_succ]
              clear hSb
              refine till_one (i := 28) (by kernel_rfl) rfl (fun K hK => ?_)
              simp only [List.getElem_toArray, List.getElem_cons_zero, List.getElem_cons_succ]
              rw [if_pos (by rfl)]
              go_simp
              rw [HV2.out]
              refine hK.out _ _ (.inl (by rfl)) (fun hSb => ?_)
              clear hK K
              try simp only [List.getElem_toArray, List.getElem_cons_zero, List.getElem_cons_succ, Act.put, List.setIfInBounds_toArray, List.set_cons_zero, List.set_cons_succ]
              clear hS
              refine till_take (i := 29) (v := .pointer (some ⟨gg, 0, none⟩)) rfl (by kernel_rfl) (by kernel_rfl) (by kernel_rfl) (fun _ _ _ h => hQp _ _ _ _ _ h) (fun L w => tillP_set (by decide)) (Or.inl ⟨by rfl, fun w => by go_simp⟩) hSb (fun hS => ?_)
              simp only [List.getElem_toArray, List.getElem_cons_zero, List.getElem_cons_succ, Act.put, List.setIfInBounds_toArray, List.set_cons_zero, List.set_cons_succ]
              clear hSb
              refine till_take (i := 30) (v := .pointer (some ⟨gg, 2, none⟩)) rfl (by kernel_rfl) (by kernel_rfl) (by kernel_rfl) (fun _ _ _ h => hQp _ _ _ _ _ h) (fun L w => tillP_set (by decide)) (Or.inl ⟨by rfl, fun w => by go_simp⟩) hS (fun hSb => ?_)
              simp only [List.getElem_toArray, List.getElem_cons_zero, List.getElem_cons_succ, Act.put, List.setIfInBounds_toArray, List.set_cons_zero, List.set_cons_succ]
              clear hS
              refine till_one (i := 31) (by kernel_rfl) rfl (fun K hK => ?_)
              simp only [List.getElem_toArray, List.getElem_cons_zero, List.getElem_cons_succ]
              rw [if_pos (by rfl)]
              go_simp
              rw [HV3.out]
              refine hK.out _ _ (.inl (by rfl)) (fun hS => ?_)
              clear hK K
              try simp only [List.getElem_toArray, List.getElem_cons_zero, List.getElem_cons_succ, Act.put, List.setIfInBounds_toArray, List.set_cons_zero, List.set_cons_succ]
              clear hSb
              refine till_done (by kernel_rfl) ?_ _
              exact hQ V3 a9 c9 a16 c16 a22 c22 p8 p15 p21 FIN
        · refine ⟨_, rfl, fun K hK => ?_⟩
          simp only [List.getElem_toArray, List.getElem_cons_zero, List.getElem_cons_succ]
          rw [if_pos (by rfl)]
          go_simp
          obtain ⟨p21, Hp21⟩ : ∃ p21, Hid (W3.heap.size = p21) := ⟨_, rfl⟩
          obtain ⟨W7, HW7⟩ : ∃ W7, Hid (W3.alloc (.cells #[.int .i64 0] 3) = W7) := ⟨_, rfl⟩
          have b_ : Below W3.heap.size W3 W7 := by rw [← HW7.out]; exact alloc1 _ _
          have Kp21 : W7.heap[p21]? = some (.cells #[.int .i64 0] 3 (0, 0)) := by rw [← HW7.out, ← Hp21.out]; exact heap_alloc_new _ _
          have Lp21 : wd.heap.size ≤ p21 := by rw [← Hp21.out]; exact R0.ch.size
          have O9 : W7.ownsRow B 34 2 (.slice a9 (N + 1) c9) (N + 1) (xb ++ [.int .i64 r, .int .i64 n]) := rown_bel O9 (fun q e => b_.block q (O9.lt q e).2)
          have O16 : W7.ownsRow B 35 1 (.slice la N lc) N xl := rown_bel O16 (fun q e => b_.block q (O16.lt q e).2)
          have O22 : W7.ownsRow B 3 1 (.slice ca N cc) N xc := rown_bel O22 (fun q e => b_.block q (O22.lt q e).2)
          have Kp8 := (b_.block p8 (Array.getElem?_eq_some_iff.1 Kp8).1).trans Kp8
          have Kp15 := (b_.block p15 (Array.getElem?_eq_some_iff.1 Kp15).1).trans Kp15
          have R0 := R0.bel b_
          rw [HW7.out, Hp21.out]
          refine hK.out _ _ (.inr (R0.cg CG)) (fun hSb => ?_)
          clear hK K
          try simp only [List.getElem_toArray, List.getElem_cons_zero, List.getElem_cons_succ, Act.put, List.setIfInBounds_toArray, List.set_cons_zero, List.set_cons_succ]
          clear hS
          refine till_uno (i := 16) (by kernel_rfl) ?_
          · refine ⟨_, rfl, fun K hK => ?_⟩
            simp only [List.getElem_toArray, List.getElem_cons_zero, List.getElem_cons_succ]
            rw [if_pos (by rfl)]
            have SZ_ : wd.heap.size ≤ W7.heap.size := R0.ch.size
            obtain ⟨a16, c16, W8, ap_, on_, gr_, nw_⟩ := app_one Tryd.underlying60 info35 rfl (by decide) O16 (cs := [.slice ll lm lk]) Kp15 rfl (by simp [Value.oneCell']) (by omega) (by unfold maxLen; omega) (Nat.le_trans hB R0.ch.size)
            have AP_ : Hid ((Builtin.append_ #[60, 60] 60 #[.slice la N lc, .slice (some ⟨p15, 0, none⟩) 1 1]).run Tryd.prog W7 = .ok (.slice a16 (N + 1) c16) W8) := ap_
            have O9 : W8.ownsRow B 34 2 (.slice a9 (N + 1) c9) (N + 1) (xb ++ [.int .i64 r, .int .i64 n]) := rown_bel O9 (fun q e => gr_.block q (O9.lt q e).2 (fun e2 => rown_ne O9 O16 (by decide) e (by rw [ownBlock_slice]; exact e2.symm)))
            have O22 : W8.ownsRow B 3 1 (.slice ca N cc) N xc := rown_bel O22 (fun q e => gr_.block q (O22.lt q e).2 (fun e2 => rown_ne O22 O16 (by decide) e (by rw [ownBlock_slice]; exact e2.symm)))
            have Kp8 := (gr_.block p8 (Array.getElem?_eq_some_iff.1 Kp8).1 (fun e => by have h1 := LT.lla p8 e.symm; omega)).trans Kp8
            have Kp15 := (gr_.block p15 (Array.getElem?_eq_some_iff.1 Kp15).1 (fun e => by have h1 := LT.lla p15 e.symm; omega)).trans Kp15
            have Kp21 := (gr_.block p21 (Array.getElem?_eq_some_iff.1 Kp21).1 (fun e => by have h1 := LT.lla p21 e.symm; omega)).trans Kp21
            have R0 := R0.grow gr_ (fun q e => ⟨LT.Sla q e, LT.lla q e, LT.gla q e, LT.bla q e⟩)
            have O16 := on_
            have N16 : ∀ q, blkOf a16 = some q → blkOf la = some q ∨ wd.heap.size ≤ q := fun q e => (nw_ q e).imp id (fun h => Nat.le_trans SZ_ h)
            refine wp_app (.tmp 44) (.tmp 46) (by rfl) (by rfl) (by rfl) (by rfl) AP_ ?_
            refine hK.out _ _ (.inr (R0.cg CG)) (fun hS => ?_)
            clear hK K
            try simp only [List.getElem_toArray, List.getElem_cons_zero, List.getElem_cons_succ, Act.put, List.setIfInBounds_toArray, List.set_cons_zero, List.set_cons_succ]
            clear hSb
            refine till_uno (i := 22) (by kernel_rfl) ?_
            · refine ⟨_, rfl, fun K hK => ?_⟩
              simp only [List.getElem_toArray, List.getElem_cons_zero, List.getElem_cons_succ]
              rw [if_pos (by rfl)]
              have SZ_ : wd.heap.size ≤ W8.heap.size := R0.ch.size
              obtain ⟨a22, c22, W9, ap_, on_, gr_, nw_⟩ := app_one Tryd.underlying61 info3 rfl (by decide) O22 (cs := [.int .i64 0]) Kp21 rfl (by simp [Value.oneCell']) (by omega) (by unfold maxLen; omega) (Nat.le_trans hB R0.ch.size)
              have AP_ : Hid ((Builtin.append_ #[61, 61] 61 #[.slice ca N cc, .slice (some ⟨p21, 0, none⟩) 1 1]).run Tryd.prog W8 = .ok (.slice a22 (N + 1) c22) W9) := ap_
              have O9 : W9.ownsRow B 34 2 (.slice a9 (N + 1) c9) (N + 1) (xb ++ [.int .i64 r, .int .i64 n]) := rown_bel O9 (fun q e => gr_.block q (O9.lt q e).2 (fun e2 => rown_ne O9 O22 (by decide) e (by rw [ownBlock_slice]; exact e2.symm)))
              have O16 : W9.ownsRow B 35 1 (.slice a16 (N + 1) c16) (N + 1) (xl ++ [.slice ll lm lk]) := rown_bel O16 (fun q e => gr_.block q (O16.lt q e).2 (fun e2 => rown_ne O16 O22 (by decide) e (by rw [ownBlock_slice]; exact e2.symm)))
              have Kp8 := (gr_.block p8 (Array.getElem?_eq_some_iff.1 Kp8).1 (fun e => by have h1 := LT.lca p8 e.symm; omega)).trans Kp8
              have Kp15 := (gr_.block p15 (Array.getElem?_eq_some_iff.1 Kp15).1 (fun e => by have h1 := LT.lca p15 e.symm; omega)).trans Kp15
              have Kp21 := (gr_.block p21 (Array.getElem?_eq_some_iff.1 Kp21).1 (fun e => by have h1 := LT.lca p21 e.symm; omega)).trans Kp21
              have R0 := R0.grow gr_ (fun q e => ⟨LT.Sca q e, LT.lca q e, LT.gca q e, LT.bca q e⟩)
              have O22 := on_
              have N22 : ∀ q, blkOf a22 = some q → blkOf ca = some q ∨ wd.heap.size ≤ q := fun q e => (nw_ q e).imp id (fun h => Nat.le_trans SZ_ h)
              refine wp_app (.tmp 51) (.tmp 52) (by rfl) (by rfl) (by rfl) (by rfl) AP_ ?_
              refine hK.out _ _ (.inr (R0.cg CG)) (fun hSb => ?_)
              clear hK K
              try simp only [List.getElem_toArray, List.getElem_cons_zero, List.getElem_cons_succ, Act.put, List.setIfInBounds_toArray, List.set_cons_zero, List.set_cons_succ]
              clear hS
              obtain ⟨V1, V2, V3, HV1, HV2, HV3, c0_, f0_, c1_, f1_, c2_, f2_, FIN⟩ := R0.fin (ba' := a9) (bc' := c9) (la' := a16) (lc' := c16) (ca' := a22) (cc' := c22) CG O9 O16 O22 N9 N16 N22
              refine till_take (i := 23) (v := .pointer (some ⟨gg, 0, none⟩)) rfl (by kernel_rfl) (by kernel_rfl) (by kernel_rfl) (fun _ _ _ h => hQp _ _ _ _ _ h) (fun L w => tillP_set (by decide)) (Or.inl ⟨by rfl, fun w => by go_simp⟩) hSb (fun hS => ?_)
              simp only [List.getElem_toArray, List.getElem_cons_zero, List.getElem_cons_succ, Act.put, List.setIfInBounds_toArray, List.set_cons_zero, List.set_cons_succ]
              clear hSb
              refine till_take (i := 24) (v := .pointer (some ⟨gg, 0, none⟩)) rfl (by kernel_rfl) (by kernel_rfl) (by kernel_rfl) (fun _ _ _ h => hQp _ _ _ _ _ h) (fun L w => tillP_set (by decide)) (Or.inl ⟨by rfl, fun w => by go_simp⟩) hS (fun hSb => ?_)
              simp only [List.getElem_toArray, List.getElem_cons_zero, List.getElem_cons_succ, Act.put, List.setIfInBounds_toArray, List.set_cons_zero, List.set_cons_succ]
              clear hS
              refine till_one (i := 25) (by kernel_rfl) rfl (fun K hK => ?_)
              simp only [List.getElem_toArray, List.getElem_cons_zero, List.getElem_cons_succ]
              rw [if_pos (by rfl)]
              go_simp
              rw [HV1.out]
              refine hK.out _ _ (.inl (by rfl)) (fun hS => ?_)
              clear hK K
              try simp only [List.getElem_toArray, List.getElem_cons_zero, List.getElem_cons_succ, Act.put, List.setIfInBounds_toArray, List.set_cons_zero, List.set_cons_succ]
              clear hSb
              refine till_take (i := 26) (v := .pointer (some ⟨gg, 0, none⟩)) rfl (by kernel_rfl) (by kernel_rfl) (by kernel_rfl) (fun _ _ _ h => hQp _ _ _ _ _ h) (fun L w => tillP_set (by decide)) (Or.inl ⟨by rfl, fun w => by go_simp⟩) hS (fun hSb => ?_)
              simp only [List.getElem_toArray, List.getElem_cons_zero, List.getElem_cons_succ, Act.put, List.setIfInBounds_toArray, List.set_cons_zero, List.set_cons_succ]
              clear hS
              refine till_take (i := 27) (v := .pointer (some ⟨gg, 1, none⟩)) rfl (by kernel_rfl) (by kernel_rfl) (by kernel_rfl) (fun _ _ _ h => hQp _ _ _ _ _ h) (fun L w => tillP_set (by decide)) (Or.inl ⟨by rfl, fun w => by go_simp⟩) hSb (fun hS => ?_)
              simp only [List.getElem_toArray, List.getElem_cons_zero, List.getElem_cons_succ, Act.put, List.setIfInBounds_toArray, List.set_cons_zero, List.set_cons_succ]
              clear hSb
              refine till_one (i := 28) (by kernel_rfl) rfl (fun K hK => ?_)
              simp only [List.getElem_toArray, List.getElem_cons_zero, List.getElem_cons_succ]
              rw [if_pos (by rfl)]
              go_simp
              rw [HV2.out]
              refine hK.out _ _ (.inl (by rfl)) (fun hSb => ?_)
              clear hK K
              try simp only [List.getElem_toArray, List.getElem_cons_zero, List.getElem_cons_succ, Act.put, List.setIfInBounds_toArray, List.set_cons_zero, List.set_cons_succ]
              clear hS
              refine till_take (i := 29) (v := .pointer (some ⟨gg, 0, none⟩)) rfl (by kernel_rfl) (by kernel_rfl) (by kernel_rfl) (fun _ _ _ h => hQp _ _ _ _ _ h) (fun L w => tillP_set (by decide)) (Or.inl ⟨by rfl, fun w => by go_simp⟩) hSb (fun hS => ?_)
              simp only [List.getElem_toArray, List.getElem_cons_zero, List.getElem_cons_succ, Act.put, List.setIfInBounds_toArray, List.set_cons_zero, List.set_cons_succ]
              clear hSb
              refine till_take (i := 30) (v := .pointer (some ⟨gg, 2, none⟩)) rfl (by kernel_rfl) (by kernel_rfl) (by kernel_rfl) (fun _ _ _ h => hQp _ _ _ _ _ h) (fun L w => tillP_set (by decide)) (Or.inl ⟨by rfl, fun w => by go_simp⟩) hS (fun hSb => ?_)
              simp only [List.getElem_toArray, List.getElem_cons_zero, List.getElem_cons_succ, Act.put, List.setIfInBounds_toArray, List.set_cons_zero, List.set_cons_succ]
              clear hS
              refine till_one (i := 31) (by kernel_rfl) rfl (fun K hK => ?_)
              simp only [List.getElem_toArray, List.getElem_cons_zero, List.getElem_cons_succ]
              rw [if_pos (by rfl)]
              go_simp
              rw [HV3.out]
              refine hK.out _ _ (.inl (by rfl)) (fun hS => ?_)
              clear hK K
              try simp only [List.getElem_toArray, List.getElem_cons_zero, List.getElem_cons_succ, Act.put, List.setIfInBounds_toArray, List.set_cons_zero, List.set_cons_succ]
              clear hSb
              refine till_done (by kernel_rfl) ?_ _
              exact hQ V3 a9 c9 a16 c16 a22 c22 p8 p15 p21 FIN
      · refine ⟨_, rfl, fun K hK => ?_⟩
        simp only [List.getElem_toArray, List.getElem_cons_zero, List.getElem_cons_succ]
        rw [if_pos (by rfl)]
        go_simp
        obtain ⟨p21, Hp21⟩ : ∃ p21, Hid (W2.heap.size = p21) := ⟨_, rfl⟩
        obtain ⟨W10, HW10⟩ : ∃ W10, Hid (W2.alloc (.cells #[.int .i64 0] 3) = W10) := ⟨_, rfl⟩
        have b_ : Below W2.heap.size W2 W10 := by rw [← HW10.out]; exact alloc1 _ _
        have Kp21 : W10.heap[p21]? = some (.cells #[.int .i64 0] 3 (0, 0)) := by rw [← HW10.out, ← Hp21.out]; exact heap_alloc_new _ _
        have Lp21 : wd.heap.size ≤ p21 := by rw [← Hp21.out]; exact R0.ch.size
        have O9 : W10.ownsRow B 34 2 (.slice a9 (N + 1) c9) (N + 1) (xb ++ [.int .i64 r, .int .i64 n]) := rown_bel O9 (fun q e => b_.block q (O9.lt q e).2)
        have O16 : W10.ownsRow B 35 1 (.slice la N lc) N xl := rown_bel O16 (fun q e => b_.block q (O16.lt q e).2)
        have O22 : W10.ownsRow B 3 1 (.slice ca N cc) N xc := rown_bel O22 (fun q e => b_.block q (O22.lt q e).2)
        have Kp8 := (b_.block p8 (Array.getElem?_eq_some_iff.1 Kp8).1).trans Kp8
        have R0 := R0.bel b_
        rw [HW10.out, Hp21.out]
        refine hK.out _ _ (.inr (R0.cg CG)) (fun hS => ?_)
        clear hK K
        try simp only [List.getElem_toArray, List.getElem_cons_zero, List.getElem_cons_succ, Act.put, List.setIfInBounds_toArray, List.set_cons_zero, List.set_cons_succ]
        clear hSb
        refine till_uno (i := 15) (by kernel_rfl) ?_
        · refine ⟨_, rfl, fun K hK => ?_⟩
          simp only [List.getElem_toArray, List.getElem_cons_zero, List.getElem_cons_succ]
          rw [if_pos (by rfl)]
          go_simp
          obtain ⟨p15, Hp15⟩ : ∃ p15, Hid (W10.heap.size = p15) := ⟨_, rfl⟩
          obtain ⟨W11, HW11⟩ : ∃ W11, Hid (W10.alloc (.cells #[.slice ll lm lk] 35) = W11) := ⟨_, rfl⟩
          have b_ : Below W10.heap.size W10 W11 := by rw [← HW11.out]; exact alloc1 _ _
          have Kp15 : W11.heap[p15]? = some (.cells #[.slice ll lm lk] 35 (0, 0)) := by rw [← HW11.out, ← Hp15.out]; exact heap_alloc_new _ _
          have Lp15 : wd.heap.size ≤ p15 := by rw [← Hp15.out]; exact R0.ch.size
          have O9 : W11.ownsRow B 34 2 (.slice a9 (N + 1) c9) (N + 1) (xb ++ [.int .i64 r, .int .i64 n]) := rown_bel O9 (fun q e => b_.block q (O9.lt q e).2)
          have O16 : W11.ownsRow B 35 1 (.slice la N lc) N xl := rown_bel O16 (fun q e => b_.block q (O16.lt q e).2)
          have O22 : W11.ownsRow B 3 1 (.slice ca N cc) N xc := rown_bel O22 (fun q e => b_.block q (O22.lt q e).2)
          have Kp8 := (b_.block p8 (Array.getElem?_eq_some_iff.1 Kp8).1).trans Kp8
          have Kp21 := (b_.block p21 (Array.getElem?_eq_some_iff.1 Kp21).1).trans Kp21
          have R0 := R0.bel b_
          rw [HW11.out, Hp15.out]
          refine hK.out _ _ (.inr (R0.cg CG)) (fun hSb => ?_)
          clear hK K
          try simp only [List.getElem_toArray, List.getElem_cons_zero, List.getElem_cons_succ, Act.put, List.setIfInBounds_toArray, List.set_cons_zero, List.set_cons_succ]
          clear hS
          refine till_uno (i := 16) (by kernel_rfl) ?_
          · refine ⟨_, rfl, fun K hK => ?_⟩
            simp only [List.getElem_toArray, List.getElem_cons_zero, List.getElem_cons_succ]
            rw [if_pos (by rfl)]
            have SZ_ : wd.heap.size ≤ W11.heap.size := R0.ch.size
            obtain ⟨a16, c16, W12, ap_, on_, gr_, nw_⟩ := app_one Tryd.underlying60 info35 rfl (by decide) O16 (cs := [.slice ll lm lk]) Kp15 rfl (by simp [Value.oneCell']) (by omega) (by unfold maxLen; omega) (Nat.le_trans hB R0.ch.size)
            have AP_ : Hid ((Builtin.append_ #[60, 60] 60 #[.slice la N lc, .slice (some ⟨p15, 0, none⟩) 1 1]).run Tryd.prog W11 = .ok (.slice a16 (N + 1) c16) W12) := ap_
            have O9 : W12.ownsRow B 34 2 (.slice a9 (N + 1) c9) (N + 1) (xb ++ [.int .i64 r, .int .i64 n]) := rown_bel O9 (fun q e => gr_.block q (O9.lt q e).2 (fun e2 => rown_ne O9 O16 (by decide) e (by rw [ownBlock_slice]; exact e2.symm)))
            have O22 : W12.ownsRow B 3 1 (.slice ca N cc) N xc := rown_bel O22 (fun q e => gr_.block q (O22.lt q e).2 (fun e2 => rown_ne O22 O16 (by decide) e (by rw [ownBlock_slice]; exact e2.symm)))
            have Kp8 := (gr_.block p8 (Array.getElem?_eq_some_iff.1 Kp8).1 (fun e => by have h1 := LT.lla p8 e.symm; omega)).trans Kp8
            have Kp15 := (gr_.block p15 (Array.getElem?_eq_some_iff.1 Kp15).1 (fun e => by have h1 := LT.lla p15 e.symm; omega)).trans Kp15
            have Kp21 := (gr_.block p21 (Array.getElem?_eq_some_iff.1 Kp21).1 (fun e => by have h1 := LT.lla p21 e.symm; omega)).trans Kp21
            have R0 := R0.grow gr_ (fun q e => ⟨LT.Sla q e, LT.lla q e, LT.gla q e, LT.bla q e⟩)
            have O16 := on_
            have N16 : ∀ q, blkOf a16 = some q → blkOf la = some q ∨ wd.heap.size ≤ q := fun q e => (nw_ q e).imp id (fun h => Nat.le_trans SZ_ h)
            refine wp_app (.tmp 44) (.tmp 46) (by rfl) (by rfl) (by rfl) (by rfl) AP_ ?_
            refine hK.out _ _ (.inr (R0.cg CG)) (fun hS => ?_)
            clear hK K
            try simp only [List.getElem_toArray, List.getElem_cons_zero, List.getElem_cons_succ, Act.put, List.setIfInBounds_toArray, List.set_cons_zero, List.set_cons_succ]
            clear hSb
            refine till_uno (i := 22) (by kernel_rfl) ?_
            · refine ⟨_, rfl, fun K hK => ?_⟩
              simp only [List.getElem_toArray, List.getElem_cons_zero, List.getElem_cons_succ]
              rw [if_pos (by rfl)]
              have SZ_ : wd.heap.size ≤ W12.heap.size := R0.ch.size
              obtain ⟨a22, c22, W13, ap_, on_, gr_, nw_⟩ := app_one Tryd.underlying61 info3 rfl (by decide) O22 (cs := [.int .i64 0]) Kp21 rfl (by simp [Value.oneCell']) (by omega) (by unfold maxLen; omega) (Nat.le_trans hB R0.ch.size)
              have AP_ : Hid ((Builtin.append_ #[61, 61] 61 #[.slice ca N cc, .slice (some ⟨p21, 0, none⟩) 1 1]).run Tryd.prog W12 = .ok (.slice a22 (N + 1) c22) W13) := ap_
              have O9 : W13.ownsRow B 34 2 (.slice a9 (N + 1) c9) (N + 1) (xb ++ [.int .i64 r, .int .i64 n]) := rown_bel O9 (fun q e => gr_.block q (O9.lt q e).2 (fun e2 => rown_ne O9 O22 (by decide) e (by rw [ownBlock_slice]; exact e2.symm)))
              have O16 : W13.ownsRow B 35 1 (.slice a16 (N + 1) c16) (N + 1) (xl ++ [.slice ll lm lk]) := rown_bel O16 (fun q e => gr_.block q (O16.lt q e).2 (fun e2 => rown_ne O16 O22 (by decide) e (by rw [ownBlock_slice]; exact e2.symm)))
              have Kp8 := (gr_.block p8 (Array.getElem?_eq_some_iff.1 Kp8).1 (fun e => by have h1 := LT.lca p8 e.symm; omega)).trans Kp8
              have Kp15 := (gr_.block p15 (Array.getElem?_eq_some_iff.1 Kp15).1 (fun e => by have h1 := LT.lca p15 e.symm; omega)).trans Kp15
              have Kp21 := (gr_.block p21 (Array.getElem?_eq_some_iff.1 Kp21).1 (fun e => by have h1 := LT.lca p21 e.symm; omega)).trans Kp21
              have R0 := R0.grow gr_ (fun q e => ⟨LT.Sca q e, LT.lca q e, LT.gca q e, LT.bca q e⟩)
              have O22 := on_
              have N22 : ∀ q, blkOf a22 = some q → blkOf ca = some q ∨ wd.heap.size ≤ q := fun q e => (nw_ q e).imp id (fun h => Nat.le_trans SZ_ h)
              refine wp_app (.tmp 51) (.tmp 52) (by rfl) (by rfl) (by rfl) (by rfl) AP_ ?_
              refine hK.out _ _ (.inr (R0.cg CG)) (fun hSb => ?_)
              clear hK K
              try simp only [List.getElem_toArray, List.getElem_cons_zero, List.getElem_cons_succ, Act.put, List.setIfInBounds_toArray, List.set_cons_zero, List.set_cons_succ]
              clear hS
              obtain ⟨V1, V2, V3, HV1, HV2, HV3, c0_, f0_, c1_, f1_, c2_, f2_, FIN⟩ := R0.fin (ba' := a9) (bc' := c9) (la' := a16) (lc' := c16) (ca' := a22) (cc' := c22) CG O9 O16 O22 N9 N16 N22
              refine till_take (i := 23) (v := .pointer (some ⟨gg, 0, none⟩)) rfl (by kernel_rfl) (by kernel_rfl) (by kernel_rfl) (fun _ _ _ h => hQp _ _ _ _ _ h) (fun L w => tillP_set (by decide)) (Or.inl ⟨by rfl, fun w => by go_simp⟩) hSb (fun hS => ?_)
              simp only [List.getElem_toArray, List.getElem_cons_zero, List.getElem_cons_succ, Act.put, List.setIfInBounds_toArray, List.set_cons_zero, List.set_cons_succ]
              clear hSb
              refine till_take (i := 24) (v := .pointer (some ⟨gg, 0, none⟩)) rfl (by kernel_rfl) (by kernel_rfl) (by kernel_rfl) (fun _ _ _ h => hQp _ _ _ _ _ h) (fun L w => tillP_set (by decide)) (Or.inl ⟨by rfl, fun w => by go_simp⟩) hS (fun hSb => ?_)
              simp only [List.getElem_toArray, List.getElem_cons_zero, List.getElem_cons_succ, Act.put, List.setIfInBounds_toArray, List.set_cons_zero, List.set_cons_succ]
              clear hS
              refine till_one (i := 25) (by kernel_rfl) rfl (fun K hK => ?_)
              simp only [List.getElem_toArray, List.getElem_cons_zero, List.getElem_cons_succ]
              rw [if_pos (by rfl)]
              go_simp
              rw [HV1.out]
              refine hK.out _ _ (.inl (by rfl)) (fun hS => ?_)
              clear hK K
              try simp only [List.getElem_toArray, List.getElem_cons_zero, List.getElem_cons_succ, Act.put, List.setIfInBounds_toArray, List.set_cons_zero, List.set_cons_succ]
              clear hSb
              refine till_take (i := 26) (v := .pointer (some ⟨gg, 0, none⟩)) rfl (by kernel_rfl) (by kernel_rfl) (by kernel_rfl) (fun _ _ _ h => hQp _ _ _ _ _ h) (fun L w => tillP_set (by decide)) (Or.inl ⟨by rfl, fun w => by go_simp⟩) hS (fun hSb => ?_)
              simp only [List.getElem_toArray, List.getElem_cons_zero, List.getElem_cons_succ, Act.put, List.setIfInBounds_toArray, List.set_cons_zero, List.set_cons_succ]
              clear hS
              refine till_take (i := 27) (v := .pointer (some ⟨gg, 1, none⟩)) rfl (by kernel_rfl) (by kernel_rfl) (by kernel_rfl) (fun _ _ _ h => hQp _ _ _ _ _ h) (fun L w => tillP_set (by decide)) (Or.inl ⟨by rfl, fun w => by go_simp⟩) hSb (fun hS => ?_)
              simp only [List.getElem_toArray, List.getElem_cons_zero, List.getElem_cons_succ, Act.put, List.setIfInBounds_toArray, List.set_cons_zero, List.set_cons_succ]
              clear hSb
              refine till_one (i := 28) (by kernel_rfl) rfl (fun K hK => ?_)
              simp only [List.getElem_toArray, List.getElem_cons_zero, List.getElem_cons_succ]
              rw [if_pos (by rfl)]
              go_simp
              rw [HV2.out]
              refine hK.out _ _ (.inl (by rfl)) (fun hSb => ?_)
              clear hK K
              try simp only [List.getElem_toArray, List.getElem_cons_zero, List.getElem_cons_succ, Act.put, List.setIfInBounds_toArray, List.set_cons_zero, List.set_cons_succ]
              clear hS
              refine till_take (i := 29) (v := .pointer (some ⟨gg, 0, none⟩)) rfl (by kernel_rfl) (by kernel_rfl) (by kernel_rfl) (fun _ _ _ h => hQp _ _ _ _ _ h) (fun L w => tillP_set (by decide)) (Or.inl ⟨by rfl, fun w => by go_simp⟩) hSb (fun hS => ?_)
              simp only [List.getElem_toArray, List.getElem_cons_zero, List.getElem_cons_succ, Act.put, List.setIfInBounds_toArray, List.set_cons_zero, List.set_cons_succ]
              clear hSb
              refine till_take (i := 30) (v := .pointer (some ⟨gg, 2, none⟩)) rfl (by kernel_rfl) (by kernel_rfl) (by kernel_rfl) (fun _ _ _ h => hQp _ _ _ _ _ h) (fun L w => tillP_set (by decide)) (Or.inl ⟨by rfl, fun w => by go_simp⟩) hS (fun hSb => ?_)
              simp only [List.getElem_toArray, List.getElem_cons_zero, List.getElem_cons_succ, Act.put, List.setIfInBounds_toArray, List.set_cons_zero, List.set_cons_succ]
              clear hS
              refine till_one (i := 31) (by kernel_rfl) rfl (fun K hK => ?_)
              simp only [List.getElem_toArray, List.getElem_cons_zero, List.getElem_cons_succ]
              rw [if_pos (by rfl)]
              go_simp
              rw [HV3.out]
              refine hK.out _ _ (.inl (by rfl)) (fun hS => ?_)
              clear hK K
              try simp only [List.getElem_toArray, List.getElem_cons_zero, List.getElem_cons_succ, Act.put, List.setIfInBounds_toArray, List.set_cons_zero, List.set_cons_succ]
              clear hSb
              refine till_done (by kernel_rfl) ?_ _
              exact hQ V3 a9 c9 a16 c16 a22 c22 p8 p15 p21 FIN
    · refine ⟨_, rfl, fun K hK => ?_⟩
      simp only [List.getElem_toArray, List.getElem_cons_zero, List.getElem_cons_succ]
      rw [if_pos (by rfl)]
      go_simp
      obtain ⟨p15, Hp15⟩ : ∃ p15, Hid (W1.heap.size = p15) := ⟨_, rfl⟩
      obtain ⟨W14, HW14⟩ : ∃ W14, Hid (W1.alloc (.cells #[.slice ll lm lk] 35) = W14) := ⟨_, rfl⟩
      have b_ : Below W1.heap.size W1 W14 := by rw [← HW14.out]; exact alloc1 _ _
      have Kp15 : W14.heap[p15]? = some (.cells #[.slice ll lm lk] 35 (0, 0)) := by rw [← HW14.out, ← Hp15.out]; exact heap_alloc_new _ _
      have Lp15 : wd.heap.size ≤ p15 := by rw [← Hp15.out]; exact R0.ch.size
      have O9 : W14.ownsRow B 34 2 (.slice ba N bc) N xb := rown_bel O9 (fun q e => b_.block q (O9.lt q e).2)
      have O16 : W14.ownsRow B 35 1 (.slice la N lc) N xl := rown_bel O16 (fun q e => b_.block q (O16.lt q e).2)
      have O22 : W14.ownsRow B 3 1 (.slice ca N cc) N xc := rown_bel O22 (fun q e => b_.block q (O22.lt q e).2)
      have Kp8 := (b_.block p8 (Array.getElem?_eq_some_iff.1 Kp8).1).trans Kp8
      have R0 := R0.bel b_
      rw [HW14.out, Hp15.out]
      refine hK.out _ _ (.inr (R0.cg CG)) (fun hSb => ?_)
      clear hK K
      try simp only [List.getElem_toArray, List.getElem_cons_zero, List.getElem_cons_succ, Act.put, List.setIfInBounds_toArray, List.set_cons_zero, List.set_cons_succ]
      clear hS
      refine till_two (i := 9) (j := 21) (by kernel_rfl) ?_ ?_
      · refine ⟨_, rfl, fun K hK => ?_⟩
        simp only [List.getElem_toArray, List.getElem_cons_zero, List.getElem_cons_succ]
        rw [if_pos (by rfl)]
        have SZ_ : wd.heap.size ≤ W14.heap.size := R0.ch.size
        obtain ⟨a9, c9, W15, ap_, on_, gr_, nw_⟩ := app_one Tryd.underlying59 info34 rfl (by decide) O9 (cs := [.int .i64 r, .int .i64 n]) Kp8 rfl (by simp [Value.oneCell']) (by omega) (by unfold maxLen; omega) (Nat.le_trans hB R0.ch.size)
        have AP_ : Hid ((Builtin.append_ #[59, 59] 59 #[.slice ba N bc, .slice (some ⟨p8, 0, none⟩) 1 1]).run Tryd.prog W14 = .ok (.slice a9 (N + 1) c9) W15) := ap_
        have O16 : W15.ownsRow B 35 1 (.slice la N lc) N xl := rown_bel O16 (fun q e => gr_.block q (O16.lt q e).2 (fun e2 => rown_ne O16 O9 (by decide) e (by rw [ownBlock_slice]; exact e2.symm)))
        have O22 : W15.ownsRow B 3 1 (.slice ca N cc) N xc := rown_bel O22 (fun q e => gr_.block q (O22.lt q e).2 (fun e2 => rown_ne O22 O9 (by decide) e (by rw [ownBlock_slice]; exact e2.symm)))
        have Kp8 := (gr_.block p8 (Array.getElem?_eq_some_iff.1 Kp8).1 (fun e => by have h1 := LT.lba p8 e.symm; omega)).trans Kp8
        have Kp15 := (gr_.block p15 (Array.getElem?_eq_some_iff.1 Kp15).1 (fun e => by have h1 := LT.lba p15 e.symm; omega)).trans Kp15
        have R0 := R0.grow gr_ (fun q e => ⟨LT.Sba q e, LT.lba q e, LT.gba q e, LT.bba q e⟩)
        have O9 := on_
        have N9 : ∀ q, blkOf a9 = some q → blkOf ba = some q ∨ wd.heap.size ≤ q := fun q e => (nw_ q e).imp id (fun h => Nat.le_trans SZ_ h)
        refine wp_app (.tmp 37) (.tmp 39) (by rfl) (by rfl) (by rfl) (by rfl) AP_ ?_
        refine hK.out _ _ (.inr (R0.cg CG)) (fun hS => ?_)
        clear hK K
        try simp only [List.getElem_toArray, List.getElem_cons_zero, List.getElem_cons_succ, Act.put, List.setIfInBounds_toArray, List.set_cons_zero, List.set_cons_succ]
        clear hSb
        refine till_two (i := 16) (j := 21) (by kernel_rfl) ?_ ?_
        · refine ⟨_, rfl, fun K hK => ?_⟩
          simp only [List.getElem_toArray, List.getElem_cons_zero, List.getElem_cons_succ]
          rw [if_pos (by rfl)]
          have SZ_ : wd.heap.size ≤ W15.heap.size := R0.ch.size
          obtain ⟨a16, c16, W16, ap_, on_, gr_, nw_⟩ := app_one Tryd.underlying60 info35 rfl (by decide) O16 (cs := [.slice ll lm lk]) Kp15 rfl (by simp [Value.oneCell']) (by omega) (by unfold maxLen; omega) (Nat.le_trans hB R0.ch.size)
          have AP_ : Hid ((Builtin.append_ #[60, 60] 60 #[.slice la N lc, .slice (some ⟨p15, 0, none⟩) 1 1]).run Tryd.prog W15 = .ok (.slice a16 (N + 1) c16) W16) := ap_
          have O9 : W16.ownsRow B 34 2 (.slice a9 (N + 1) c9) (N + 1) (xb ++ [.int .i64 r, .int .i64 n]) := rown_bel O9 (fun q e => gr_.block q (O9.lt q e).2 (fun e2 => rown_ne O9 O16 (by decide) e (by rw [ownBlock_slice]; exact e2.symm)))
          have O22 : W16.ownsRow B 3 1 (.slice ca N cc) N xc := rown_bel O22 (fun q e => gr_.block q (O22.lt q e).2 (fun e2 => rown_ne O22 O16 (by decide) e (by rw [ownBlock_slice]; exact e2.symm)))
          have Kp8 := (gr_.block p8 (Array.getElem?_eq_some_iff.1 Kp8).1 (fun e => by have h1 := LT.lla p8 e.symm; omega)).trans Kp8
          have Kp15 := (gr_.block p15 (Array.getElem?_eq_some_iff.1 Kp15).1 (fun e => by have h1 := LT.lla p15 e.symm; omega)).trans Kp15
          have R0 := R0.grow gr_ (fun q e => ⟨LT.Sla q e, LT.lla q e, LT.gla q e, LT.bla q e⟩)
          have O16 := on_
          have N16 : ∀ q, blkOf a16 = some q → blkOf la = some q ∨ wd.heap.size ≤ q := fun q e => (nw_ q e).imp id (fun h => Nat.le_trans SZ_ h)
          refine wp_app (.tmp 44) (.tmp 46) (by rfl) (by rfl) (by rfl) (by rfl) AP_ ?_
          refine hK.out _ _ (.inr (R0.cg CG)) (fun hSb => ?_)
          clear hK K
          try simp only [List.getElem_toArray, List.getElem_cons_zero, List.getElem_cons_succ, Act.put, List.setIfInBounds_toArray, List.set_cons_zero, List.set_cons_succ]
          clear hS
          refine till_uno (i := 21) (by kernel_rfl) ?_
          · refine ⟨_, rfl, fun K hK => ?_⟩
            simp only [List.getElem_toArray, List.getElem_cons_zero, List.getElem_cons_succ]
            rw [if_pos (by rfl)]
            go_simp
            obtain ⟨p21, Hp21⟩ : ∃ p21, Hid (W16.heap.size = p21) := ⟨_, rfl⟩
            obtain ⟨W17, HW17⟩ : ∃ W17, Hid (W16.alloc (.cells #[.int .i64 0] 3) = W17) := ⟨_, rfl⟩
            have b_ : Below W16.heap.size W16 W17 := by rw [← HW17.out]; exact alloc1 _ _
            have Kp21 : W17.heap[p21]? = some (.cells #[.int .i64 0] 3 (0, 0)) := by rw [← HW17.out, ← Hp21.out]; exact heap_alloc_new _ _
            have Lp21 : wd.heap.size ≤ p21 := by rw [← Hp21.out]; exact R0.ch.size
            have O9 : W17.ownsRow B 34 2 (.slice a9 (N + 1) c9) (N + 1) (xb ++ [.int .i64 r, .int .i64 n]) := rown_bel O9 (fun q e => b_.block q (O9.lt q e).2)
            have O16 : W17.ownsRow B 35 1 (.slice a16 (N + 1) c16) (N + 1) (xl ++ [.slice ll lm lk]) := rown_bel O16 (fun q e => b_.block q (O16.lt q e).2)
            have O22 : W17.ownsRow B 3 1 (.slice ca N cc) N xc := rown_bel O22 (fun q e => b_.block q (O22.lt q e).2)
            have Kp8 := (b_.block p8 (Array.getElem?_eq_some_iff.1 Kp8).1).trans Kp8
            have Kp15 := (b_.block p15 (Array.getElem?_eq_some_iff.1 Kp15).1).trans Kp15
            have R0 := R0.bel b_
            rw [HW17.out, Hp21.out]
            refine hK.out _ _ (.inr (R0.cg CG)) (fun hS => ?_)
            clear hK K
            try simp only [List.getElem_toArray, List.getElem_cons_zero, List.getElem_cons_succ, Act.put, List.setIfInBounds_toArray, List.set_cons_zero, List.set_cons_succ]
            clear hSb
            refine till_uno (i := 22) (by kernel_rfl) ?_
            · refine ⟨_, rfl, fun K hK => ?_⟩
              simp only [List.getElem_toArray, List.getElem_cons_zero, List.getElem_cons_succ]
              rw [if_pos (by rfl)]
              have SZ_ : wd.heap.size ≤ W17.heap.size := R0.ch.size
              obtain ⟨a22, c22, W18, ap_, on_, gr_, nw_⟩ := app_one Tryd.underlying61 info3 rfl (by decide) O22 (cs := [.int .i64 0]) Kp21 rfl (by simp [Value.oneCell']) (by omega) (by unfold maxLen; omega) (Nat.le_trans hB R0.ch.size)
              have AP_ : Hid ((Builtin.append_ #[61, 61] 61 #[.slice ca N cc, .slice (some ⟨p21, 0, none⟩) 1 1]).run Tryd.prog W17 = .ok (.slice a22 (N + 1) c22) W18) := ap_
              have O9 : W18.ownsRow B 34 2 (.slice a9 (N + 1) c9) (N + 1) (xb ++ [.int .i64 r, .int .i64 n]) := rown_bel O9 (fun q e => gr_.block q (O9.lt q e).2 (fun e2 => rown_ne O9 O22 (by decide) e (by rw [ownBlock_slice]; exact e2.symm)))
              have O16 : W18.ownsRow B 35 1 (.slice a16 (N + 1) c16) (N + 1) (xl ++ [.slice ll lm lk]) := rown_bel O16 (fun q e => gr_.block q (O16.lt q e).2 (fun e2 => rown_ne O16 O22 (by decide) e (by rw [ownBlock_slice]; exact e2.symm)))
              have Kp8 := (gr_.block p8 (Array.getElem?_eq_some_iff.1 Kp8).1 (fun e => by have h1 := LT.lca p8 e.symm; omega)).trans Kp8
              have Kp15 := (gr_.block p15 (Array.getElem?_eq_some_iff.1 Kp15).1 (fun e => by have h1 := LT.lca p15 e.symm; omega)).trans Kp15
              have Kp21 := (gr_.block p21 (Array.getElem?_eq_some_iff.1 Kp21).1 (fun e => by have h1 := LT.lca p21 e.symm; omega)).trans Kp21
              have R0 := R0.grow gr_ (fun q e => ⟨LT.Sca q e, LT.lca q e, LT.gca q e, LT.bca q e⟩)
              have O22 := on_
              have N22 : ∀ q, blkOf a22 = some q → blkOf ca = some q ∨ wd.heap.size ≤ q := fun q e => (nw_ q e).imp id (fun h => Nat.le_trans SZ_ h)
              refine wp_app (.tmp 51) (.tmp 52) (by rfl) (by rfl) (by rfl) (by rfl) AP_ ?_
              refine hK.out _ _ (.inr (R0.cg CG)) (fun hSb => ?_)
              clear hK K
              try simp only [List.getElem_toArray, List.getElem_cons_zero, List.getElem_cons_succ, Act.put, List.setIfInBounds_toArray, List.set_cons_zero, List.set_cons_succ]
              clear hS
              obtain ⟨V1, V2, V3, HV1, HV2, HV3, c0_, f0_, c1_, f1_, c2_, f2_, FIN⟩ := R0.fin (ba' := a9) (bc' := c9) (la' := a16) (lc' := c16) (ca' := a22) (cc' := c22) CG O9 O16 O22 N9 N16 N22
              refine till_take (i := 23) (v := .pointer (some ⟨gg, 0, none⟩)) rfl (by kernel_rfl) (by kernel_rfl) (by kernel_rfl) (fun _ _ _ h => hQp _ _ _ _ _ h) (fun L w => tillP_set (by decide)) (Or.inl ⟨by rfl, fun w => by go_simp⟩) hSb (fun hS => ?_)
              simp only [List.getElem_toArray, List.getElem_cons_zero, List.getElem_cons_succ, Act.put, List.setIfInBounds_toArray, List.set_cons_zero, List.set_cons_succ]
              clear hSb
              refine till_take (i := 24) (v := .pointer (some ⟨gg, 0, none⟩)) rfl (by kernel_rfl) (by kernel_rfl) (by kernel_rfl) (fun _ _ _ h => hQp _ _ _ _ _ h) (fun L w => tillP_set (by decide)) (Or.inl ⟨by rfl, fun w => by go_simp⟩) hS (fun hSb => ?_)
              simp only [List.getElem_toArray, List.getElem_cons_zero, List.getElem_cons_succ, Act.put, List.setIfInBounds_toArray, List.set_cons_zero, List.set_cons_succ]
              clear hS
              refine till_one (i := 25) (by kernel_rfl) rfl (fun K hK => ?_)
              simp only [List.getElem_toArray, List.getElem_cons_zero, List.getElem_cons_succ]
              rw [if_pos (by rfl)]
              go_simp
              rw [HV1.out]
              refine hK.out _ _ (.inl (by rfl)) (fun hS => ?_)
              clear hK K
              try simp only [List.getElem_toArray, List.getElem_cons_zero, List.getElem_cons_succ, Act.put, List.setIfInBounds_toArray, List.set_cons_zero, List.set_cons_succ]
              clear hSb
              refine till_take (i := 26) (v := .pointer (some ⟨gg, 0, none⟩)) rfl (by kernel_rfl) (by kernel_rfl) (by kernel_rfl) (fun _ _ _ h => hQp _ _ _ _ _ h) (fun L w => tillP_set (by decide)) (Or.inl ⟨by rfl, fun w => by go_simp⟩) hS (fun hSb => ?_)
              simp only [List.getElem_toArray, List.getElem_cons_zero, List.getElem_cons_succ, Act.put, List.setIfInBounds_toArray, List.set_cons_zero, List.set_cons_succ]
              clear hS
              refine till_take (i := 27) (v := .pointer (some ⟨gg, 1, none⟩)) rfl (by kernel_rfl) (by kernel_rfl) (by kernel_rfl) (fun _ _ _ h => hQp _ _ _ _ _ h) (fun L w => tillP_set (by decide)) (Or.inl ⟨by rfl, fun w => by go_simp⟩) hSb (fun hS => ?_)
              simp only [List.getElem_toArray, List.getElem_cons_zero, List.getElem_cons_succ, Act.put, List.setIfInBounds_toArray, List.set_cons_zero, List.set_cons_succ]
              clear hSb
              refine till_one (i := 28) (by kernel_rfl) rfl (fun K hK => ?_)
              simp only [List.getElem_toArray, List.getElem_cons_zero, List.getElem_cons_succ]
              rw [if_pos (by rfl)]
              go_simp
              rw [HV2.out]
              refine hK.out _ _ (.inl (by rfl)) (fun hSb => ?_)
              clear hK K
              try simp only [List.getElem_toArray, List.getElem_cons_zero, List.getElem_cons_succ, Act.put, List.setIfInBounds_toArray, List.set_cons_zero, List.set_cons_succ]
              clear hS
              refine till_take (i := 29) (v := .pointer (some ⟨gg, 0, none⟩)) rfl (by kernel_rfl) (by kernel_rfl) (by kernel_rfl) (fun _ _ _ h => hQp _ _ _ _ _ h) (fun L w => tillP_set (by decide)) (Or.inl ⟨by rfl, fun w => by go_simp⟩) hSb (fun hS => ?_)
              simp only [List.getElem_toArray, List.getElem_cons_zero, List.getElem_cons_succ, Act.put, List.setIfInBounds_toArray, List.set_cons_zero, List.set_cons_succ]
              clear hSb
              refine till_take (i := 30) (v := .pointer (some ⟨gg, 2, none⟩)) rfl (by kernel_rfl) (by kernel_rfl) (by kernel_rfl) (fun _ _ _ h => hQp _ _ _ _ _ h) (fun L w => tillP_set (by decide)) (Or.inl ⟨by rfl, fun w => by go_simp⟩) hS (fun hSb => ?_)
              simp only [List.getElem_toArray, List.getElem_cons_zero, List.getElem_cons_succ, Act.put, List.setIfInBounds_toArray, List.set_cons_zero, List.set_cons_succ]
              clear hS
              refine till_one (i := 31) (by kernel_rfl) rfl (fun K hK => ?_)
              simp only [List.getElem_toArray, List.getElem_cons_zero, List.getElem_cons_succ]
              rw [if_pos (by rfl)]
              go_simp
              rw [HV3.out]
              refine hK.out _ _ (.inl (by rfl)) (fun hS => ?_)
              clear hK K
              try simp only [List.getElem_toArray, List.getElem_cons_zero, List.getElem_cons_succ, Act.put, List.setIfInBounds_toArray, List.set_cons_zero, List.set_cons_succ]
              clear hSb
              refine till_done (by kernel_rfl) ?_ _
              exact hQ V3 a9 c9 a16 c16 a22 c22 p8 p15 p21 FIN
        · refine ⟨_, rfl, fun K hK => ?_⟩
          simp only [List.getElem_toArray, List.getElem_cons_zero, List.getElem_cons_succ]
          rw [if_pos (by rfl)]
          go_simp
          obtain ⟨p21, Hp21⟩ : ∃ p21, Hid (W15.heap.size = p21) := ⟨_, rfl⟩
          obtain ⟨W19, HW19⟩ : ∃ W19, Hid (W15.alloc (.cells #[.int .i64 0] 3) = W19) := ⟨_, rfl⟩
          have b_ : Below W15.heap.size W15 W19 := by rw [← HW19.out]; exact alloc1 _ _
          have Kp21 : W19.heap[p21]? = some (.cells #[.int .i64 0] 3 (0, 0)) := by rw [← HW19.out, ← Hp21.out]; exact heap_alloc_new _ _
          have Lp21 : wd.heap.size ≤ p21 := by rw [← Hp21.out]; exact R0.ch.size
          have O9 : W19.ownsRow B 34 2 (.slice a9 (N + 1) c9) (N + 1) (xb ++ [.int .i64 r, .int .i64 n]) := rown_bel O9 (fun q e => b_.block q (O9.lt q e).2)
          have O16 : W19.ownsRow B 35 1 (.slice la N lc) N xl := rown_bel O16 (fun q e => b_.block q (O16.lt q e).2)
          have O22 : W19.ownsRow B 3 1 (.slice ca N cc) N xc := rown_bel O22 (fun q e => b_.block q (O22.lt q e).2)
          have Kp8 := (b_.block p8 (Array.getElem?_eq_some_iff.1 Kp8).1).trans Kp8
          have Kp15 := (b_.block p15 (Array.getElem?_eq_some_iff.1 Kp15).1).trans Kp15
          have R0 := R0.bel b_
          rw [HW19.out, Hp21.out]
          refine hK.out _ _ (.inr (R0.cg CG)) (fun hSb => ?_)
          clear hK K
          try simp only [List.getElem_toArray, List.getElem_cons_zero, List.getElem_cons_succ, Act.put, List.setIfInBounds_toArray, List.set_cons_zero, List.set_cons_succ]
          clear hS
          refine till_uno (i := 16) (by kernel_rfl) ?_
          · refine ⟨_, rfl, fun K hK => ?_⟩
            simp only [List.getElem_toArray, List.getElem_cons_zero, List.getElem_cons_succ]
            rw [if_pos (by rfl)]
            have SZ_ : wd.heap.size ≤ W19.heap.size := R0.ch.size
            obtain ⟨a16, c16, W20, ap_, on_, gr_, nw_⟩ := app_one Tryd.underlying60 info35 rfl (by decide) O16 (cs := [.slice ll lm lk]) Kp15 rfl (by simp [Value.oneCell']) (by omega) (by unfold maxLen; omega) (Nat.le_trans hB R0.ch.size)
            have AP_ : Hid ((Builtin.append_ #[60, 60] 60 #[.slice la N lc, .slice (some ⟨p15, 0, none⟩) 1 1]).run Tryd.prog W19 = .ok (.slice a16 (N + 1) c16) W20) := ap_
            have O9 : W20.ownsRow B 34 2 (.slice a9 (N + 1) c9) (N + 1) (xb ++ [.int .i64 r, .int .i64 n]) := rown_bel O9 (fun q e => gr_.block q (O9.lt q e).2 (fun e2 => rown_ne O9 O16 (by decide) e (by rw [ownBlock_slice]; exact e2.symm)))
            have O22 : W20.ownsRow B 3 1 (.slice ca N cc) N xc := rown_bel O22 (fun q e => gr_.block q (O22.lt q e).2 (fun e2 => rown_ne O22 O16 (by decide) e (by rw [ownBlock_slice]; exact e2.symm)))
            have Kp8 := (gr_.block p8 (Array.getElem?_eq_some_iff.1 Kp8).1 (fun e => by have h1 := LT.lla p8 e.symm; omega)).trans Kp8
            have Kp15 := (gr_.block p15 (Array.getElem?_eq_some_iff.1 Kp15).1 (fun e => by have h1 := LT.lla p15 e.symm; omega)).trans Kp15
            have Kp21 := (gr_.block p21 (Array.getElem?_eq_some_iff.1 Kp21).1 (fun e => by have h1 := LT.lla p21 e.symm; omega)).trans Kp21
            have R0 := R0.grow gr_ (fun q e => ⟨LT.Sla q e, LT.lla q e, LT.gla q e, LT.bla q e⟩)
            have O16 := on_
            have N16 : ∀ q, blkOf a16 = some q → blkOf la = some q ∨ wd.heap.size ≤ q := fun q e => (nw_ q e).imp id (fun h => Nat.le_trans SZ_ h)
            refine wp_app (.tmp 44) (.tmp 46) (by rfl) (by rfl) (by rfl) (by rfl) AP_ ?_
            refine hK.out _ _ (.inr (R0.cg CG)) (fun hS => ?_)
            clear hK K
            try simp only [List.getElem_toArray, List.getElem_cons_zero, List.getElem_cons_succ, Act.put, List.setIfInBounds_toArray, List.set_cons_zero, List.set_cons_succ]
            clear hSb
            refine till_uno (i := 22) (by kernel_rfl) ?_
            · refine ⟨_, rfl, fun K hK => ?_⟩
              simp only [List.getElem_toArray, List.getElem_cons_zero, List.getElem_cons_succ]
              rw [if_pos (by rfl)]
              have SZ_ : wd.heap.size ≤ W20.heap.size := R0.ch.size
              obtain ⟨a22, c22, W21, ap_, on_, gr_, nw_⟩ := app_one Tryd.underlying61 info3 rfl (by decide) O22 (cs := [.int .i64 0]) Kp21 rfl (by simp [Value.oneCell']) (by omega) (by unfold maxLen; omega) (Nat.le_trans hB R0.ch.size)
              have AP_ : Hid ((Builtin.append_ #[61, 61] 61 #[.slice ca N cc, .slice (some ⟨p21, 0, none⟩) 1 1]).run Tryd.prog W20 = .ok (.slice a22 (N + 1) c22) W21) := ap_
              have O9 : W21.ownsRow B 34 2 (.slice a9 (N + 1) c9) (N + 1) (xb ++ [.int .i64 r, .int .i64 n]) := rown_bel O9 (fun q e => gr_.block q (O9.lt q e).2 (fun e2 => rown_ne O9 O22 (by decide) e (by rw [ownBlock_slice]; exact e2.symm)))
              have O16 : W21.ownsRow B 35 1 (.slice a16 (N + 1) c16) (N + 1) (xl ++ [.slice ll lm lk]) := rown_bel O16 (fun q e => gr_.block q (O16.lt q e).2 (fun e2 => rown_ne O16 O22 (by decide) e (by rw [ownBlock_slice]; exact e2.symm)))
              have Kp8 := (gr_.block p8 (Array.getElem?_eq_some_iff.1 Kp8).1 (fun e => by have h1 := LT.lca p8 e.symm; omega)).trans Kp8
              have Kp15 := (gr_.block p15 (Array.getElem?_eq_some_iff.1 Kp15).1 (fun e => by have h1 := LT.lca p15 e.symm; omega)).trans Kp15
              have Kp21 := (gr_.block p21 (Array.getElem?_eq_some_iff.1 Kp21).1 (fun e => by have h1 := LT.lca p21 e.symm; omega)).trans Kp21
              have R0 := R0.grow gr_ (fun q e => ⟨LT.Sca q e, LT.lca q e, LT.gca q e, LT.bca q e⟩)
              have O22 := on_
              have N22 : ∀ q, blkOf a22 = some q → blkOf ca = some q ∨ wd.heap.size ≤ q := fun q e => (nw_ q e).imp id (fun h => Nat.le_trans SZ_ h)
              refine wp_app (.tmp 51) (.tmp 52) (by rfl) (by rfl) (by rfl) (by rfl) AP_ ?_
              refine hK.out _ _ (.inr (R0.cg CG)) (fun hSb => ?_)
              clear hK K
              try simp only [List.getElem_toArray, List.getElem_cons_zero, List.getElem_cons_succ, Act.put, List.setIfInBounds_toArray, List.set_cons_zero, List.set_cons_succ]
              clear hS
              obtain ⟨V1, V2, V3, HV1, HV2, HV3, c0_, f0_, c1_, f1_, c2_, f2_, FIN⟩ := R0.fin (ba' := a9) (bc' := c9) (la' := a16) (lc' := c16) (ca' := a22) (cc' := c22) CG O9 O16 O22 N9 N16 N22
              refine till_take (i := 23) (v := .pointer (some ⟨gg, 0, none⟩)) rfl (by kernel_rfl) (by kernel_rfl) (by kernel_rfl) (fun _ _ _ h => hQp _ _ _ _ _ h) (fun L w => tillP_set (by decide)) (Or.inl ⟨by rfl, fun w => by go_simp⟩) hSb (fun hS => ?_)
              simp only [List.getElem_toArray, List.getElem_cons_zero, List.getElem_cons_succ, Act.put, List.setIfInBounds_toArray, List.set_cons_zero, List.set_cons_succ]
              clear hSb
              refine till_take (i := 24) (v := .pointer (some ⟨gg, 0, none⟩)) rfl (by kernel_rfl) (by kernel_rfl) (by kernel_rfl) (fun _ _ _ h => hQp _ _ _ _ _ h) (fun L w => tillP_set (by decide)) (Or.inl ⟨by rfl, fun w => by go_simp⟩) hS (fun hSb => ?_)
              simp only [List.getElem_toArray, List.getElem_cons_zero, List.getElem_cons_succ, Act.put, List.setIfInBounds_toArray, List.set_cons_zero, List.set_cons_succ]
              clear hS
              refine till_one (i := 25) (by kernel_rfl) rfl (fun K hK => ?_)
              simp only [List.getElem_toArray, List.getElem_cons_zero, List.getElem_cons_succ]
              rw [if_pos (by rfl)]
              go_simp
              rw [HV1.out]
              refine hK.out _ _ (.inl (by rfl)) (fun hS => ?_)
              clear hK K
              try simp only [List.getElem_toArray, List.getElem_cons_zero, List.getElem_cons_succ, Act.put, List.setIfInBounds_toArray, List.set_cons_zero, List.set_cons_succ]
              clear hSb
              refine till_take (i := 26) (v := .pointer (some ⟨gg, 0, none⟩)) rfl (by kernel_rfl) (by kernel_rfl) (by kernel_rfl) (fun _ _ _ h => hQp _ _ _ _ _ h) (fun L w => tillP_set (by decide)) (Or.inl ⟨by rfl, fun w => by go_simp⟩) hS (fun hSb => ?_)
              simp only [List.getElem_toArray, List.getElem_cons_zero, List.getElem_cons_succ, Act.put, List.setIfInBounds_toArray, List.set_cons_zero, List.set_cons_succ]
              clear hS
              refine till_take (i := 27) (v := .pointer (some ⟨gg, 1, none⟩)) rfl (by kernel_rfl) (by kernel_rfl) (by kernel_rfl) (fun _ _ _ h => hQp _ _ _ _ _ h) (fun L w => tillP_set (by decide)) (Or.inl ⟨by rfl, fun w => by go_simp⟩) hSb (fun hS => ?_)
              simp only [List.getElem_toArray, List.getElem_cons_zero, List.getElem_cons_succ, Act.put, List.setIfInBounds_toArray, List.set_cons_zero, List.set_cons_succ]
              clear hSb
              refine till_one (i := 28) (by kernel_rfl) rfl (fun K hK => ?_)
              simp only [List.getElem_toArray, List.getElem_cons_zero, List.getElem_cons_succ]
              rw [if_pos (by rfl)]
              go_simp
              rw [HV2.out]
              refine hK.out _ _ (.inl (by rfl)) (fun hSb => ?_)
              clear hK K
              try simp only [List.getElem_toArray, List.getElem_cons_zero, List.getElem_cons_succ, Act.put, List.setIfInBounds_toArray, List.set_cons_zero, List.set_cons_succ]
              clear hS
              refine till_take (i := 29) (v := .pointer (some ⟨gg, 0, none⟩)) rfl (by kernel_rfl) (by kernel_rfl) (by kernel_rfl) (fun _ _ _ h => hQp _ _ _ _ _ h) (fun L w => tillP_set (by decide)) (Or.inl ⟨by rfl, fun w => by go_simp⟩) hSb (fun hS => ?_)
              simp only [List.getElem_toArray, List.getElem_cons_zero, List.getElem_cons_succ, Act.put, List.setIfInBounds_toArray, List.set_cons_zero, List.set_cons_succ]
              clear hSb
              refine till_take (i := 30) (v := .pointer (some ⟨gg, 2, none⟩)) rfl (by kernel_rfl) (by kernel_rfl) (by kernel_rfl) (fun _ _ _ h => hQp _ _ _ _ _ h) (fun L w => tillP_set (by decide)) (Or.inl ⟨by rfl, fun w => by go_simp⟩) hS (fun hSb => ?_)
              simp only [List.getElem_toArray, List.getElem_cons_zero, List.getElem_cons_succ, Act.put, List.setIfInBounds_toArray, List.set_cons_zero, List.set_cons_succ]
              clear hS
              refine till_one (i := 31) (by kernel_rfl) rfl (fun K hK => ?_)
              simp only [List.getElem_toArray, List.getElem_cons_zero, List.getElem_cons_succ]
              rw [if_pos (by rfl)]
              go_simp
              rw [HV3.out]
              refine hK.out _ _ (.inl (by rfl)) (fun hS => ?_)
              clear hK K
              try simp only [List.getElem_toArray, List.getElem_cons_zero, List.getElem_cons_succ, Act.put, List.setIfInBounds_toArray, List.set_cons_zero, List.set_cons_succ]
              clear hSb
              refine till_done (by kernel_rfl) ?_ _
              exact hQ V3 a9 c9 a16 c16 a22 c22 p8 p15 p21 FIN
      · refine ⟨_, rfl, fun K hK => ?_⟩
        simp only [List.getElem_toArray, List.getElem_cons_zero, List.getElem_cons_succ]
        rw [if_pos (by rfl)]
        go_simp
        obtain ⟨p21, Hp21⟩ : ∃ p21, Hid (W14.heap.size = p21) := ⟨_, rfl⟩
        obtain ⟨W22, HW22⟩ : ∃ W22, Hid (W14.alloc (.cells #[.int .i64 0] 3) = W22) := ⟨_, rfl⟩
        have b_ : Below W14.heap.size W14 W22 := by rw [← HW22.out]; exact alloc1 _ _
        have Kp21 : W22.heap[p21]? = some (.cells #[.int .i64 0] 3 (0, 0)) := by rw [← HW22.out, ← Hp21.out]; exact heap_alloc_new _ _
        have Lp21 : wd.heap.size ≤ p21 := by rw [← Hp21.out]; exact R0.ch.size
        have O9 : W22.ownsRow B 34 2 (.slice ba N bc) N xb := rown_bel O9 (fun q e => b_.block q (O9.lt q e).2)
        have O16 : W22.ownsRow B 35 1 (.slice la N lc) N xl := rown_bel O16 (fun q e => b_.block q (O16.lt q e).2)
        have O22 : W22.ownsRow B 3 1 (.slice ca N cc) N xc := rown_bel O22 (fun q e => b_.block q (O22.lt q e).2)
        have Kp8 := (b_.block p8 (Array.getElem?_eq_some_iff.1 Kp8).1).trans Kp8
        have Kp15 := (b_.block p15 (Array.getElem?_eq_some_iff.1 Kp15).1).trans Kp15
        have R0 := R0.bel b_
        rw [HW22.out, Hp21.out]
        refine hK.out _ _ (.inr (R0.cg CG)) (fun hS => ?_)
        clear hK K
        try simp only [List.getElem_toArray, List.getElem_cons_zero, List.getElem_cons_succ, Act.put, List.setIfInBounds_toArray, List.set_cons_zero, List.set_cons_succ]
        clear hSb
        refine till_uno (i := 9) (by kernel_rfl) ?_
        · refine ⟨_, rfl, fun K hK => ?_⟩
          simp only [List.getElem_toArray, List.getElem_cons_zero, List.getElem_cons_succ]
          rw [if_pos (by rfl)]
          have SZ_ : wd.heap.size ≤ W22.heap.size := R0.ch.size
          obtain ⟨a9, c9, W23, ap_, on_, gr_, nw_⟩ := app_one Tryd.underlying59 info34 rfl (by decide) O9 (cs := [.int .i64 r, .int .i64 n]) Kp8 rfl (by simp [Value.oneCell']) (by omega) (by unfold maxLen; omega) (Nat.le_trans hB R0.ch.size)
          have AP_ : Hid ((Builtin.append_ #[59, 59] 59 #[.slice ba N bc, .slice (some ⟨p8, 0, none⟩) 1 1]).run Tryd.prog W22 = .ok (.slice a9 (N + 1) c9) W23) := ap_
          have O16 : W23.ownsRow B 35 1 (.slice la N lc) N xl := rown_bel O16 (fun q e => gr_.block q (O16.lt q e).2 (fun e2 => rown_ne O16 O9 (by decide) e (by rw [ownBlock_slice]; exact e2.symm)))
          have O22 : W23.ownsRow B 3 1 (.slice ca N cc) N xc := rown_bel O22 (fun q e => gr_.block q (O22.lt q e).2 (fun e2 => rown_ne O22 O9 (by decide) e (by rw [ownBlock_slice]; exact e2.symm)))
          have Kp8 := (gr_.block p8 (Array.getElem?_eq_some_iff.1 Kp8).1 (fun e => by have h1 := LT.lba p8 e.symm; omega)).trans Kp8
          have Kp15 := (gr_.block p15 (Array.getElem?_eq_some_iff.1 Kp15).1 (fun e => by have h1 := LT.lba p15 e.symm; omega)).trans Kp15
          have Kp21 := (gr_.block p21 (Array.getElem?_eq_some_iff.1 Kp21).1 (fun e => by have h1 := LT.lba p21 e.symm; omega)).trans Kp21
          have R0 := R0.grow gr_ (fun q e => ⟨LT.Sba q e, LT.lba q e, LT.gba q e, LT.bba q e⟩)
          have O9 := on_
          have N9 : ∀ q, blkOf a9 = some q → blkOf ba = some q ∨ wd.heap.size ≤ q := fun q e => (nw_ q e).imp id (fun h => Nat.le_trans SZ_ h)
          refine wp_app (.tmp 37) (.tmp 39) (by rfl) (by rfl) (by rfl) (by rfl) AP_ ?_
          refine hK.out _ _ (.inr (R0.cg CG)) (fun hSb => ?_)
          clear hK K
          try simp only [List.getElem_toArray, List.getElem_cons_zero, List.getElem_cons_succ, Act.put, List.setIfInBounds_toArray, List.set_cons_zero, List.set_cons_succ]
          clear hS
          refine till_uno (i := 16) (by kernel_rfl) ?_
          · refine ⟨_, rfl, fun K hK => ?_⟩
            simp only [List.getElem_toArray, List.getElem_cons_zero, List.getElem_cons_succ]
            rw [if_pos (by rfl)]
            have SZ_ : wd.heap.size ≤ W23.heap.size := R0.ch.size
            obtain ⟨a16, c16, W24, ap_, on_, gr_, nw_⟩ := app_one Tryd.underlying60 info35 rfl (by decide) O16 (cs := [.slice ll lm lk]) Kp15 rfl (by simp [Value.oneCell']) (by omega) (by unfold maxLen; omega) (Nat.le_trans hB R0.ch.size)
            have AP_ : Hid ((Builtin.append_ #[60, 60] 60 #[.slice la N lc, .slice (some ⟨p15, 0, none⟩) 1 1]).run Tryd.prog W23 = .ok (.slice a16 (N + 1) c16) W24) := ap_
            have O9 : W24.ownsRow B 34 2 (.slice a9 (N + 1) c9) (N + 1) (xb ++ [.int .i64 r, .int .i64 n]) := rown_bel O9 (fun q e => gr_.block q (O9.lt q e).2 (fun e2 => rown_ne O9 O16 (by decide) e (by rw [ownBlock_slice]; exact e2.symm)))
            have O22 : W24.ownsRow B 3 1 (.slice ca N cc) N xc := rown_bel O22 (fun q e => gr_.block q (O22.lt q e).2 (fun e2 => rown_ne O22 O16 (by decide) e (by rw [ownBlock_slice]; exact e2.symm)))
            have Kp8 := (gr_.block p8 (Array.getElem?_eq_some_iff.1 Kp8).1 (fun e => by have h1 := LT.lla p8 e.symm; omega)).trans Kp8
            have Kp15 := (gr_.block p15 (Array.getElem?_eq_some_iff.1 Kp15).1 (fun e => by have h1 := LT.lla p15 e.symm; omega)).trans Kp15
            have Kp21 := (gr_.block p21 (Array.getElem?_eq_some_iff.1 Kp21).1 (fun e => by have h1 := LT.lla p21 e.symm; omega)).trans Kp21
            have R0 := R0.grow gr_ (fun q e => ⟨LT.Sla q e, LT.lla q e, LT.gla q e, LT.bla q e⟩)
            have O16 := on_
            have N16 : ∀ q, blkOf a16 = some q → blkOf la = some q ∨ wd.heap.size ≤ q := fun q e => (nw_ q e).imp id (fun h => Nat.le_trans SZ_ h)
            refine wp_app (.tmp 44) (.tmp 46) (by rfl) (by rfl) (by rfl) (by rfl) AP_ ?_
            refine hK.out _ _ (.inr (R0.cg CG)) (fun hS => ?_)
            clear hK K
            try simp only [List.getElem_toArray, List.getElem_cons_zero, List.getElem_cons_succ, Act.put, List.setIfInBounds_toArray, List.set_cons_zero, List.set_cons_succ]
            clear hSb
            refine till_uno (i := 22) (by kernel_rfl) ?_
            · refine ⟨_, rfl, fun K hK => ?_⟩
              simp only [List.getElem_toArray, List.getElem_cons_zero, List.getElem_cons_succ]
              rw [if_pos (by rfl)]
              have SZ_ : wd.heap.size ≤ W24.heap.size := R0.ch.size
              obtain ⟨a22, c22, W25, ap_, on_, gr_, nw_⟩ := app_one Tryd.underlying61 info3 rfl (by decide) O22 (cs := [.int .i64 0]) Kp21 rfl (by simp [Value.oneCell']) (by omega) (by unfold maxLen; omega) (Nat.le_trans hB R0.ch.size)
              have AP_ : Hid ((Builtin.append_ #[61, 61] 61 #[.slice ca N cc, .slice (some ⟨p21, 0, none⟩) 1 1]).run Tryd.prog W24 = .ok (.slice a22 (N + 1) c22) W25) := ap_
              have O9 : W25.ownsRow B 34 2 (.slice a9 (N + 1) c9) (N + 1) (xb ++ [.int .i64 r, .int .i64 n]) := rown_bel O9 (fun q e => gr_.block q (O9.lt q e).2 (fun e2 => rown_ne O9 O22 (by decide) e (by rw [ownBlock_slice]; exact e2.symm)))
              have O16 : W25.ownsRow B 35 1 (.slice a16 (N + 1) c16) (N + 1) (xl ++ [.slice ll lm lk]) := rown_bel O16 (fun q e => gr_.block q (O16.lt q e).2 (fun e2 => rown_ne O16 O22 (by decide) e (by rw [ownBlock_slice]; exact e2.symm)))
              have Kp8 := (gr_.block p8 (Array.getElem?_eq_some_iff.1 Kp8).1 (fun e => by have h1 := LT.lca p8 e.symm; omega)).trans Kp8
              have Kp15 := (gr_.block p15 (Array.getElem?_eq_some_iff.1 Kp15).1 (fun e => by have h1 := LT.lca p15 e.symm; omega)).trans Kp15
              have Kp21 := (gr_.block p21 (Array.getElem?_eq_some_iff.1 Kp21).1 (fun e => by have h1 := LT.lca p21 e.symm; omega)).trans Kp21
              have R0 := R0.grow gr_ (fun q e => ⟨LT.Sca q e, LT.lca q e, LT.gca q e, LT.bca q e⟩)
              have O22 := on_
              have N22 : ∀ q, blkOf a22 = some q → blkOf ca = some q ∨ wd.heap.size ≤ q := fun q e => (nw_ q e).imp id (fun h => Nat.le_trans SZ_ h)
              refine wp_app (.tmp 51) (.tmp 52) (by rfl) (by rfl) (by rfl) (by rfl) AP_ ?_
              refine hK.out _ _ (.inr (R0.cg CG)) (fun hSb => ?_)
              clear hK K
              try simp only [List.getElem_toArray, List.getElem_cons_zero, List.getElem_cons_succ, Act.put, List.setIfInBounds_toArray, List.set_cons_zero, List.set_cons_succ]
              clear hS
              obtain ⟨V1, V2, V3, HV1, HV2, HV3, c0_, f0_, c1_, f1_, c2_, f2_, FIN⟩ := R0.fin (ba' := a9) (bc' := c9) (la' := a16) (lc' := c16) (ca' := a22) (cc' := c22) CG O9 O16 O22 N9 N16 N22
              refine till_take (i := 23) (v := .pointer (some ⟨gg, 0, none⟩)) rfl (by kernel_rfl) (by kernel_rfl) (by kernel_rfl) (fun _ _ _ h => hQp _ _ _ _ _ h) (fun L w => tillP_set (by decide)) (Or.inl ⟨by rfl, fun w => by go_simp⟩) hSb (fun hS => ?_)
              simp only [List.getElem_toArray, List.getElem_cons_zero, List.getElem_cons_succ, Act.put, List.setIfInBounds_toArray, List.set_cons_zero, List.set_cons_succ]
              clear hSb
              refine till_take (i := 24) (v := .pointer (some ⟨gg, 0, none⟩)) rfl (by kernel_rfl) (by kernel_rfl) (by kernel_rfl) (fun _ _ _ h => hQp _ _ _ _ _ h) (fun L w => tillP_set (by decide)) (Or.inl ⟨by rfl, fun w => by go_simp⟩) hS (fun hSb => ?_)
              simp only [List.getElem_toArray, List.getElem_cons_zero, List.getElem_cons_succ, Act.put, List.setIfInBounds_toArray, List.set_cons_zero, List.set_cons_succ]
              clear hS
              refine till_one (i := 25) (by kernel_rfl) rfl (fun K hK => ?_)
              simp only [List.getElem_toArray, List.getElem_cons_zero, List.getElem_cons_succ]
              rw [if_pos (by rfl)]
              go_simp
              rw [HV1.out]
              refine hK.out _ _ (.inl (by rfl)) (fun hS => ?_)
              clear hK K
              try simp only [List.getElem_toArray, List.getElem_cons_zero, List.getElem_cons_succ, Act.put, List.setIfInBounds_toArray, List.set_cons_zero, List.set_cons_succ]
              clear hSb
              refine till_take (i := 26) (v := .pointer (some ⟨gg, 0, none⟩)) rfl (by kernel_rfl) (by kernel_rfl) (by kernel_rfl) (fun _ _ _ h => hQp _ _ _ _ _ h) (fun L w => tillP_set (by decide)) (Or.inl ⟨by rfl, fun w => by go_simp⟩) hS (fun hSb => ?_)
              simp only [List.getElem_toArray, List.getElem_cons_zero, List.getElem_cons_succ, Act.put, List.setIfInBounds_toArray, List.set_cons_zero, List.set_cons_succ]
              clear hS
              refine till_take (i := 27) (v := .pointer (some ⟨gg, 1, none⟩)) rfl (by kernel_rfl) (by kernel_rfl) (by kernel_rfl) (fun _ _ _ h => hQp _ _ _ _ _ h) (fun L w => tillP_set (by decide)) (Or.inl ⟨by rfl, fun w => by go_simp⟩) hSb (fun hS => ?_)
              simp only [List.getElem_toArray, List.getElem_cons_zero, List.getElem_cons_succ, Act.put, List.setIfInBounds_toArray, List.set_cons_zero, List.set_cons_succ]
              clear hSb
              refine till_one (i := 28) (by kernel_rfl) rfl (fun K hK => ?_)
              simp only [List.getElem_toArray, List.getElem_cons_zero, List.getElem_cons_succ]
              rw [if_pos (by rfl)]
              go_simp
              rw [HV2.out]
              refine hK.out _ _ (.inl (by rfl)) (fun hSb => ?_)
              clear hK K
              try simp only [List.getElem_toArray, List.getElem_cons_zero, List.getElem_cons_succ, Act.put, List.setIfInBounds_toArray, List.set_cons_zero, List.set_cons_succ]
              clear hS
              refine till_take (i := 29) (v := .pointer (some ⟨gg, 0, none⟩)) rfl (by kernel_rfl) (by kernel_rfl) (by kernel_rfl) (fun _ _ _ h => hQp _ _ _ _ _ h) (fun L w => tillP_set (by decide)) (Or.inl ⟨by rfl, fun w => by go_simp⟩) hSb (fun hS => ?_)
              simp only [List.getElem_toArray, List.getElem_cons_zero, List.getElem_cons_succ, Act.put, List.setIfInBounds_toArray, List.set_cons_zero, List.set_cons_succ]
              clear hSb
              refine till_take (i := 30) (v := .pointer (some ⟨gg, 2, none⟩)) rfl (by kernel_rfl) (by kernel_rfl) (by kernel_rfl) (fun _ _ _ h => hQp _ _ _ _ _ h) (fun L w => tillP_set (by decide)) (Or.inl ⟨by rfl, fun w => by go_simp⟩) hS (fun hSb => ?_)
              simp only [List.getElem_toArray, List.getElem_cons_zero, List.getElem_cons_succ, Act.put, List.setIfInBounds_toArray, List.set_cons_zero, List.set_cons_succ]
              clear hS
              refine till_one (i := 31) (by kernel_rfl) rfl (fun K hK => ?_)
              simp only [List.getElem_toArray, List.getElem_cons_zero, List.getElem_cons_succ]
              rw [if_pos (by rfl)]
              go_simp
              rw [HV3.out]
              refine hK.out _ _ (.inl (by rfl)) (fun hS => ?_)
              clear hK K
              try simp only [List.getElem_toArray, List.getElem_cons_zero, List.getElem_cons_succ, Act.put, List.setIfInBounds_toArray, List.set_cons_zero, List.set_cons_succ]
              clear hSb
              refine till_done (by kernel_rfl) ?_ _
              exact hQ V3 a9 c9 a16 c16 a22 c22 p8 p15 p21 FIN
    · refine ⟨_, rfl, fun K hK => ?_⟩
      simp only [List.getElem_toArray, List.getElem_cons_zero, List.getElem_cons_succ]
      rw [if_pos (by rfl)]
      go_simp
      obtain ⟨p21, Hp21⟩ : ∃ p21, Hid (W1.heap.size = p21) := ⟨_, rfl⟩
      obtain ⟨W26, HW26⟩ : ∃ W26, Hid (W1.alloc (.cells #[.int .i64 0] 3) = W26) := ⟨_, rfl⟩
      have b_ : Below W1.heap.size W1 W26 := by rw [← HW26.out]; exact alloc1 _ _
      have Kp21 : W26.heap[p21]? = some (.cells #[.int .i64 0] 3 (0, 0)) := by rw [← HW26.out, ← Hp21.out]; exact heap_alloc_new _ _
      have Lp21 : wd.heap.size ≤ p21 := by rw [← Hp21.out]; exact R0.ch.size
      have O9 : W26.ownsRow B 34 2 (.slice ba N bc) N xb := rown_bel O9 (fun q e => b_.block q (O9.lt q e).2)
      have O16 : W26.ownsRow B 35 1 (.slice la N lc) N xl := rown_bel O16 (fun q e => b_.block q (O16.lt q e).2)
      have O22 : W26.ownsRow B 3 1 (.slice ca N cc) N xc := rown_bel O22 (fun q e => b_.block q (O22.lt q e).2)
      have Kp8 := (b_.block p8 (Array.getElem?_eq_some_iff.1 Kp8).1).trans Kp8
      have R0 := R0.bel b_
      rw [HW26.out, Hp21.out]
      refine hK.out _ _ (.inr (R0.cg CG)) (fun hSb => ?_)
      clear hK K
      try simp only [List.getElem_toArray, List.getElem_cons_zero, List.getElem_cons_succ, Act.put, List.setIfInBounds_toArray, List.set_cons_zero, List.set_cons_succ]
      clear hS
      refine till_two (i := 9) (j := 15) (by kernel_rfl) ?_ ?_
      · refine ⟨_, rfl, fun K hK => ?_⟩
        simp only [List.getElem_toArray, List.getElem_cons_zero, List.getElem_cons_succ]
        rw [if_pos (by rfl)]
        have SZ_ : wd.heap.size ≤ W26.heap.size := R0.ch.size
        obtain ⟨a9, c9, W27, ap_, on_, gr_, nw_⟩ := app_one Tryd.underlying59 info34 rfl (by decide) O9 (cs := [.int .i64 r, .int .i64 n]) Kp8 rfl (by simp [Value.oneCell']) (by omega) (by unfold maxLen; omega) (Nat.le_trans hB R0.ch.size)
        have AP_ : Hid ((Builtin.append_ #[59, 59] 59 #[.slice ba N bc, .slice (some ⟨p8, 0, none⟩) 1 1]).run Tryd.prog W26 = .ok (.slice a9 (N + 1) c9) W27) := ap_
        have O16 : W27.ownsRow B 35 1 (.slice la N lc) N xl := rown_bel O16 (fun q e => gr_.block q (O16.lt q e).2 (fun e2 => rown_ne O16 O9 (by decide) e (by rw [ownBlock_slice]; exact e2.symm)))
        have O22 : W27.ownsRow B 3 1 (.slice ca N cc) N xc := rown_bel O22 (fun q e => gr_.block q (O22.lt q e).2 (fun e2 => rown_ne O22 O9 (by decide) e (by rw [ownBlock_slice]; exact e2.symm)))
        have Kp8 := (gr_.block p8 (Array.getElem?_eq_some_iff.1 Kp8).1 (fun e => by have h1 := LT.lba p8 e.symm; omega)).trans Kp8
        have Kp21 := (gr_.block p21 (Array.getElem?_eq_some_iff.1 Kp21).1 (fun e => by have h1 := LT.lba p21 e.symm; omega)).trans Kp21
        have R0 := R0.grow gr_ (fun q e => ⟨LT.Sba q e, LT.lba q e, LT.gba q e, LT.bba q e⟩)
        have O9 := on_
        have N9 : ∀ q, blkOf a9 = some q → blkOf ba = some q ∨ wd.heap.size ≤ q := fun q e => (nw_ q e).imp id (fun h => Nat.le_trans SZ_ h)
        refine wp_app (.tmp 37) (.tmp 39) (by rfl) (by rfl) (by rfl) (by rfl) AP_ ?_
        refine hK.out _ _ (.inr (R0.cg CG)) (fun hS => ?_)
        clear hK K
        try simp only [List.getElem_toArray, List.getElem_cons_zero, List.getElem_cons_succ, Act.put, List.setIfInBounds_toArray, List.set_cons_zero, List.set_cons_succ]
        clear hSb
        refine till_uno (i := 15) (by kernel_rfl) ?_
        · refine ⟨_, rfl, fun K hK => ?_⟩
          simp only [List.getElem_toArray, List.getElem_cons_zero, List.getElem_cons_succ]
          rw [if_pos (by rfl)]
          go_simp
          obtain ⟨p15, Hp15⟩ : ∃ p15, Hid (W27.heap.size = p15) := ⟨_, rfl⟩
          obtain ⟨W28, HW28⟩ : ∃ W28, Hid (W27.alloc (.cells #[.slice ll lm lk] 35) = W28) := ⟨_, rfl⟩
          have b_ : Below W27.heap.size W27 W28 := by rw [← HW28.out]; exact alloc1 _ _
          have Kp15 : W28.heap[p15]? = some (.cells #[.slice ll lm lk] 35 (0, 0)) := by rw [← HW28.out, ← Hp15.out]; exact heap_alloc_new _ _
          have Lp15 : wd.heap.size ≤ p15 := by rw [← Hp15.out]; exact R0.ch.size
          have O9 : W28.ownsRow B 34 2 (.slice a9 (N + 1) c9) (N + 1) (xb ++ [.int .i64 r, .int .i64 n]) := rown_bel O9 (fun q e => b_.block q (O9.lt q e).2)
          have O16 : W28.ownsRow B 35 1 (.slice la N lc) N xl := rown_bel O16 (fun q e => b_.block q (O16.lt q e).2)
          have O22 : W28.ownsRow B 3 1 (.slice ca N cc) N xc := rown_bel O22 (fun q e => b_.block q (O22.lt q e).2)
          have Kp8 := (b_.block p8 (Array.getElem?_eq_some_iff.1 Kp8).1).trans Kp8
          have Kp21 := (b_.block p21 (Array.getElem?_eq_some_iff.1 Kp21).1).trans Kp21
          have R0 := R0.bel b_
          rw [HW28.out, Hp15.out]
          refine hK.out _ _ (.inr (R0.cg CG)) (fun hSb => ?_)
          clear hK K
          try simp only [List.getElem_toArray, List.getElem_cons_zero, List.getElem_cons_succ, Act.put, List.setIfInBounds_toArray, List.set_cons_zero, List.set_cons_succ]
          clear hS
          refine till_uno (i := 16) (by kernel_rfl) ?_
          · refine ⟨_, rfl, fun K hK => ?_⟩
            simp only [List.getElem_toArray, List.getElem_cons_zero, List.getElem_cons_succ]
            rw [if_pos (by rfl)]
            have SZ_ : wd.heap.size ≤ W28.heap.size := R0.ch.size
            obtain ⟨a16, c16, W29, ap_, on_, gr_, nw_⟩ := app_one Tryd.underlying60 info35 rfl (by decide) O16 (cs := [.slice ll lm lk]) Kp15 rfl (by simp [Value.oneCell']) (by omega) (by unfold maxLen; omega) (Nat.le_trans hB R0.ch.size)
            have AP_ : Hid ((Builtin.append_ #[60, 60] 60 #[.slice la N lc, .slice (some ⟨p15, 0, none⟩) 1 1]).run Tryd.prog W28 = .ok (.slice a16 (N + 1) c16) W29) := ap_
            have O9 : W29.ownsRow B 34 2 (.slice a9 (N + 1) c9) (N + 1) (xb ++ [.int .i64 r, .int .i64 n]) := rown_bel O9 (fun q e => gr_.block q (O9.lt q e).2 (fun e2 => rown_ne O9 O16 (by decide) e (by rw [ownBlock_slice]; exact e2.symm)))
            have O22 : W29.ownsRow B 3 1 (.slice ca N cc) N xc := rown_bel O22 (fun q e => gr_.block q (O22.lt q e).2 (fun e2 => rown_ne O22 O16 (by decide) e (by rw [ownBlock_slice]; exact e2.symm)))
            have Kp8 := (gr_.block p8 (Array.getElem?_eq_some_iff.1 Kp8).1 (fun e => by have h1 := LT.lla p8 e.symm; omega)).trans Kp8
            have Kp15 := (gr_.block p15 (Array.getElem?_eq_some_iff.1 Kp15).1 (fun e => by have h1 := LT.lla p15 e.symm; omega)).trans Kp15
            have Kp21 := (gr_.block p21 (Array.getElem?_eq_some_iff.1 Kp21).1 (fun e => by have h1 := LT.lla p21 e.symm; omega)).trans Kp21
            have R0 := R0.grow gr_ (fun q e => ⟨LT.Sla q e, LT.lla q e, LT.gla q e, LT.bla q e⟩)
            have O16 := on_
            have N16 : ∀ q, blkOf a16 = some q → blkOf la = some q ∨ wd.heap.size ≤ q := fun q e => (nw_ q e).imp id (fun h => Nat.le_trans SZ_ h)
            refine wp_app (.tmp 44) (.tmp 46) (by rfl) (by rfl) (by rfl) (by rfl) AP_ ?_
            refine hK.out _ _ (.inr (R0.cg CG)) (fun hS => ?_)
            clear hK K
            try simp only [List.getElem_toArray, List.getElem_cons_zero, List.getElem_cons_succ, Act.put, List.setIfInBounds_toArray, List.set_cons_zero, List.set_cons_succ]
            clear hSb
            refine till_uno (i := 22) (by kernel_rfl) ?_
            · refine ⟨_, rfl, fun K hK => ?_⟩
              simp only [List.getElem_toArray, List.getElem_cons_zero, List.getElem_cons_succ]
              rw [if_pos (by rfl)]
              have SZ_ : wd.heap.size ≤ W29.heap.size := R0.ch.size
              obtain ⟨a22, c22, W30, ap_, on_, gr_, nw_⟩ := app_one Tryd.underlying61 info3 rfl (by decide) O22 (cs := [.int .i64 0]) Kp21 rfl (by simp [Value.oneCell']) (by omega) (by unfold maxLen; omega) (Nat.le_trans hB R0.ch.size)
              have AP_ : Hid ((Builtin.append_ #[61, 61] 61 #[.slice ca N cc, .slice (some ⟨p21, 0, none⟩) 1 1]).run Tryd.prog W29 = .ok (.slice a22 (N + 1) c22) W30) := ap_
              have O9 : W30.ownsRow B 34 2 (.slice a9 (N + 1) c9) (N + 1) (xb ++ [.int .i64 r, .int .i64 n]) := rown_bel O9 (fun q e => gr_.block q (O9.lt q e).2 (fun e2 => rown_ne O9 O22 (by decide) e (by rw [ownBlock_slice]; exact e2.symm)))
              have O16 : W30.ownsRow B 35 1 (.slice a16 (N + 1) c16) (N + 1) (xl ++ [.slice ll lm lk]) := rown_bel O16 (fun q e => gr_.block q (O16.lt q e).2 (fun e2 => rown_ne O16 O22 (by decide) e (by rw [ownBlock_slice]; exact e2.symm)))
              have Kp8 := (gr_.block p8 (Array.getElem?_eq_some_iff.1 Kp8).1 (fun e => by have h1 := LT.lca p8 e.symm; omega)).trans Kp8
              have Kp15 := (gr_.block p15 (Array.getElem?_eq_some_iff.1 Kp15).1 (fun e => by have h1 := LT.lca p15 e.symm; omega)).trans Kp15
              have Kp21 := (gr_.block p21 (Array.getElem?_eq_some_iff.1 Kp21).1 (fun e => by have h1 := LT.lca p21 e.symm; omega)).trans Kp21
              have R0 := R0.grow gr_ (fun q e => ⟨LT.Sca q e, LT.lca q e, LT.gca q e, LT.bca q e⟩)
              have O22 := on_
              have N22 : ∀ q, blkOf a22 = some q → blkOf ca = some q ∨ wd.heap.size ≤ q := fun q e => (nw_ q e).imp id (fun h => Nat.le_trans SZ_ h)
              refine wp_app (.tmp 51) (.tmp 52) (by rfl) (by rfl) (by rfl) (by rfl) AP_ ?_
              refine hK.out _ _ (.inr (R0.cg CG)) (fun hSb => ?_)
              clear hK K
              try simp only [List.getElem_toArray, List.getElem_cons_zero, List.getElem_cons_succ, Act.put, List.setIfInBounds_toArray, List.set_cons_zero, List.set_cons_succ]
              clear hS
              obtain ⟨V1, V2, V3, HV1, HV2, HV3, c0_, f0_, c1_, f1_, c2_, f2_, FIN⟩ := R0.fin (ba' := a9) (bc' := c9) (la' := a16) (lc' := c16) (ca' := a22) (cc' := c22) CG O9 O16 O22 N9 N16 N22
              refine till_take (i := 23) (v := .pointer (some ⟨gg, 0, none⟩)) rfl (by kernel_rfl) (by kernel_rfl) (by kernel_rfl) (fun _ _ _ h => hQp _ _ _ _ _ h) (fun L w => tillP_set (by decide)) (Or.inl ⟨by rfl, fun w => by go_simp⟩) hSb (fun hS => ?_)
              simp only [List.getElem_toArray, List.getElem_cons_zero, List.getElem_cons_succ, Act.put, List.setIfInBounds_toArray, List.set_cons_zero, List.set_cons_succ]
              clear hSb
              refine till_take (i := 24) (v := .pointer (some ⟨gg, 0, none⟩)) rfl (by kernel_rfl) (by kernel_rfl) (by kernel_rfl) (fun _ _ _ h => hQp _ _ _ _ _ h) (fun L w => tillP_set (by decide)) (Or.inl ⟨by rfl, fun w => by go_simp⟩) hS (fun hSb => ?_)
              simp only [List.getElem_toArray, List.getElem_cons_zero, List.getElem_cons_succ, Act.put, List.setIfInBounds_toArray, List.set_cons_zero, List.set_cons_succ]
              clear hS
              refine till_one (i := 25) (by kernel_rfl) rfl (fun K hK => ?_)
              simp only [List.getElem_toArray, List.getElem_cons_zero, List.getElem_cons_succ]
              rw [if_pos (by rfl)]
              go_simp
              rw [HV1.out]
              refine hK.out _ _ (.inl (by rfl)) (fun hS => ?_)
              clear hK K
              try simp only [List.getElem_toArray, List.getElem_cons_zero, List.getElem_cons_succ, Act.put, List.setIfInBounds_toArray, List.set_cons_zero, List.set_cons_succ]
              clear hSb
              refine till_take (i := 26) (v := .pointer (some ⟨gg, 0, none⟩)) rfl (by kernel_rfl) (by kernel_rfl) (by kernel_rfl) (fun _ _ _ h => hQp _ _ _ _ _ h) (fun L w => tillP_set (by decide)) (Or.inl ⟨by rfl, fun w => by go_simp⟩) hS (fun hSb => ?_)
              simp only [List.getElem_toArray, List.getElem_cons_zero, List.getElem_cons_succ, Act.put, List.setIfInBounds_toArray, List.set_cons_zero, List.set_cons_succ]
              clear hS
              refine till_take (i := 27) (v := .pointer (some ⟨gg, 1, none⟩)) rfl (by kernel_rfl) (by kernel_rfl) (by kernel_rfl) (fun _ _ _ h => hQp _ _ _ _ _ h) (fun L w => tillP_set (by decide)) (Or.inl ⟨by rfl, fun w => by go_simp⟩) hSb (fun hS => ?_)
              simp only [List.getElem_toArray, List.getElem_cons_zero, List.getElem_cons_succ, Act.put, List.setIfInBounds_toArray, List.set_cons_zero, List.set_cons_succ]
              clear hSb
              refine till_one (i := 28) (by kernel_rfl) rfl (fun K hK => ?_)
              simp only [List.getElem_toArray, List.getElem_cons_zero, List.getElem_cons_succ]
              rw [if_pos (by rfl)]
              go_simp
              rw [HV2.out]
              refine hK.out _ _ (.inl (by rfl)) (fun hSb => ?_)
              clear hK K
              try simp only [List.getElem_toArray, List.getElem_cons_zero, List.getElem_cons_succ, Act.put, List.setIfInBounds_toArray, List.set_cons_zero, List.set_cons_succ]
              clear hS
              refine till_take (i := 29) (v := .pointer (some ⟨gg, 0, none⟩)) rfl (by kernel_rfl) (by kernel_rfl) (by kernel_rfl) (fun _ _ _ h => hQp _ _ _ _ _ h) (fun L w => tillP_set (by decide)) (Or.inl ⟨by rfl, fun w => by go_simp⟩) hSb (fun hS => ?_)
              simp only [List.getElem_toArray, List.getElem_cons_zero, List.getElem_cons_succ, Act.put, List.setIfInBounds_toArray, List.set_cons_zero, List.set_cons_succ]
              clear hSb
              refine till_take (i := 30) (v := .pointer (some ⟨gg, 2, none⟩)) rfl (by kernel_rfl) (by kernel_rfl) (by kernel_rfl) (fun _ _ _ h => hQp _ _ _ _ _ h) (fun L w => tillP_set (by decide)) (Or.inl ⟨by rfl, fun w => by go_simp⟩) hS (fun hSb => ?_)
              simp only [List.getElem_toArray, List.getElem_cons_zero, List.getElem_cons_succ, Act.put, List.setIfInBounds_toArray, List.set_cons_zero, List.set_cons_succ]
              clear hS
              refine till_one (i := 31) (by kernel_rfl) rfl (fun K hK => ?_)
              simp only [List.getElem_toArray, List.getElem_cons_zero, List.getElem_cons_succ]
              rw [if_pos (by rfl)]
              go_simp
              rw [HV3.out]
              refine hK.out _ _ (.inl (by rfl)) (fun hS => ?_)
              clear hK K
              try simp only [List.getElem_toArray, List.getElem_cons_zero, List.getElem_cons_succ, Act.put, List.setIfInBounds_toArray, List.set_cons_zero, List.set_cons_succ]
              clear hSb
              refine till_done (by kernel_rfl) ?_ _
              exact hQ V3 a9 c9 a16 c16 a22 c22 p8 p15 p21 FIN
      · refine ⟨_, rfl, fun K hK => ?_⟩
        simp only [List.getElem_toArray, List.getElem_cons_zero, List.getElem_cons_succ]
        rw [if_pos (by rfl)]
        go_simp
        obtain ⟨p15, Hp15⟩ : ∃ p15, Hid (W26.heap.size = p15) := ⟨_, rfl⟩
        obtain ⟨W31, HW31⟩ : ∃ W31, Hid (W26.alloc (.cells #[.slice ll lm lk] 35) = W31) := ⟨_, rfl⟩
        have b_ : Below W26.heap.size W26 W31 := by rw [← HW31.out]; exact alloc1 _ _
        have Kp15 : W31.heap[p15]? = some (.cells #[.slice ll lm lk] 35 (0, 0)) := by rw [← HW31.out, ← Hp15.out]; exact heap_alloc_new _ _
        have Lp15 : wd.heap.size ≤ p15 := by rw [← Hp15.out]; exact R0.ch.size
        have O9 : W31.ownsRow B 34 2 (.slice ba N bc) N xb := rown_bel O9 (fun q e => b_.block q (O9.lt q e).2)
        have O16 : W31.ownsRow B 35 1 (.slice la N lc) N xl := rown_bel O16 (fun q e => b_.block q (O16.lt q e).2)
        have O22 : W31.ownsRow B 3 1 (.slice ca N cc) N xc := rown_bel O22 (fun q e => b_.block q (O22.lt q e).2)
        have Kp8 := (b_.block p8 (Array.getElem?_eq_some_iff.1 Kp8).1).trans Kp8
        have Kp21 := (b_.block p21 (Array.getElem?_eq_some_iff.1 Kp21).1).trans Kp21
        have R0 := R0.bel b_
        rw [HW31.out, Hp15.out]
        refine hK.out _ _ (.inr (R0.cg CG)) (fun hS => ?_)
        clear hK K
        try simp only [List.getElem_toArray, List.getElem_cons_zero, List.getElem_cons_succ, Act.put, List.setIfInBounds_toArray, List.set_cons_zero, List.set_cons_succ]
        clear hSb
        refine till_uno (i := 9) (by kernel_rfl) ?_
        · refine ⟨_, rfl, fun K hK => ?_⟩
          simp only [List.getElem_toArray, List.getElem_cons_zero, List.getElem_cons_succ]
          rw [if_pos (by rfl)]
          have SZ_ : wd.heap.size ≤ W31.heap.size := R0.ch.size
          obtain ⟨a9, c9, W32, ap_, on_, gr_, nw_⟩ := app_one Tryd.underlying59 info34 rfl (by decide) O9 (cs := [.int .i64 r, .int .i64 n]) Kp8 rfl (by simp [Value.oneCell']) (by omega) (by unfold maxLen; omega) (Nat.le_trans hB R0.ch.size)
          have AP_ : Hid ((Builtin.append_ #[59, 59] 59 #[.slice ba N bc, .slice (some ⟨p8, 0, none⟩) 1 1]).run Tryd.prog W31 = .ok (.slice a9 (N + 1) c9) W32) := ap_
          have O16 : W32.ownsRow B 35 1 (.slice la N lc) N xl := rown_bel O16 (fun q e => gr_.block q (O16.lt q e).2 (fun e2 => rown_ne O16 O9 (by decide) e (by rw [ownBlock_slice]; exact e2.symm)))
          have O22 : W32.ownsRow B 3 1 (.slice ca N cc) N xc := rown_bel O22 (fun q e => gr_.block q (O22.lt q e).2 (fun e2 => rown_ne O22 O9 (by decide) e (by rw [ownBlock_slice]; exact e2.symm)))
          have Kp8 := (gr_.block p8 (Array.getElem?_eq_some_iff.1 Kp8).1 (fun e => by have h1 := LT.lba p8 e.symm; omega)).trans Kp8
          have Kp15 := (gr_.block p15 (Array.getElem?_eq_some_iff.1 Kp15).1 (fun e => by have h1 := LT.lba p15 e.symm; omega)).trans Kp15
          have Kp21 := (gr_.block p21 (Array.getElem?_eq_some_iff.1 Kp21).1 (fun e => by have h1 := LT.lba p21 e.symm; omega)).trans Kp21
          have R0 := R0.grow gr_ (fun q e => ⟨LT.Sba q e, LT.lba q e, LT.gba q e, LT.bba q e⟩)
          have O9 := on_
          have N9 : ∀ q, blkOf a9 = some q → blkOf ba = some q ∨ wd.heap.size ≤ q := fun q e => (nw_ q e).imp id (fun h => Nat.le_trans SZ_ h)
          refine wp_app (.tmp 37) (.tmp 39) (by rfl) (by rfl) (by rfl) (by rfl) AP_ ?_
          refine hK.out _ _ (.inr (R0.cg CG)) (fun hSb => ?_)
          clear hK K
          try simp only [List.getElem_toArray, List.getElem_cons_zero, List.getElem_cons_succ, Act.put, List.setIfInBounds_toArray, List.set_cons_zero, List.set_cons_succ]
          clear hS
          refine till_uno (i := 16) (by kernel_rfl) ?_
          · refine ⟨_, rfl, fun K hK => ?_⟩
            simp only [List.getElem_toArray, List.getElem_cons_zero, List.getElem_cons_succ]
            rw [if_pos (by rfl)]
            have SZ_ : wd.heap.size ≤ W32.heap.size := R0.ch.size
            obtain ⟨a16, c16, W33, ap_, on_, gr_, nw_⟩ := app_one Tryd.underlying60 info35 rfl (by decide) O16 (cs := [.slice ll lm lk]) Kp15 rfl (by simp [Value.oneCell']) (by omega) (by unfold maxLen; omega) (Nat.le_trans hB R0.ch.size)
            have AP_ : Hid ((Builtin.append_ #[60, 60] 60 #[.slice la N lc, .slice (some ⟨p15, 0, none⟩) 1 1]).run Tryd.prog W32 = .ok (.slice a16 (N + 1) c16) W33) := ap_
            have O9 : W33.ownsRow B 34 2 (.slice a9 (N + 1) c9) (N + 1) (xb ++ [.int .i64 r, .int .i64 n]) := rown_bel O9 (fun q e => gr_.block q (O9.lt q e).2 (fun e2 => rown_ne O9 O16 (by decide) e (by rw [ownBlock_slice]; exact e2.symm)))
            have O22 : W33.ownsRow B 3 1 (.slice ca N cc) N xc := rown_bel O22 (fun q e => gr_.block q (O22.lt q e).2 (fun e2 => rown_ne O22 O16 (by decide) e (by rw [ownBlock_slice]; exact e2.symm)))
            have Kp8 := (gr_.block p8 (Array.getElem?_eq_some_iff.1 Kp8).1 (fun e => by have h1 := LT.lla p8 e.symm; omega)).trans Kp8
            have Kp15 := (gr_.block p15 (Array.getElem?_eq_some_iff.1 Kp15).1 (fun e => by have h1 := LT.lla p15 e.symm; omega)).trans Kp15
            have Kp21 := (gr_.block p21 (Array.getElem?_eq_some_iff.1 Kp21).1 (fun e => by have h1 := LT.lla p21 e.symm; omega)).trans Kp21
            have R0 := R0.grow gr_ (fun q e => ⟨LT.Sla q e, LT.lla q e, LT.gla q e, LT.bla q e⟩)
            have O16 := on_
            have N16 : ∀ q, blkOf a16 = some q → blkOf la = some q ∨ wd.heap.size ≤ q := fun q e => (nw_ q e).imp id (fun h => Nat.le_trans SZ_ h)
            refine wp_app (.tmp 44) (.tmp 46) (by rfl) (by rfl) (by rfl) (by rfl) AP_ ?_
            refine hK.out _ _ (.inr (R0.cg CG)) (fun hS => ?_)
            clear hK K
            try simp only [List.getElem_toArray, List.getElem_cons_zero, List.getElem_cons_succ, Act.put, List.setIfInBounds_toArray, List.set_cons_zero, List.set_cons_succ]
            clear hSb
            refine till_uno (i := 22) (by kernel_rfl) ?_
            · refine ⟨_, rfl, fun K hK => ?_⟩
              simp only [List.getElem_toArray, List.getElem_cons_zero, List.getElem_cons_succ]
              rw [if_pos (by rfl)]
              have SZ_ : wd.heap.size ≤ W33.heap.size := R0.ch.size
              obtain ⟨a22, c22, W34, ap_, on_, gr_, nw_⟩ := app_one Tryd.underlying61 info3 rfl (by decide) O22 (cs := [.int .i64 0]) Kp21 rfl (by simp [Value.oneCell']) (by omega) (by unfold maxLen; omega) (Nat.le_trans hB R0.ch.size)
              have AP_ : Hid ((Builtin.append_ #[61, 61] 61 #[.slice ca N cc, .slice (some ⟨p21, 0, none⟩) 1 1]).run Tryd.prog W33 = .ok (.slice a22 (N + 1) c22) W34) := ap_
              have O9 : W34.ownsRow B 34 2 (.slice a9 (N + 1) c9) (N + 1) (xb ++ [.int .i64 r, .int .i64 n]) := rown_bel O9 (fun q e => gr_.block q (O9.lt q e).2 (fun e2 => rown_ne O9 O22 (by decide) e (by rw [ownBlock_slice]; exact e2.symm)))
              have O16 : W34.ownsRow B 35 1 (.slice a16 (N + 1) c16) (N + 1) (xl ++ [.slice ll lm lk]) := rown_bel O16 (fun q e => gr_.block q (O16.lt q e).2 (fun e2 => rown_ne O16 O22 (by decide) e (by rw [ownBlock_slice]; exact e2.symm)))
              have Kp8 := (gr_.block p8 (Array.getElem?_eq_some_iff.1 Kp8).1 (fun e => by have h1 := LT.lca p8 e.symm; omega)).trans Kp8
              have Kp15 := (gr_.block p15 (Array.getElem?_eq_some_iff.1 Kp15).1 (fun e => by have h1 := LT.lca p15 e.symm; omega)).trans Kp15
              have Kp21 := (gr_.block p21 (Array.getElem?_eq_some_iff.1 Kp21).1 (fun e => by have h1 := LT.lca p21 e.symm; omega)).trans Kp21
              have R0 := R0.grow gr_ (fun q e => ⟨LT.Sca q e, LT.lca q e, LT.gca q e, LT.bca q e⟩)
              have O22 := on_
              have N22 : ∀ q, blkOf a22 = some q → blkOf ca = some q ∨ wd.heap.size ≤ q := fun q e => (nw_ q e).imp id (fun h => Nat.le_trans SZ_ h)
              refine wp_app (.tmp 51) (.tmp 52) (by rfl) (by rfl) (by rfl) (by rfl) AP_ ?_
              refine hK.out _ _ (.inr (R0.cg CG)) (fun hSb => ?_)
              clear hK K
              try simp only [List.getElem_toArray, List.getElem_cons_zero, List.getElem_cons_succ, Act.put, List.setIfInBounds_toArray, List.set_cons_zero, List.set_cons_succ]
              clear hS
              obtain ⟨V1, V2, V3, HV1, HV2, HV3, c0_, f0_, c1_, f1_, c2_, f2_, FIN⟩ := R0.fin (ba' := a9) (bc' := c9) (la' := a16) (lc' := c16) (ca' := a22) (cc' := c22) CG O9 O16 O22 N9 N16 N22
              refine till_take (i := 23) (v := .pointer (some ⟨gg, 0, none⟩)) rfl (by kernel_rfl) (by kernel_rfl) (by kernel_rfl) (fun _ _ _ h => hQp _ _ _ _ _ h) (fun L w => tillP_set (by decide)) (Or.inl ⟨by rfl, fun w => by go_simp⟩) hSb (fun hS => ?_)
              simp only [List.getElem_toArray, List.getElem_cons_zero, List.getElem_cons_succ, Act.put, List.setIfInBounds_toArray, List.set_cons_zero, List.set_cons_succ]
              clear hSb
              refine till_take (i := 24) (v := .pointer (some ⟨gg, 0, none⟩)) rfl (by kernel_rfl) (by kernel_rfl) (by kernel_rfl) (fun _ _ _ h => hQp _ _ _ _ _ h) (fun L w => tillP_set (by decide)) (Or.inl ⟨by rfl, fun w => by go_simp⟩) hS (fun hSb => ?_)
              simp only [List.getElem_toArray, List.getElem_cons_zero, List.getElem_cons_succ, Act.put, List.setIfInBounds_toArray, List.set_cons_zero, List.set_cons_succ]
              clear hS
              refine till_one (i := 25) (by kernel_rfl) rfl (fun K hK => ?_)
              simp only [List.getElem_toArray, List.getElem_cons_zero, List.getElem_cons_succ]
              rw [if_pos (by rfl)]
              go_simp
              rw [HV1.out]
              refine hK.out _ _ (.inl (by rfl)) (fun hS => ?_)
              clear hK K
              try simp only [List.getElem_toArray, List.getElem_cons_zero, List.getElem_cons_succ, Act.put, List.setIfInBounds_toArray, List.set_cons_zero, List.set_cons_succ]
              clear hSb
              refine till_take (i := 26) (v := .pointer (some ⟨gg, 0, none⟩)) rfl (by kernel_rfl) (by kernel_rfl) (by kernel_rfl) (fun _ _ _ h => hQp _ _ _ _ _ h) (fun L w => tillP_set (by decide)) (Or.inl ⟨by rfl, fun w => by go_simp⟩) hS (fun hSb => ?_)
              simp only [List.getElem_toArray, List.getElem_cons_zero, List.getElem_cons_succ, Act.put, List.setIfInBounds_toArray, List.set_cons_zero, List.set_cons_succ]
              clear hS
              refine till_take (i := 27) (v := .pointer (some ⟨gg, 1, none⟩)) rfl (by kernel_rfl) (by kernel_rfl) (by kernel_rfl) (fun _ _ _ h => hQp _ _ _ _ _ h) (fun L w => tillP_set (by decide)) (Or.inl ⟨by rfl, fun w => by go_simp⟩) hSb (fun hS => ?_)
              simp only [List.getElem_toArray, List.getElem_cons_zero, List.getElem_cons_succ, Act.put, List.setIfInBounds_toArray, List.set_cons_zero, List.set_cons_succ]
              clear hSb
              refine till_one (i := 28) (by kernel_rfl) rfl (fun K hK => ?_)
              simp only [List.getElem_toArray, List.getElem_cons_zero, List.getElem_cons_succ]
              rw [if_pos (by rfl)]
              go_simp
              rw [HV2.out]
              refine hK.out _ _ (.inl (by rfl)) (fun hSb => ?_)
              clear hK K
              try simp only [List.getElem_toArray, List.getElem_cons_zero, List.getElem_cons_succ, Act.put, List.setIfInBounds_toArray, List.set_cons_zero, List.set_cons_succ]
              clear hS
              refine till_take (i := 29) (v := .pointer (some ⟨gg, 0, none⟩)) rfl (by kernel_rfl) (by kernel_rfl) (by kernel_rfl) (fun _ _ _ h => hQp _ _ _ _ _ h) (fun L w => tillP_set (by decide)) (Or.inl ⟨by rfl, fun w => by go_simp⟩) hSb (fun hS => ?_)
              simp only [List.getElem_toArray, List.getElem_cons_zero, List.getElem_cons_succ, Act.put, List.setIfInBounds_toArray, List.set_cons_zero, List.set_cons_succ]
              clear hSb
              refine till_take (i := 30) (v := .pointer (some ⟨gg, 2, none⟩)) rfl (by kernel_rfl) (by kernel_rfl) (by kernel_rfl) (fun _ _ _ h => hQp _ _ _ _ _ h) (fun L w => tillP_set (by decide)) (Or.inl ⟨by rfl, fun w => by go_simp⟩) hS (fun hSb => ?_)
              simp only [List.getElem_toArray, List.getElem_cons_zero, List.getElem_cons_succ, Act.put, List.setIfInBounds_toArray, List.set_cons_zero, List.set_cons_succ]
              clear hS
              refine till_one (i := 31) (by kernel_rfl) rfl (fun K hK => ?_)
              simp only [List.getElem_toArray, List.getElem_cons_zero, List.getElem_cons_succ]
              rw [if_pos (by rfl)]
              go_simp
              rw [HV3.out]
              refine hK.out _ _ (.inl (by rfl)) (fun hS => ?_)
              clear hK K
              try simp only [List.getElem_toArray, List.getElem_cons_zero, List.getElem_cons_succ, Act.put, List.setIfInBounds_toArray, List.set_cons_zero, List.set_cons_succ]
              clear hSb
              refine till_done (by kernel_rfl) ?_ _
              exact hQ V3 a9 c9 a16 c16 a22 c22 p8 p15 p21 FIN
  · refine ⟨_, rfl, fun K hK => ?_⟩
    simp only [List.getElem_toArray, List.getElem_cons_zero, List.getElem_cons_succ]
    rw [if_pos (by rfl)]
    go_simp
    obtain ⟨p15, Hp15⟩ : ∃ p15, Hid (wd.heap.size = p15) := ⟨_, rfl⟩
    obtain ⟨W35, HW35⟩ : ∃ W35, Hid (wd.alloc (.cells #[.slice ll lm lk] 35) = W35) := ⟨_, rfl⟩
    have b_ : Below wd.heap.size wd W35 := by rw [← HW35.out]; exact alloc1 _ _
    have Kp15 : W35.heap[p15]? = some (.cells #[.slice ll lm lk] 35 (0, 0)) := by rw [← HW35.out, ← Hp15.out]; exact heap_alloc_new _ _
    have Lp15 : wd.heap.size ≤ p15 := by rw [← Hp15.out]; exact R0.ch.size
    have O9 : W35.ownsRow B 34 2 (.slice ba N bc) N xb := rown_bel O9 (fun q e => b_.block q (O9.lt q e).2)
    have O16 : W35.ownsRow B 35 1 (.slice la N lc) N xl := rown_bel O16 (fun q e => b_.block q (O16.lt q e).2)
    have O22 : W35.ownsRow B 3 1 (.slice ca N cc) N xc := rown_bel O22 (fun q e => b_.block q (O22.lt q e).2)
    have R0 := R0.bel b_
    rw [HW35.out, Hp15.out]
    refine hK.out _ _ (.inr (R0.cg CG)) (fun hS => ?_)
    clear hK K
    try simp only [List.getElem_toArray, List.getElem_cons_zero, List.getElem_cons_succ, Act.put, List.setIfInBounds_toArray, List.set_cons_zero, List.set_cons_succ]
    clear hSb
    refine till_two (i := 8) (j := 21) (by kernel_rfl) ?_ ?_
    · refine ⟨_, rfl, fun K hK => ?_⟩
      simp only [List.getElem_toArray, List.getElem_cons_zero, List.getElem_cons_succ]
      rw [if_pos (by rfl)]
      go_simp
      obtain ⟨p8, Hp8⟩ : ∃ p8, Hid (W35.heap.size = p8) := ⟨_, rfl⟩
      obtain ⟨W36, HW36⟩ : ∃ W36, Hid (W35.alloc (.cells #[.int .i64 r, .int .i64 n] 34) = W36) := ⟨_, rfl⟩
      have b_ : Below W35.heap.size W35 W36 := by rw [← HW36.out]; exact alloc1 _ _
      have Kp8 : W36.heap[p8]? = some (.cells #[.int .i64 r, .int .i64 n] 34 (0, 0)) := by rw [← HW36.out, ← Hp8.out]; exact heap_alloc_new _ _
      have Lp8 : wd.heap.size ≤ p8 := by rw [← Hp8.out]; exact R0.ch.size
      have O9 : W36.ownsRow B 34 2 (.slice ba N bc) N xb := rown_bel O9 (fun q e => b_.block q (O9.lt q e).2)
      have O16 : W36.ownsRow B 35 1 (.slice la N lc) N xl := rown_bel O16 (fun q e => b_.block q (O16.lt q e).2)
      have O22 : W36.ownsRow B 3 1 (.slice ca N cc) N xc := rown_bel O22 (fun q e => b_.block q (O22.lt q e).2)
      have Kp15 := (b_.block p15 (Array.getElem?_eq_some_iff.1 Kp15).1).trans Kp15
      have R0 := R0.bel b_
      rw [HW36.out, Hp8.out]
      refine hK.out _ _ (.inr (R0.cg CG)) (fun hSb => ?_)
      clear hK K
      try simp only [List.getElem_toArray, List.getElem_cons_zero, List.getElem_cons_succ, Act.put, List.setIfInBounds_toArray, List.set_cons_zero, List.set_cons_succ]
      clear hS
      refine till_two (i := 9) (j := 21) (by kernel_rfl) ?_ ?_
      · refine ⟨_, rfl, fun K hK => ?_⟩
        simp only [List.getElem_toArray, List.getElem_cons_zero, List.getElem_cons_succ]
        rw [if_pos (by rfl)]
        have SZ_ : wd.heap.size ≤ W36.heap.size := R0.ch.size
        obtain ⟨a9, c9, W37, ap_, on_, gr_, nw_⟩ := app_one Tryd.underlying59 info34 rfl (by decide) O9 (cs := [.int .i64 r, .int .i64 n]) Kp8 rfl (by simp [Value.oneCell']) (by omega) (by unfold maxLen; omega) (Nat.le_trans hB R0.ch.size)
        have AP_ : Hid ((Builtin.append_ #[59, 59] 59 #[.slice ba N bc, .slice (some ⟨p8, 0, none⟩) 1 1]).run Tryd.prog W36 = .ok (.slice a9 (N + 1) c9) W37) := ap_
        have O16 : W37.ownsRow B 35 1 (.slice la N lc) N xl := rown_bel O16 (fun q e => gr_.block q (O16.lt q e).2 (fun e2 => rown_ne O16 O9 (by decide) e (by rw [ownBlock_slice]; exact e2.symm)))
        have O22 : W37.ownsRow B 3 1 (.slice ca N cc) N xc := rown_bel O22 (fun q e => gr_.block q (O22.lt q e).2 (fun e2 => rown_ne O22 O9 (by decide) e (by rw [ownBlock_slice]; exact e2.symm)))
        have Kp8 := (gr_.block p8 (Array.getElem?_eq_some_iff.1 Kp8).1 (fun e => by have h1 := LT.lba p8 e.symm; omega)).trans Kp8
        have Kp15 := (gr_.block p15 (Array.getElem?_eq_some_iff.1 Kp15).1 (fun e => by have h1 := LT.lba p15 e.symm; omega)).trans Kp15
        have R0 := R0.grow gr_ (fun q e => ⟨LT.Sba q e, LT.lba q e, LT.gba q e, LT.bba q e⟩)
        have O9 := on_
        have N9 : ∀ q, blkOf a9 = some q → blkOf ba = some q ∨ wd.heap.size ≤ q := fun q e => (nw_ q e).imp id (fun h => Nat.le_trans SZ_ h)
        refine wp_app (.tmp 37) (.tmp 39) (by rfl) (by rfl) (by rfl) (by rfl) AP_ ?_
        refine hK.out _ _ (.inr (R0.cg CG)) (fun hS => ?_)
        clear hK K
        try simp only [List.getElem_toArray, List.getElem_cons_zero, List.getElem_cons_succ, Act.put, List.setIfInBounds_toArray, List.set_cons_zero, List.set_cons_succ]
        clear hSb
        refine till_two (i := 16) (j := 21) (by kernel_rfl) ?_ ?_
        · refine ⟨_, rfl, fun K hK => ?_⟩
          simp only [List.getElem_toArray, List.getElem_cons_zero, List.getElem_cons_succ]
          rw [if_pos (by rfl)]
          have SZ_ : wd.heap.size ≤ W37.heap.size := R0.ch.size
          obtain ⟨a16, c16, W38, ap_, on_, gr_, nw_⟩ := app_one Tryd.underlying60 info35 rfl (by decide) O16 (cs := [.slice ll lm lk]) Kp15 rfl (by simp [Value.oneCell']) (by omega) (by unfold maxLen; omega) (Nat.le_trans hB R0.ch.size)
          have AP_ : Hid ((Builtin.append_ #[60, 60] 60 #[.slice la N lc, .slice (some ⟨p15, 0, none⟩) 1 1]).run Tryd.prog W37 = .ok (.slice a16 (N + 1) c16) W38) := ap_
          have O9 : W38.ownsRow B 34 2 (.slice a9 (N + 1) c9) (N + 1) (xb ++ [.int .i64 r, .int .i64 n]) := rown_bel O9 (fun q e => gr_.block q (O9.lt q e).2 (fun e2 => rown_ne O9 O16 (by decide) e (by rw [ownBlock_slice]; exact e2.symm)))
          have O22 : W38.ownsRow B 3 1 (.slice ca N cc) N xc := rown_bel O22 (fun q e => gr_.block q (O22.lt q e).2 (fun e2 => rown_ne O22 O16 (by decide) e (by rw [ownBlock_slice]; exact e2.symm)))
          have Kp8 := (gr_.block p8 (Array.getElem?_eq_some_iff.1 Kp8).1 (fun e => by have h1 := LT.lla p8 e.symm; omega)).trans Kp8
          have Kp15 := (gr_.block p15 (Array.getElem?_eq_some_iff.1 Kp15).1 (fun e => by have h1 := LT.lla p15 e.symm; omega)).trans Kp15
          have R0 := R0.grow gr_ (fun q e => ⟨LT.Sla q e, LT.lla q e, LT.gla q e, LT.bla q e⟩)
          have O16 := on_
          have N16 : ∀ q, blkOf a16 = some q → blkOf la = some q ∨ wd.heap.size ≤ q := fun q e => (nw_ q e).imp id (fun h => Nat.le_trans SZ_ h)
          refine wp_app (.tmp 44) (.tmp 46) (by rfl) (by rfl) (by rfl) (by rfl) AP_ ?_
          refine hK.out _ _ (.inr (R0.cg CG)) (fun hSb => ?_)
          clear hK K
          try simp only [List.getElem_toArray, List.getElem_cons_zero, List.getElem_cons_succ, Act.put, List.setIfInBounds_toArray, List.set_cons_zero, List.set_cons_succ]
          clear hS
          refine till_uno (i := 21) (by kernel_rfl) ?_
          · refine ⟨_, rfl, fun K hK => ?_⟩
            simp only [List.getElem_toArray, List.getElem_cons_zero, List.getElem_cons_succ]
            rw [if_pos (by rfl)]
            go_simp
            obtain ⟨p21, Hp21⟩ : ∃ p21, Hid (W38.heap.size = p21) := ⟨_, rfl⟩
            obtain ⟨W39, HW39⟩ : ∃ W39, Hid (W38.alloc (.cells #[.int .i64 0] 3) = W39) := ⟨_, rfl⟩
            have b_ : Below W38.heap.size W38 W39 := by rw [← HW39.out]; exact alloc1 _ _
            have Kp21 : W39.heap[p21]? = some (.cells #[.int .i64 0] 3 (0, 0)) := by rw [← HW39.out, ← Hp21.out]; exact heap_alloc_new _ _
            have Lp21 : wd.heap.size ≤ p21 := by rw [← Hp21.out]; exact R0.ch.size
            have O9 : W39.ownsRow B 34 2 (.slice a9 (N + 1) c9) (N + 1) (xb ++ [.int .i64 r, .int .i64 n]) := rown_bel O9 (fun q e => b_.block q (O9.lt q e).2)
            have O16 : W39.ownsRow B 35 1 (.slice a16 (N + 1) c16) (N + 1) (xl ++ [.slice ll lm lk]) := rown_bel O16 (fun q e => b_.block q (O16.lt q e).2)
            have O22 : W39.ownsRow B 3 1 (.slice ca N cc) N xc := rown_bel O22 (fun q e => b_.block q (O22.lt q e).2)
            have Kp8 := (b_.block p8 (Array.getElem?_eq_some_iff.1 Kp8).1).trans Kp8
            have Kp15 := (b_.block p15 (Array.getElem?_eq_some_iff.1 Kp15).1).trans Kp15
            have R0 := R0.bel b_
            rw [HW39.out, Hp21.out]
            refine hK.out _ _ (.inr (R0.cg CG)) (fun hS => ?_)
            clear hK K
            try simp only [List.getElem_toArray, List.getElem_cons_zero, List.getElem_cons_succ, Act.put, List.setIfInBounds_toArray, List.set_cons_zero, List.set_cons_succ]
            clear hSb
            refine till_uno (i := 22) (by kernel_rfl) ?_
            · refine ⟨_, rfl, fun K hK => ?_⟩
              simp only [List.getElem_toArray, List.getElem_cons_zero, List.getElem_cons_succ]
              rw [if_pos (by rfl)]
              have SZ_ : wd.heap.size ≤ W39.heap.size := R0.ch.size
              obtain ⟨a22, c22, W40, ap_, on_, gr_, nw_⟩ := app_one Tryd.underlying61 info3 rfl (by decide) O22 (cs := [.int .i64 0]) Kp21 rfl (by simp [Value.oneCell']) (by omega) (by unfold maxLen; omega) (Nat.le_trans hB R0.ch.size)
              have AP_ : Hid ((Builtin.append_ #[61, 61] 61 #[.slice ca N cc, .slice (some ⟨p21, 0, none⟩) 1 1]).run Tryd.prog W39 = .ok (.slice a22 (N + 1) c22) W40) := ap_
              have O9 : W40.ownsRow B 34 2 (.slice a9 (N + 1) c9) (N + 1) (xb ++ [.int .i64 r, .int .i64 n]) := rown_bel O9 (fun q e => gr_.block q (O9.lt q e).2 (fun e2 => rown_ne O9 O22 (by decide) e (by rw [ownBlock_slice]; exact e2.symm)))
              have O16 : W40.ownsRow B 35 1 (.slice a16 (N + 1) c16) (N + 1) (xl ++ [.slice ll lm lk]) := rown_bel O16 (fun q e => gr_.block q (O16.lt q e).2 (fun e2 => rown_ne O16 O22 (by decide) e (by rw [ownBlock_slice]; exact e2.symm)))
              have Kp8 := (gr_.block p8 (Array.getElem?_eq_some_iff.1 Kp8).1 (fun e => by have h1 := LT.lca p8 e.symm; omega)).trans Kp8
              have Kp15 := (gr_.block p15 (Array.getElem?_eq_some_iff.1 Kp15).1 (fun e => by have h1 := LT.lca p15 e.symm; omega)).trans Kp15
              have Kp21 := (gr_.block p21 (Array.getElem?_eq_some_iff.1 Kp21).1 (fun e => by have h1 := LT.lca p21 e.symm; omega)).trans Kp21
              have R0 := R0.grow gr_ (fun q e => ⟨LT.Sca q e, LT.lca q e, LT.gca q e, LT.bca q e⟩)
              have O22 := on_
              have N22 : ∀ q, blkOf a22 = some q → blkOf ca = some q ∨ wd.heap.size ≤ q := fun q e => (nw_ q e).imp id (fun h => Nat.le_trans SZ_ h)
              refine wp_app (.tmp 51) (.tmp 52) (by rfl) (by rfl) (by rfl) (by rfl) AP_ ?_
              refine hK.out _ _ (.inr (R0.cg CG)) (fun hSb => ?_)
              clear hK K
              try simp only [List.getElem_toArray, List.getElem_cons_zero, List.getElem_cons_succ, Act.put, List.setIfInBounds_toArray, List.set_cons_zero, List.set_cons_succ]
              clear hS
              obtain ⟨V1, V2, V3, HV1, HV2, HV3, c0_, f0_, c1_, f1_, c2_, f2_, FIN⟩ := R0.fin (ba' := a9) (bc' := c9) (la' := a16) (lc' := c16) (ca' := a22) (cc' := c22) CG O9 O16 O22 N9 N16 N22
              refine till_take (i := 23) (v := .pointer (some ⟨gg, 0, none⟩)) rfl (by kernel_rfl) (by kernel_rfl) (by kernel_rfl) (fun _ _ _ h => hQp _ _ _ _ _ h) (fun L w => tillP_set (by decide)) (Or.inl ⟨by rfl, fun w => by go_simp⟩) hSb (fun hS => ?_)
              simp only [List.getElem_toArray, List.getElem_cons_zero, List.getElem_cons_succ, Act.put, List.setIfInBounds_toArray, List.set_cons_zero, List.set_cons_succ]
              clear hSb
              refine till_take (i := 24) (v := .pointer (some ⟨gg, 0, none⟩)) rfl (by kernel_rfl) (by kernel_rfl) (by kernel_rfl) (fun _ _ _ h => hQp _ _ _ _ _ h) (fun L w => tillP_set (by decide)) (Or.inl ⟨by rfl, fun w => by go_simp⟩) hS (fun hSb => ?_)
              simp only [List.getElem_toArray, List.getElem_cons_zero, List.getElem_cons_succ, Act.put, List.setIfInBounds_toArray, List.set_cons_zero, List.set_cons_succ]
              clear hS
              refine till_one (i := 25) (by kernel_rfl) rfl (fun K hK => ?_)
              simp only [List.getElem_toArray, List.getElem_cons_zero, List.getElem_cons_succ]
              rw [if_pos (by rfl)]
              go_simp
              rw [HV1.out]
              refine hK.out _ _ (.inl (by rfl)) (fun hS => ?_)
              clear hK K
              try simp only [List.getElem_toArray, List.getElem_cons_zero, List.getElem_cons_succ, Act.put, List.setIfInBounds_toArray, List.set_cons_zero, List.set_cons_succ]
              clear hSb
              refine till_take (i := 26) (v := .pointer (some ⟨gg, 0, none⟩)) rfl (by kernel_rfl) (by kernel_rfl) (by kernel_rfl) (fun _ _ _ h => hQp _ _ _ _ _ h) (fun L w => tillP_set (by decide)) (Or.inl ⟨by rfl, fun w => by go_simp⟩) hS (fun hSb => ?_)
              simp only [List.getElem_toArray, List.getElem_cons_zero, List.getElem_cons_succ, Act.put, List.setIfInBounds_toArray, List.set_cons_zero, List.set_cons_succ]
              clear hS
              refine till_take (i := 27) (v := .pointer (some ⟨gg, 1, none⟩)) rfl (by kernel_rfl) (by kernel_rfl) (by kernel_rfl) (fun _ _ _ h => hQp _ _ _ _ _ h) (fun L w => tillP_set (by decide)) (Or.inl ⟨by rfl, fun w => by go_simp⟩) hSb (fun hS => ?_)
              simp only [List.getElem_toArray, List.getElem_cons_zero, List.getElem_cons_succ, Act.put, List.setIfInBounds_toArray, List.set_cons_zero, List.set_cons_succ]
              clear hSb
              refine till_one (i := 28) (by kernel_rfl) rfl (fun K hK => ?_)
              simp only [List.getElem_toArray, List.getElem_cons_zero, List.getElem_cons_succ]
              rw [if_pos (by rfl)]
              go_simp
              rw [HV2.out]
              refine hK.out _ _ (.inl (by rfl)) (fun hSb => ?_)
              clear hK K
              try simp only [List.getElem_toArray, List.getElem_cons_zero, List.getElem_cons_succ, Act.put, List.setIfInBounds_toArray, List.set_cons_zero, List.set_cons_succ]
              clear hS
              refine till_take (i := 29) (v := .pointer (some ⟨gg, 0, none⟩)) rfl (by kernel_rfl) (by kernel_rfl) (by kernel_rfl) (fun _ _ _ h => hQp _ _ _ _ _ h) (fun L w => tillP_set (by decide)) (Or.inl ⟨by rfl, fun w => by go_simp⟩) hSb (fun hS => ?_)
              simp only [List.getElem_toArray, List.getElem_cons_zero, List.getElem_cons_succ, Act.put, List.setIfInBounds_toArray, List.set_cons_zero, List.set_cons_succ]
              clear hSb
              refine till_take (i := 30) (v := .pointer (some ⟨gg, 2, none⟩)) rfl (by kernel_rfl) (by kernel_rfl) (by kernel_rfl) (fun _ _ _ h => hQp _ _ _ _ _ h) (fun L w => tillP_set (by decide)) (Or.inl ⟨by rfl, fun w => by go_simp⟩) hS (fun hSb => ?_)
              simp only [List.getElem_toArray, List.getElem_cons_zero, List.getElem_cons_succ, Act.put, List.setIfInBounds_toArray, List.set_cons_zero, List.set_cons_succ]
              clear hS
              refine till_one (i := 31) (by kernel_rfl) rfl (fun K hK => ?_)
              simp only [List.getElem_toArray, List.getElem_cons_zero, List.getElem_cons_succ]
              rw [if_pos (by rfl)]
              go_simp
              rw [HV3.out]
              refine hK.out _ _ (.inl (by rfl)) (fun hS => ?_)
              clear hK K
              try simp only [List.getElem_toArray, List.getElem_cons_zero, List.getElem_cons_succ, Act.put, List.setIfInBounds_toArray, List.set_cons_zero, List.set_cons_succ]
              clear hSb
              refine till_done (by kernel_rfl) ?_ _
              exact hQ V3 a9 c9 a16 c16 a22 c22 p8 p15 p21 FIN
        · refine ⟨_, rfl, fun K hK => ?_⟩
          simp only [List.getElem_toArray, List.getElem_cons_zero, List.getElem_cons_succ]
          rw [if_pos (by rfl)]
          go_simp
          obtain ⟨p21, Hp21⟩ : ∃ p21, Hid (W37.heap.size = p21) := ⟨_, rfl⟩
          obtain ⟨W41, HW41⟩ : ∃ W41, Hid (W37.alloc (.cells #[.int .i64 0] 3) = W41) := ⟨_, rfl⟩
          have b_ : Below W37.heap.size W37 W41 := by rw [← HW41.out]; exact alloc1 _ _
          have Kp21 : W41.heap[p21]? = some (.cells #[.int .i64 0] 3 (0, 0)) := by rw [← HW41.out, ← Hp21.out]; exact heap_alloc_new _ _
          have Lp21 : wd.heap.size ≤ p21 := by rw [← Hp21.out]; exact R0.ch.size
          have O9 : W41.ownsRow B 34 2 (.slice a9 (N + 1) c9) (N + 1) (xb ++ [.int .i64 r, .int .i64 n]) := rown_bel O9 (fun q e => b_.block q (O9.lt q e).2)
          have O16 : W41.ownsRow B 35 1 (.slice la N lc) N xl := rown_bel O16 (fun q e => b_.block q (O16.lt q e).2)
          have O22 : W41.ownsRow B 3 1 (.slice ca N cc) N xc := rown_bel O22 (fun q e => b_.block q (O22.lt q e).2)
          have Kp8 := (b_.block p8 (Array.getElem?_eq_some_iff.1 Kp8).1).trans Kp8
          have Kp15 := (b_.block p15 (Array.getElem?_eq_some_iff.1 Kp15).1).trans Kp15
          have R0 := R0.bel b_
          rw [HW41.out, Hp21.out]
          refine hK.out _ _ (.inr (R0.cg CG)) (fun hSb => ?_)
          clear hK K
          try simp only [List.getElem_toArray, List.getElem_cons_zero, List.getElem_cons_succ, Act.put, List.setIfInBounds_toArray, List.set_cons_zero, List.set_cons_succ]
          clear hS
          refine till_uno (i := 16) (by kernel_rfl) ?_
          · refine ⟨_, rfl, fun K hK => ?_⟩
            simp only [List.getElem_toArray, List.getElem_cons_zero, List.getElem_cons_succ]
            rw [if_pos (by rfl)]
            have SZ_ : wd.heap.size ≤ W41.heap.size := R0.ch.size
            obtain ⟨a16, c16, W42, ap_, on_, gr_, nw_⟩ := app_one Tryd.underlying60 info35 rfl (by decide) O16 (cs := [.slice ll lm lk]) Kp15 rfl (by simp [Value.oneCell']) (by omega) (by unfold maxLen; omega) (Nat.le_trans hB R0.ch.size)
            have AP_ : Hid ((Builtin.append_ #[60, 60] 60 #[.slice la N lc, .slice (some ⟨p15, 0, none⟩) 1 1]).run Tryd.prog W41 = .ok (.slice a16 (N + 1) c16) W42) := ap_
            have O9 : W42.ownsRow B 34 2 (.slice a9 (N + 1) c9) (N + 1) (xb ++ [.int .i64 r, .int .i64 n]) := rown_bel O9 (fun q e => gr_.block q (O9.lt q e).2 (fun e2 => rown_ne O9 O16 (by decide) e (by rw [ownBlock_slice]; exact e2.symm)))
            have O22 : W42.ownsRow B 3 1 (.slice ca N cc) N xc := rown_bel O22 (fun q e => gr_.block q (O22.lt q e).2 (fun e2 => rown_ne O22 O16 (by decide) e (by rw [ownBlock_slice]; exact e2.symm)))
            have Kp8 := (gr_.block p8 (Array.getElem?_eq_some_iff.1 Kp8).1 (fun e => by have h1 := LT.lla p8 e.symm; omega)).trans Kp8
            have Kp15 := (gr_.block p15 (Array.getElem?_eq_some_iff.1 Kp15).1 (fun e => by have h1 := LT.lla p15 e.symm; omega)).trans Kp15
            have Kp21 := (gr_.block p21 (Array.getElem?_eq_some_iff.1 Kp21).1 (fun e => by have h1 := LT.lla p21 e.symm; omega)).trans Kp21
            have R0 := R0.grow gr_ (fun q e => ⟨LT.Sla q e, LT.lla q e, LT.gla q e, LT.bla q e⟩)
            have O16 := on_
            have N16 : ∀ q, blkOf a16 = some q → blkOf la = some q ∨ wd.heap.size ≤ q := fun q e => (nw_ q e).imp id (fun h => Nat.le_trans SZ_ h)
            refine wp_app (.tmp 44) (.tmp 46) (by rfl) (by rfl) (by rfl) (by rfl) AP_ ?_
            refine hK.out _ _ (.inr (R0.cg CG)) (fun hS => ?_)
            clear hK K
            try simp only [List.getElem_toArray, List.getElem_cons_zero, List.getElem_cons_succ, Act.put, List.setIfInBounds_toArray, List.set_cons_zero, List.set_cons_succ]
            clear hSb
            refine till_uno (i := 22) (by kernel_rfl) ?_
            · refine ⟨_, rfl, fun K hK => ?_⟩
              simp only [List.getElem_toArray, List.getElem_cons_zero, List.getElem_cons_succ]
              rw [if_pos (by rfl)]
              have SZ_ : wd.heap.size ≤ W42.heap.size := R0.ch.size
              obtain ⟨a22, c22, W43, ap_, on_, gr_, nw_⟩ := app_one Tryd.underlying61 info3 rfl (by decide) O22 (cs := [.int .i64 0]) Kp21 rfl (by simp [Value.oneCell']) (by omega) (by unfold maxLen; omega) (Nat.le_trans hB R0.ch.size)
              have AP_ : Hid ((Builtin.append_ #[61, 61] 61 #[.slice ca N cc, .slice (some ⟨p21, 0, none⟩) 1 1]).run Tryd.prog W42 = .ok (.slice a22 (N + 1) c22) W43) := ap_
              have O9 : W43.ownsRow B 34 2 (.slice a9 (N + 1) c9) (N + 1) (xb ++ [.int .i64 r, .int .i64 n]) := rown_bel O9 (fun q e => gr_.block q (O9.lt q e).2 (fun e2 => rown_ne O9 O22 (by decide) e (by rw [ownBlock_slice]; exact e2.symm)))
              have O16 : W43.ownsRow B 35 1 (.slice a16 (N + 1) c16) (N + 1) (xl ++ [.slice ll lm lk]) := rown_bel O16 (fun q e => gr_.block q (O16.lt q e).2 (fun e2 => rown_ne O16 O22 (by decide) e (by rw [ownBlock_slice]; exact e2.symm)))
              have Kp8 := (gr_.block p8 (Array.getElem?_eq_some_iff.1 Kp8).1 (fun e => by have h1 := LT.lca p8 e.symm; omega)).trans Kp8
              have Kp15 := (gr_.block p15 (Array.getElem?_eq_some_iff.1 Kp15).1 (fun e => by have h1 := LT.lca p15 e.symm; omega)).trans Kp15
              have Kp21 := (gr_.block p21 (Array.getElem?_eq_some_iff.1 Kp21).1 (fun e => by have h1 := LT.lca p21 e.symm; omega)).trans Kp21
              have R0 := R0.grow gr_ (fun q e => ⟨LT.Sca q e, LT.lca q e, LT.gca q e, LT.bca q e⟩)
              have O22 := on_
              have N22 : ∀ q, blkOf a22 = some q → blkOf ca = some q ∨ wd.heap.size ≤ q := fun q e => (nw_ q e).imp id (fun h => Nat.le_trans SZ_ h)
              refine wp_app (.tmp 51) (.tmp 52) (by rfl) (by rfl) (by rfl) (by rfl) AP_ ?_
              refine hK.out _ _ (.inr (R0.cg CG)) (fun hSb => ?_)
              clear hK K
              try simp only [List.getElem_toArray, List.getElem_cons_zero, List.getElem_cons_succ, Act.put, List.setIfInBounds_toArray, List.set_cons_zero, List.set_cons_succ]
              clear hS
              obtain ⟨V1, V2, V3, HV1, HV2, HV3, c0_, f0_, c1_, f1_, c2_, f2_, FIN⟩ := R0.fin (ba' := a9) (bc' := c9) (la' := a16) (lc' := c16) (ca' := a22) (cc' := c22) CG O9 O16 O22 N9 N16 N22
              refine till_take (i := 23) (v := .pointer (some ⟨gg, 0, none⟩)) rfl (by kernel_rfl) (by kernel_rfl) (by kernel_rfl) (fun _ _ _ h => hQp _ _ _ _ _ h) (fun L w => tillP_set (by decide)) (Or.inl ⟨by rfl, fun w => by go_simp⟩) hSb (fun hS => ?_)
              simp only [List.getElem_toArray, List.getElem_cons_zero, List.getElem_cons_succ, Act.put, List.setIfInBounds_toArray, List.set_cons_zero, List.set_cons_succ]
              clear hSb
              refine till_take (i := 24) (v := .pointer (some ⟨gg, 0, none⟩)) rfl (by kernel_rfl) (by kernel_rfl) (by kernel_rfl) (fun _ _ _ h => hQp _ _ _ _ _ h) (fun L w => tillP_set (by decide)) (Or.inl ⟨by rfl, fun w => by go_simp⟩) hS (fun hSb => ?_)
              simp only [List.getElem_toArray, List.getElem_cons_zero, List.getElem_cons_succ, Act.put, List.setIfInBounds_toArray, List.set_cons_zero, List.set_cons_succ]
              clear hS
              refine till_one (i := 25) (by kernel_rfl) rfl (fun K hK => ?_)
              simp only [List.getElem_toArray, List.getElem_cons_zero, List.getElem_cons_succ]
              rw [if_pos (by rfl)]
              go_simp
              rw [HV1.out]
              refine hK.out _ _ (.inl (by rfl)) (fun hS => ?_)
              clear hK K
              try simp only [List.getElem_toArray, List.getElem_cons_zero, List.getElem_cons_succ, Act.put, List.setIfInBounds_toArray, List.set_cons_zero, List.set_cons_succ]
              clear hSb
              refine till_take (i := 26) (v := .pointer (some ⟨gg, 0, none⟩)) rfl (by kernel_rfl) (by kernel_rfl) (by kernel_rfl) (fun _ _ _ h => hQp _ _ _ _ _ h) (fun L w => tillP_set (by decide)) (Or.inl ⟨by rfl, fun w => by go_simp⟩) hS (fun hSb => ?_)
              simp only [List.getElem_toArray, List.getElem_cons_zero, List.getElem_cons_succ, Act.put, List.setIfInBounds_toArray, List.set_cons_zero, List.set_cons_succ]
              clear hS
              refine till_take (i := 27) (v := .pointer (some ⟨gg, 1, none⟩)) rfl (by kernel_rfl) (by kernel_rfl) (by kernel_rfl) (fun _ _ _ h => hQp _ _ _ _ _ h) (fun L w => tillP_set (by decide)) (Or.inl ⟨by rfl, fun w => by go_simp⟩) hSb (fun hS => ?_)
              simp only [List.getElem_toArray, List.getElem_cons_zero, List.getElem_cons_succ, Act.put, List.setIfInBounds_toArray, List.set_cons_zero, List.set_cons_succ]
              clear hSb
              refine till_one (i := 28) (by kernel_rfl) rfl (fun K hK => ?_)
              simp only [List.getElem_toArray, List.getElem_cons_zero, List.getElem_cons_succ]
              rw [if_pos (by rfl)]
              go_simp
              rw [HV2.out]
              refine hK.out _ _ (.inl (by rfl)) (fun hSb => ?_)
              clear hK K
              try simp only [List.getElem_toArray, List.getElem_cons_zero, List.getElem_cons_succ, Act.put, List.setIfInBounds_toArray, List.set_cons_zero, List.set_cons_succ]
              clear hS
              refine till_take (i := 29) (v := .pointer (some ⟨gg, 0, none⟩)) rfl (by kernel_rfl) (by kernel_rfl) (by kernel_rfl) (fun _ _ _ h => hQp _ _ _ _ _ h) (fun L w => tillP_set (by decide)) (Or.inl ⟨by rfl, fun w => by go_simp⟩) hSb (fun hS => ?_)
              simp only [List.getElem_toArray, List.getElem_cons_zero, List.getElem_cons_succ, Act.put, List.setIfInBounds_toArray, List.set_cons_zero, List.set_cons_succ]
              clear hSb
              refine till_take (i := 30) (v := .pointer (some ⟨gg, 2, none⟩)) rfl (by kernel_rfl) (by kernel_rfl) (by kernel_rfl) (fun _ _ _ h => hQp _ _ _ _ _ h) (fun L w => tillP_set (by decide)) (Or.inl ⟨by rfl, fun w => by go_simp⟩) hS (fun hSb => ?_)
              simp only [List.getElem_toArray, List.getElem_cons_zero, List.getElem_cons_succ, Act.put, List.setIfInBounds_toArray, List.set_cons_zero, List.set_cons_succ]
              clear hS
              refine till_one (i := 31) (by kernel_rfl) rfl (fun K hK => ?_)
              simp only [List.getElem_toArray, List.getElem_cons_zero, List.getElem_cons_succ]
              rw [if_pos (by rfl)]
              go_simp
              rw [HV3.out]
              refine hK.out _ _ (.inl (by rfl)) (fun hS => ?_)
              clear hK K
              try simp only [List.getElem_toArray, List.getElem_cons_zero, List.getElem_cons_succ, Act.put, List.setIfInBounds_toArray, List.set_cons_zero, List.set_cons_succ]
              clear hSb
              refine till_done (by kernel_rfl) ?_ _
              exact hQ V3 a9 c9 a16 c16 a22 c22 p8 p15 p21 FIN
      · refine ⟨_, rfl, fun K hK => ?_⟩
        simp only [List.getElem_toArray, List.getElem_cons_zero, List.getElem_cons_succ]
        rw [if_pos (by rfl)]
        go_simp
        obtain ⟨p21, Hp21⟩ : ∃ p21, Hid (W36.heap.size = p21) := ⟨_, rfl⟩
        obtain ⟨W44, HW44⟩ : ∃ W44, Hid (W36.alloc (.cells #[.int .i64 0] 3) = W44) := ⟨_, rfl⟩
        have b_ : Below W36.heap.size W36 W44 := by rw [← HW44.out]; exact alloc1 _ _
        have Kp21 : W44.heap[p21]? = some (.cells #[.int .i64 0] 3 (0, 0)) := by rw [← HW44.out, ← Hp21.out]; exact heap_alloc_new _ _
        have Lp21 : wd.heap.size ≤ p21 := by rw [← Hp21.out]; exact R0.ch.size
        have O9 : W44.ownsRow B 34 2 (.slice ba N bc) N xb := rown_bel O9 (fun q e => b_.block q (O9.lt q e).2)
        have O16 : W44.ownsRow B 35 1 (.slice la N lc) N xl := rown_bel O16 (fun q e => b_.block q (O16.lt q e).2)
        have O22 : W44.ownsRow B 3 1 (.slice ca N cc) N xc := rown_bel O22 (fun q e => b_.block q (O22.lt q e).2)
        have Kp8 := (b_.block p8 (Array.getElem?_eq_some_iff.1 Kp8).1).trans Kp8
        have Kp15 := (b_.block p15 (Array.getElem?_eq_some_iff.1 Kp15).1).trans Kp15
        have R0 := R0.bel b_
        rw [HW44.out, Hp21.out]
        refine hK.out _ _ (.inr (R0.cg CG)) (fun hS => ?_)
        clear hK K
        try simp only [List.getElem_toArray, List.getElem_cons_zero, List.getElem_cons_succ, Act.put, List.setIfInBounds_toArray, List.set_cons_zero, List.set_cons_succ]
        clear hSb
        refine till_uno (i := 9) (by kernel_rfl) ?_
        · refine ⟨_, rfl, fun K hK => ?_⟩
          simp only [List.getElem_toArray, List.getElem_cons_zero, List.getElem_cons_succ]
          rw [if_pos (by rfl)]
          have SZ_ : wd.heap.size ≤ W44.heap.size := R0.ch.size
          obtain ⟨a9, c9, W45, ap_, on_, gr_, nw_⟩ := app_one Tryd.underlying59 info34 rfl (by decide) O9 (cs := [.int .i64 r, .int .i64 n]) Kp8 rfl (by simp [Value.oneCell']) (by omega) (by unfold maxLen; omega) (Nat.le_trans hB R0.ch.size)
          have AP_ : Hid ((Builtin.append_ #[59, 59] 59 #[.slice ba N bc, .slice (some ⟨p8, 0, none⟩) 1 1]).run Tryd.prog W44 = .ok (.slice a9 (N + 1) c9) W45) := ap_
          have O16 : W45.ownsRow B 35 1 (.slice la N lc) N xl := rown_bel O16 (fun q e => gr_.block q (O16.lt q e).2 (fun e2 => rown_ne O16 O9 (by decide) e (by rw [ownBlock_slice]; exact e2.symm)))
          have O22 : W45.ownsRow B 3 1 (.slice ca N cc) N xc := rown_bel O22 (fun q e => gr_.block q (O22.lt q e).2 (fun e2 => rown_ne O22 O9 (by decide) e (by rw [ownBlock_slice]; exact e2.symm)))
          have Kp8 := (gr_.block p8 (Array.getElem?_eq_some_iff.1 Kp8).1 (fun e => by have h1 := LT.lba p8 e.symm; omega)).trans Kp8
          have Kp15 := (gr_.block p15 (Array.getElem?_eq_some_iff.1 Kp15).1 (fun e => by have h1 := LT.lba p15 e.symm; omega)).trans Kp15
          have Kp21 := (gr_.block p21 (Array.getElem?_eq_some_iff.1 Kp21).1 (fun e => by have h1 := LT.lba p21 e.symm; omega)).trans Kp21
          have R0 := R0.grow gr_ (fun q e => ⟨LT.Sba q e, LT.lba q e, LT.gba q e, LT.bba q e⟩)
          have O9 := on_
          have N9 : ∀ q, blkOf a9 = some q → blkOf ba = some q ∨ wd.heap.size ≤ q := fun q e => (nw_ q e).imp id (fun h => Nat.le_trans SZ_ h)
          refine wp_app (.tmp 37) (.tmp 39) (by rfl) (by rfl) (by rfl) (by rfl) AP_ ?_
          refine hK.out _ _ (.inr (R0.cg CG)) (fun hSb => ?_)
          clear hK K
          try simp only [List.getElem_toArray, List.getElem_cons_zero, List.getElem_cons_succ, Act.put, List.setIfInBounds_toArray, List.set_cons_zero, List.set_cons_succ]
          clear hS
          refine till_uno (i := 16) (by kernel_rfl) ?_
          · refine ⟨_, rfl, fun K hK => ?_⟩
            simp only [List.getElem_toArray, List.getElem_cons_zero, List.getElem_cons_succ]
            rw [if_pos (by rfl)]
            have SZ_ : wd.heap.size ≤ W45.heap.size := R0.ch.size
            obtain ⟨a16, c16, W46, ap_, on_, gr_, nw_⟩ := app_one Tryd.underlying60 info35 rfl (by decide) O16 (cs := [.slice ll lm lk]) Kp15 rfl (by simp [Value.oneCell']) (by omega) (by unfold maxLen; omega) (Nat.le_trans hB R0.ch.size)
            have AP_ : Hid ((Builtin.append_ #[60, 60] 60 #[.slice la N lc, .slice (some ⟨p15, 0, none⟩) 1 1]).run Tryd.prog W45 = .ok (.slice a16 (N + 1) c16) W46) := ap_
            have O9 : W46.ownsRow B 34 2 (.slice a9 (N + 1) c9) (N + 1) (xb ++ [.int .i64 r, .int .i64 n]) := rown_bel O9 (fun q e => gr_.block q (O9.lt q e).2 (fun e2 => rown_ne O9 O16 (by decide) e (by rw [ownBlock_slice]; exact e2.symm)))
            have O22 : W46.ownsRow B 3 1 (.slice ca N cc) N xc := rown_bel O22 (fun q e => gr_.block q (O22.lt q e).2 (fun e2 => rown_ne O22 O16 (by decide) e (by rw [ownBlock_slice]; exact e2.symm)))
            have Kp8 := (gr_.block p8 (Array.getElem?_eq_some_iff.1 Kp8).1 (fun e => by have h1 := LT.lla p8 e.symm; omega)).trans Kp8
            have Kp15 := (gr_.block p15 (Array.getElem?_eq_some_iff.1 Kp15).1 (fun e => by have h1 := LT.lla p15 e.symm; omega)).trans Kp15
            have Kp21 := (gr_.block p21 (Array.getElem?_eq_some_iff.1 Kp21).1 (fun e => by have h1 := LT.lla p21 e.symm; omega)).trans Kp21
            have R0 := R0.grow gr_ (fun q e => ⟨LT.Sla q e, LT.lla q e, LT.gla q e, LT.bla q e⟩)
            have O16 := on_
            have N16 : ∀ q, blkOf a16 = some q → blkOf la = some q ∨ wd.heap.size ≤ q := fun q e => (nw_ q e).imp id (fun h => Nat.le_trans SZ_ h)
            refine wp_app (.tmp 44) (.tmp 46) (by rfl) (by rfl) (by rfl) (by rfl) AP_ ?_
            refine hK.out _ _ (.inr (R0.cg CG)) (fun hS => ?_)
            clear hK K
            try simp only [List.getElem_toArray, List.getElem_cons_zero, List.getElem_cons_succ, Act.put, List.setIfInBounds_toArray, List.set_cons_zero, List.set_cons_succ]
            clear hSb
            refine till_uno (i := 22) (by kernel_rfl) ?_
            · refine ⟨_, rfl, fun K hK => ?_⟩
              simp only [List.getElem_toArray, List.getElem_cons_zero, List.getElem_cons_succ]
              rw [if_pos (by rfl)]
              have SZ_ : wd.heap.size ≤ W46.heap.size := R0.ch.size
              obtain ⟨a22, c22, W47, ap_, on_, gr_, nw_⟩ := app_one Tryd.underlying61 info3 rfl (by decide) O22 (cs := [.int .i64 0]) Kp21 rfl (by simp [Value.oneCell']) (by omega) (by unfold maxLen; omega) (Nat.le_trans hB R0.ch.size)
              have AP_ : Hid ((Builtin.append_ #[61, 61] 61 #[.slice ca N cc, .slice (some ⟨p21, 0, none⟩) 1 1]).run Tryd.prog W46 = .ok (.slice a22 (N + 1) c22) W47) := ap_
              have O9 : W47.ownsRow B 34 2 (.slice a9 (N + 1) c9) (N + 1) (xb ++ [.int .i64 r, .int .i64 n]) := rown_bel O9 (fun q e => gr_.block q (O9.lt q e).2 (fun e2 => rown_ne O9 O22 (by decide) e (by rw [ownBlock_slice]; exact e2.symm)))
              have O16 : W47.ownsRow B 35 1 (.slice a16 (N + 1) c16) (N + 1) (xl ++ [.slice ll lm lk]) := rown_bel O16 (fun q e => gr_.block q (O16.lt q e).2 (fun e2 => rown_ne O16 O22 (by decide) e (by rw [ownBlock_slice]; exact e2.symm)))
              have Kp8 := (gr_.block p8 (Array.getElem?_eq_some_iff.1 Kp8).1 (fun e => by have h1 := LT.lca p8 e.symm; omega)).trans Kp8
              have Kp15 := (gr_.block p15 (Array.getElem?_eq_some_iff.1 Kp15).1 (fun e => by have h1 := LT.lca p15 e.symm; omega)).trans Kp15
              have Kp21 := (gr_.block p21 (Array.getElem?_eq_some_iff.1 Kp21).1 (fun e => by have h1 := LT.lca p21 e.symm; omega)).trans Kp21
              have R0 := R0.grow gr_ (fun q e => ⟨LT.Sca q e, LT.lca q e, LT.gca q e, LT.bca q e⟩)
              have O22 := on_
              have N22 : ∀ q, blkOf a22 = some q → blkOf ca = some q ∨ wd.heap.size ≤ q := fun q e => (nw_ q e).imp id (fun h => Nat.le_trans SZ_ h)
              refine wp_app (.tmp 51) (.tmp 52) (by rfl) (by rfl) (by rfl) (by rfl) AP_ ?_
              refine hK.out _ _ (.inr (R0.cg CG)) (fun hSb => ?_)
              clear hK K
              try simp only [List.getElem_toArray, List.getElem_cons_zero, List.getElem_cons_succ, Act.put, List.setIfInBounds_toArray, List.set_cons_zero, List.set_cons_succ]
              clear hS
              obtain ⟨V1, V2, V3, HV1, HV2, HV3, c0_, f0_, c1_, f1_, c2_, f2_, FIN⟩ := R0.fin (ba' := a9) (bc' := c9) (la' := a16) (lc' := c16) (ca' := a22) (cc' := c22) CG O9 O16 O22 N9 N16 N22
              refine till_take (i := 23) (v := .pointer (some ⟨gg, 0, none⟩)) rfl (by kernel_rfl) (by kernel_rfl) (by kernel_rfl) (fun _ _ _ h => hQp _ _ _ _ _ h) (fun L w => tillP_set (by decide)) (Or.inl ⟨by rfl, fun w => by go_simp⟩) hSb (fun hS => ?_)
              simp only [List.getElem_toArray, List.getElem_cons_zero, List.getElem_cons_succ, Act.put, List.setIfInBounds_toArray, List.set_cons_zero, List.set_cons_succ]
              clear hSb
              refine till_take (i := 24) (v := .pointer (some ⟨gg, 0, none⟩)) rfl (by kernel_rfl) (by kernel_rfl) (by kernel_rfl) (fun _ _ _ h => hQp _ _ _ _ _ h) (fun L w => tillP_set (by decide)) (Or.inl ⟨by rfl, fun w => by go_simp⟩) hS (fun hSb => ?_)
              simp only [List.getElem_toArray, List.getElem_cons_zero, List.getElem_cons_succ, Act.put, List.setIfInBounds_toArray, List.set_cons_zero, List.set_cons_succ]
              clear hS
              refine till_one (i := 25) (by kernel_rfl) rfl (fun K hK => ?_)
              simp only [List.getElem_toArray, List.getElem_cons_zero, List.getElem_cons_succ]
              rw [if_pos (by rfl)]
              go_simp
              rw [HV1.out]
              refine hK.out _ _ (.inl (by rfl)) (fun hS => ?_)
              clear hK K
              try simp only [List.getElem_toArray, List.getElem_cons_zero, List.getElem_cons_succ, Act.put, List.setIfInBounds_toArray, List.set_cons_zero, List.set_cons_succ]
              clear hSb
              refine till_take (i := 26) (v := .pointer (some ⟨gg, 0, none⟩)) rfl (by kernel_rfl) (by kernel_rfl) (by kernel_rfl) (fun _ _ _ h => hQp _ _ _ _ _ h) (fun L w => tillP_set (by decide)) (Or.inl ⟨by rfl, fun w => by go_simp⟩) hS (fun hSb => ?_)
              simp only [List.getElem_toArray, List.getElem_cons_zero, List.getElem_cons_succ, Act.put, List.setIfInBounds_toArray, List.set_cons_zero, List.set_cons_succ]
              clear hS
              refine till_take (i := 27) (v := .pointer (some ⟨gg, 1, none⟩)) rfl (by kernel_rfl) (by kernel_rfl) (by kernel_rfl) (fun _ _ _ h => hQp _ _ _ _ _ h) (fun L w => tillP_set (by decide)) (Or.inl ⟨by rfl, fun w => by go_simp⟩) hSb (fun hS => ?_)
              simp only [List.getElem_toArray, List.getElem_cons_zero, List.getElem_cons_succ, Act.put, List.setIfInBounds_toArray, List.set_cons_zero, List.set_cons_succ]
              clear hSb
              refine till_one (i := 28) (by kernel_rfl) rfl (fun K hK => ?_)
              simp only [List.getElem_toArray, List.getElem_cons_zero, List.getElem_cons_succ]
              rw [if_pos (by rfl)]
              go_simp
              rw [HV2.out]
              refine hK.out _ _ (.inl (by rfl)) (fun hSb => ?_)
              clear hK K
              try simp only [List.getElem_toArray, List.getElem_cons_zero, List.getElem_cons_succ, Act.put, List.setIfInBounds_toArray, List.set_cons_zero, List.set_cons_succ]
              clear hS
              refine till_take (i := 29) (v := .pointer (some ⟨gg, 0, none⟩)) rfl (by kernel_rfl) (by kernel_rfl) (by kernel_rfl) (fun _ _ _ h => hQp _ _ _ _ _ h) (fun L w => tillP_set (by decide)) (Or.inl ⟨by rfl, fun w => by go_simp⟩) hSb (fun hS => ?_)
              simp only [List.getElem_toArray, List.getElem_cons_zero, List.getElem_cons_succ, Act.put, List.setIfInBounds_toArray, List.set_cons_zero, List.set_cons_succ]
              clear hSb
              refine till_take (i := 30) (v := .pointer (some ⟨gg, 2, none⟩)) rfl (by kernel_rfl) (by kernel_rfl) (by kernel_rfl) (fun _ _ _ h => hQp _ _ _ _ _ h) (fun L w => tillP_set (by decide)) (Or.inl ⟨by rfl, fun w => by go_simp⟩) hS (fun hSb => ?_)
              simp only [List.getElem_toArray, List.getElem_cons_zero, List.getElem_cons_succ, Act.put, List.setIfInBounds_toArray, List.set_cons_zero, List.set_cons_succ]
              clear hS
              refine till_one (i := 31) (by kernel_rfl) rfl (fun K hK => ?_)
              simp only [List.getElem_toArray, List.getElem_cons_zero, List.getElem_cons_succ]
              rw [if_pos (by rfl)]
              go_simp
              rw [HV3.out]
              refine hK.out _ _ (.inl (by rfl)) (fun hS => ?_)
              clear hK K
              try simp only [List.getElem_toArray, List.getElem_cons_zero, List.getElem_cons_succ, Act.put, List.setIfInBounds_toArray, List.set_cons_zero, List.set_cons_succ]
              clear hSb
              refine till_done (by kernel_rfl) ?_ _
              exact hQ V3 a9 c9 a16 c16 a22 c22 p8 p15 p21 FIN
    · refine ⟨_, rfl, fun K hK => ?_⟩
      simp only [List.getElem_toArray, List.getElem_cons_zero, List.getElem_cons_succ]
      rw [if_pos (by rfl)]
      go_simp
      obtain ⟨p21, Hp21⟩ : ∃ p21, Hid (W35.heap.size = p21) := ⟨_, rfl⟩
      obtain ⟨W48, HW48⟩ : ∃ W48, Hid (W35.alloc (.cells #[.int .i64 0] 3) = W48) := ⟨_, rfl⟩
      have b_ : Below W35.heap.size W35 W48 := by rw [← HW48.out]; exact alloc1 _ _
      have Kp21 : W48.heap[p21]? = some (.cells #[.int .i64 0] 3 (0, 0)) := by rw [← HW48.out, ← Hp21.out]; exact heap_alloc_new _ _
      have Lp21 : wd.heap.size ≤ p21 := by rw [← Hp21.out]; exact R0.ch.size
      have O9 : W48.ownsRow B 34 2 (.slice ba N bc) N xb := rown_bel O9 (fun q e => b_.block q (O9.lt q e).2)
      have O16 : W48.ownsRow B 35 1 (.slice la N lc) N xl := rown_bel O16 (fun q e => b_.block q (O16.lt q e).2)
      have O22 : W48.ownsRow B 3 1 (.slice ca N cc) N xc := rown_bel O22 (fun q e => b_.block q (O22.lt q e).2)
      have Kp15 := (b_.block p15 (Array.getElem?_eq_some_iff.1 Kp15).1).trans Kp15
      have R0 := R0.bel b_
      rw [HW48.out, Hp21.out]
      refine hK.out _ _ (.inr (R0.cg CG)) (fun hSb => ?_)
      clear hK K
      try simp only [List.getElem_toArray, List.getElem_cons_zero, List.getElem_cons_succ, Act.put, List.setIfInBounds_toArray, List.set_cons_zero, List.set_cons_succ]
      clear hS
      refine till_uno (i := 8) (by kernel_rfl) ?_
      · refine ⟨_, rfl, fun K hK => ?_⟩
        simp only [List.getElem_toArray, List.getElem_cons_zero, List.getElem_cons_succ]
        rw [if_pos (by rfl)]
        go_simp
        obtain ⟨p8, Hp8⟩ : ∃ p8, Hid (W48.heap.size = p8) := ⟨_, rfl⟩
        obtain ⟨W49, HW49⟩ : ∃ W49, Hid (W48.alloc (.cells #[.int .i64 r, .int .i64 n] 34) = W49) := ⟨_, rfl⟩
        have b_ : Below W48.heap.size W48 W49 := by rw [← HW49.out]; exact alloc1 _ _
        have Kp8 : W49.heap[p8]? = some (.cells #[.int .i64 r, .int .i64 n] 34 (0, 0)) := by rw [← HW49.out, ← Hp8.out]; exact heap_alloc_new _ _
        have Lp8 : wd.heap.size ≤ p8 := by rw [← Hp8.out]; exact R0.ch.size
        have O9 : W49.ownsRow B 34 2 (.slice ba N bc) N xb := rown_bel O9 (fun q e => b_.block q (O9.lt q e).2)
        have O16 : W49.ownsRow B 35 1 (.slice la N lc) N xl := rown_bel O16 (fun q e => b_.block q (O16.lt q e).2)
        have O22 : W49.ownsRow B 3 1 (.slice ca N cc) N xc := rown_bel O22 (fun q e => b_.block q (O22.lt q e).2)
        have Kp15 := (b_.block p15 (Array.getElem?_eq_some_iff.1 Kp15).1).trans Kp15
        have Kp21 := (b_.block p21 (Array.getElem?_eq_some_iff.1 Kp21).1).trans Kp21
        have R0 := R0.bel b_
        rw [HW49.out, Hp8.out]
        refine hK.out _ _ (.inr (R0.cg CG)) (fun hS => ?_)
        clear hK K
        try simp only [List.getElem_toArray, List.getElem_cons_zero, List.getElem_cons_succ, Act.put, List.setIfInBounds_toArray, List.set_cons_zero, List.set_cons_succ]
        clear hSb
        refine till_uno (i := 9) (by kernel_rfl) ?_
        · refine ⟨_, rfl, fun K hK => ?_⟩
          simp only [List.getElem_toArray, List.getElem_cons_zero, List.getElem_cons_succ]
          rw [if_pos (by rfl)]
          have SZ_ : wd.heap.size ≤ W49.heap.size := R0.ch.size
          obtain ⟨a9, c9, W50, ap_, on_, gr_, nw_⟩ := app_one Tryd.underlying59 info34 rfl (by decide) O9 (cs := [.int .i64 r, .int .i64 n]) Kp8 rfl (by simp [Value.oneCell']) (by omega) (by unfold maxLen; omega) (Nat.le_trans hB R0.ch.size)
          have AP_ : Hid ((Builtin.append_ #[59, 59] 59 #[.slice ba N bc, .slice (some ⟨p8, 0, none⟩) 1 1]).run Tryd.prog W49 = .ok (.slice a9 (N + 1) c9) W50) := ap_
          have O16 : W50.ownsRow B 35 1 (.slice la N lc) N xl := rown_bel O16 (fun q e => gr_.block q (O16.lt q e).2 (fun e2 => rown_ne O16 O9 (by decide) e (by rw [ownBlock_slice]; exact e2.symm)))
          have O22 : W50.ownsRow B 3 1 (.slice ca N cc) N xc := rown_bel O22 (fun q e => gr_.block q (O22.lt q e).2 (fun e2 => rown_ne O22 O9 (by decide) e (by rw [ownBlock_slice]; exact e2.symm)))
          have Kp8 := (gr_.block p8 (Array.getElem?_eq_some_iff.1 Kp8).1 (fun e => by have h1 := LT.lba p8 e.symm; omega)).trans Kp8
          have Kp15 := (gr_.block p15 (Array.getElem?_eq_some_iff.1 Kp15).1 (fun e => by have h1 := LT.lba p15 e.symm; omega)).trans Kp15
          have Kp21 := (gr_.block p21 (Array.getElem?_eq_some_iff.1 Kp21).1 (fun e => by have h1 := LT.lba p21 e.symm; omega)).trans Kp21
          have R0 := R0.grow gr_ (fun q e => ⟨LT.Sba q e, LT.lba q e, LT.gba q e, LT.bba q e⟩)
          have O9 := on_
          have N9 : ∀ q, blkOf a9 = some q → blkOf ba = some q ∨ wd.heap.size ≤ q := fun q e => (nw_ q e).imp id (fun h => Nat.le_trans SZ_ h)
          refine wp_app (.tmp 37) (.tmp 39) (by rfl) (by rfl) (by rfl) (by rfl) AP_ ?_
          refine hK.out _ _ (.inr (R0.cg CG)) (fun hSb => ?_)
          clear hK K
          try simp only [List.getElem_toArray, List.getElem_cons_zero, List.getElem_cons_succ, Act.put, List.setIfInBounds_toArray, List.set_cons_zero, List.set_cons_succ]
          clear hS
          refine till_uno (i := 16) (by kernel_rfl) ?_
          · refine ⟨_, rfl, fun K hK => ?_⟩
            simp only [List.getElem_toArray, List.getElem_cons_zero, List.getElem_cons_succ]
            rw [if_pos (by rfl)]
            have SZ_ : wd.heap.size ≤ W50.heap.size := R0.ch.size
            obtain ⟨a16, c16, W51, ap_, on_, gr_, nw_⟩ := app_one Tryd.underlying60 info35 rfl (by decide) O16 (cs := [.slice ll lm lk]) Kp15 rfl (by simp [Value.oneCell']) (by omega) (by unfold maxLen; omega) (Nat.le_trans hB R0.ch.size)
            have AP_ : Hid ((Builtin.append_ #[60, 60] 60 #[.slice la N lc, .slice (some ⟨p15, 0, none⟩) 1 1]).run Tryd.prog W50 = .ok (.slice a16 (N + 1) c16) W51) := ap_
            have O9 : W51.ownsRow B 34 2 (.slice a9 (N + 1) c9) (N + 1) (xb ++ [.int .i64 r, .int .i64 n]) := rown_bel O9 (fun q e => gr_.block q (O9.lt q e).2 (fun e2 => rown_ne O9 O16 (by decide) e (by rw [ownBlock_slice]; exact e2.symm)))
            have O22 : W51.ownsRow B 3 1 (.slice ca N cc) N xc := rown_bel O22 (fun q e => gr_.block q (O22.lt q e).2 (fun e2 => rown_ne O22 O16 (by decide) e (by rw [ownBlock_slice]; exact e2.symm)))
            have Kp8 := (gr_.block p8 (Array.getElem?_eq_some_iff.1 Kp8).1 (fun e => by have h1 := LT.lla p8 e.symm; omega)).trans Kp8
            have Kp15 := (gr_.block p15 (Array.getElem?_eq_some_iff.1 Kp15).1 (fun e => by have h1 := LT.lla p15 e.symm; omega)).trans Kp15
            have Kp21 := (gr_.block p21 (Array.getElem?_eq_some_iff.1 Kp21).1 (fun e => by have h1 := LT.lla p21 e.symm; omega)).trans Kp21
            have R0 := R0.grow gr_ (fun q e => ⟨LT.Sla q e, LT.lla q e, LT.gla q e, LT.bla q e⟩)
            have O16 := on_
            have N16 : ∀ q, blkOf a16 = some q → blkOf la = some q ∨ wd.heap.size ≤ q := fun q e => (nw_ q e).imp id (fun h => Nat.le_trans SZ_ h)
            refine wp_app (.tmp 44) (.tmp 46) (by rfl) (by rfl) (by rfl) (by rfl) AP_ ?_
            refine hK.out _ _ (.inr (R0.cg CG)) (fun hS => ?_)
            clear hK K
            try simp only [List.getElem_toArray, List.getElem_cons_zero, List.getElem_cons_succ, Act.put, List.setIfInBounds_toArray, List.set_cons_zero, List.set_cons_succ]
            clear hSb
            refine till_uno (i := 22) (by kernel_rfl) ?_
            · refine ⟨_, rfl, fun K hK => ?_⟩
              simp only [List.getElem_toArray, List.getElem_cons_zero, List.getElem_cons_succ]
              rw [if_pos (by rfl)]
              have SZ_ : wd.heap.size ≤ W51.heap.size := R0.ch.size
              obtain ⟨a22, c22, W52, ap_, on_, gr_, nw_⟩ := app_one Tryd.underlying61 info3 rfl (by decide) O22 (cs := [.int .i64 0]) Kp21 rfl (by simp [Value.oneCell']) (by omega) (by unfold maxLen; omega) (Nat.le_trans hB R0.ch.size)
              have AP_ : Hid ((Builtin.append_ #[61, 61] 61 #[.slice ca N cc, .slice (some ⟨p21, 0, none⟩) 1 1]).run Tryd.prog W51 = .ok (.slice a22 (N + 1) c22) W52) := ap_
              have O9 : W52.ownsRow B 34 2 (.slice a9 (N + 1) c9) (N + 1) (xb ++ [.int .i64 r, .int .i64 n]) := rown_bel O9 (fun q e => gr_.block q (O9.lt q e).2 (fun e2 => rown_ne O9 O22 (by decide) e (by rw [ownBlock_slice]; exact e2.symm)))
              have O16 : W52.ownsRow B 35 1 (.slice a16 (N + 1) c16) (N + 1) (xl ++ [.slice ll lm lk]) := rown_bel O16 (fun q e => gr_.block q (O16.lt q e).2 (fun e2 => rown_ne O16 O22 (by decide) e (by rw [ownBlock_slice]; exact e2.symm)))
              have Kp8 := (gr_.block p8 (Array.getElem?_eq_some_iff.1 Kp8).1 (fun e => by have h1 := LT.lca p8 e.symm; omega)).trans Kp8
              have Kp15 := (gr_.block p15 (Array.getElem?_eq_some_iff.1 Kp15).1 (fun e => by have h1 := LT.lca p15 e.symm; omega)).trans Kp15
              have Kp21 := (gr_.block p21 (Array.getElem?_eq_some_iff.1 Kp21).1 (fun e => by have h1 := LT.lca p21 e.symm; omega)).trans Kp21
              have R0 := R0.grow gr_ (fun q e => ⟨LT.Sca q e, LT.lca q e, LT.gca q e, LT.bca q e⟩)
              have O22 := on_
              have N22 : ∀ q, blkOf a22 = some q → blkOf ca = some q ∨ wd.heap.size ≤ q := fun q e => (nw_ q e).imp id (fun h => Nat.le_trans SZ_ h)
              refine wp_app (.tmp 51) (.tmp 52) (by rfl) (by rfl) (by rfl) (by rfl) AP_ ?_
              refine hK.out _ _ (.inr (R0.cg CG)) (fun hSb => ?_)
              clear hK K
              try simp only [List.getElem_toArray, List.getElem_cons_zero, List.getElem_cons_succ, Act.put, List.setIfInBounds_toArray, List.set_cons_zero, List.set_cons_succ]
              clear hS
              obtain ⟨V1, V2, V3, HV1, HV2, HV3, c0_, f0_, c1_, f1_, c2_, f2_, FIN⟩ := R0.fin (ba' := a9) (bc' := c9) (la' := a16) (lc' := c16) (ca' := a22) (cc' := c22) CG O9 O16 O22 N9 N16 N22
              refine till_take (i := 23) (v := .pointer (some ⟨gg, 0, none⟩)) rfl (by kernel_rfl) (by kernel_rfl) (by kernel_rfl) (fun _ _ _ h => hQp _ _ _ _ _ h) (fun L w => tillP_set (by decide)) (Or.inl ⟨by rfl, fun w => by go_simp⟩) hSb (fun hS => ?_)
              simp only [List.getElem_toArray, List.getElem_cons_zero, List.getElem_cons_succ, Act.put, List.setIfInBounds_toArray, List.set_cons_zero, List.set_cons_succ]
              clear hSb
              refine till_take (i := 24) (v := .pointer (some ⟨gg, 0, none⟩)) rfl (by kernel_rfl) (by kernel_rfl) (by kernel_rfl) (fun _ _ _ h => hQp _ _ _ _ _ h) (fun L w => tillP_set (by decide)) (Or.inl ⟨by rfl, fun w => by go_simp⟩) hS (fun hSb => ?_)
              simp only [List.getElem_toArray, List.getElem_cons_zero, List.getElem_cons_succ, Act.put, List.setIfInBounds_toArray, List.set_cons_zero, List.set_cons_succ]
              clear hS
              refine till_one (i := 25) (by kernel_rfl) rfl (fun K hK => ?_)
              simp only [List.getElem_toArray, List.getElem_cons_zero, List.getElem_cons_succ]
              rw [if_pos (by rfl)]
              go_simp
              rw [HV1.out]
              refine hK.out _ _ (.inl (by rfl)) (fun hS => ?_)
              clear hK K
              try simp only [List.getElem_toArray, List.getElem_cons_zero, List.getElem_cons_succ, Act.put, List.setIfInBounds_toArray, List.set_cons_zero, List.set_cons_succ]
              clear hSb
              refine till_take (i := 26) (v := .pointer (some ⟨gg, 0, none⟩)) rfl (by kernel_rfl) (by kernel_rfl) (by kernel_rfl) (fun _ _ _ h => hQp _ _ _ _ _ h) (fun L w => tillP_set (by decide)) (Or.inl ⟨by rfl, fun w => by go_simp⟩) hS (fun hSb => ?_)
              simp only [List.getElem_toArray, List.getElem_cons_zero, List.getElem_cons_succ, Act.put, List.setIfInBounds_toArray, List.set_cons_zero, List.set_cons_succ]
              clear hS
              refine till_take (i := 27) (v := .pointer (some ⟨gg, 1, none⟩)) rfl (by kernel_rfl) (by kernel_rfl) (by kernel_rfl) (fun _ _ _ h => hQp _ _ _ _ _ h) (fun L w => tillP_set (by decide)) (Or.inl ⟨by rfl, fun w => by go_simp⟩) hSb (fun hS => ?_)
              simp only [List.getElem_toArray, List.getElem_cons_zero, List.getElem_cons_succ, Act.put, List.setIfInBounds_toArray, List.set_cons_zero, List.set_cons_succ]
              clear hSb
              refine till_one (i := 28) (by kernel_rfl) rfl (fun K hK => ?_)
              simp only [List.getElem_toArray, List.getElem_cons_zero, List.getElem_cons_succ]
              rw [if_pos (by rfl)]
              go_simp
              rw [HV2.out]
              refine hK.out _ _ (.inl (by rfl)) (fun hSb => ?_)
              clear hK K
              try simp only [List.getElem_toArray, List.getElem_cons_zero, List.getElem_cons_succ, Act.put, List.setIfInBounds_toArray, List.set_cons_zero, List.set_cons_succ]
              clear hS
              refine till_take (i := 29) (v := .pointer (some ⟨gg, 0, none⟩)) rfl (by kernel_rfl) (by kernel_rfl) (by kernel_rfl) (fun _ _ _ h => hQp _ _ _ _ _ h) (fun L w => tillP_set (by decide)) (Or.inl ⟨by rfl, fun w => by go_simp⟩) hSb (fun hS => ?_)
              simp only [List.getElem_toArray, List.getElem_cons_zero, List.getElem_cons_succ, Act.put, List.setIfInBounds_toArray, List.set_cons_zero, List.set_cons_succ]
              clear hSb
              refine till_take (i := 30) (v := .pointer (some ⟨gg, 2, none⟩)) rfl (by kernel_rfl) (by kernel_rfl) (by kernel_rfl) (fun _ _ _ h => hQp _ _ _ _ _ h) (fun L w => tillP_set (by decide)) (Or.inl ⟨by rfl, fun w => by go_simp⟩) hS (fun hSb => ?_)
              simp only [List.getElem_toArray, List.getElem_cons_zero, List.getElem_cons_succ, Act.put, List.setIfInBounds_toArray, List.set_cons_zero, List.set_cons_succ]
              clear hS
              refine till_one (i := 31) (by kernel_rfl) rfl (fun K hK => ?_)
              simp only [List.getElem_toArray, List.getElem_cons_zero, List.getElem_cons_succ]
              rw [if_pos (by rfl)]
              go_simp
              rw [HV3.out]
              refine hK.out _ _ (.inl (by rfl)) (fun hS => ?_)
              clear hK K
              try simp only [List.getElem_toArray, List.getElem_cons_zero, List.getElem_cons_succ, Act.put, List.setIfInBounds_toArray, List.set_cons_zero, List.set_cons_succ]
              clear hSb
              refine till_done (by kernel_rfl) ?_ _
              exact hQ V3 a9 c9 a16 c16 a22 c22 p8 p15 p21 FIN
  · refine ⟨_, rfl, fun K hK => ?_⟩
    simp only [List.getElem_toArray, List.getElem_cons_zero, List.getElem_cons_succ]
    rw [if_pos (by rfl)]
    go_simp
    obtain ⟨p21, Hp21⟩ : ∃ p21, Hid (wd.heap.size = p21) := ⟨_, rfl⟩
    obtain ⟨W53, HW53⟩ : ∃ W53, Hid (wd.alloc (.cells #[.int .i64 0] 3) = W53) := ⟨_, rfl⟩
    have b_ : Below wd.heap.size wd W53 := by rw [← HW53.out]; exact alloc1 _ _
    have Kp21 : W53.heap[p21]? = some (.cells #[.int .i64 0] 3 (0, 0)) := by rw [← HW53.out, ← Hp21.out]; exact heap_alloc_new _ _
    have Lp21 : wd.heap.size ≤ p21 := by rw [← Hp21.out]; exact R0.ch.size
    have O9 : W53.ownsRow B 34 2 (.slice ba N bc) N xb := rown_bel O9 (fun q e => b_.block q (O9.lt q e).2)
    have O16 : W53.ownsRow B 35 1 (.slice la N lc) N xl := rown_bel O16 (fun q e => b_.block q (O16.lt q e).2)
    have O22 : W53.ownsRow B 3 1 (.slice ca N cc) N xc := rown_bel O22 (fun q e => b_.block q (O22.lt q e).2)
    have R0 := R0.bel b_
    rw [HW53.out, Hp21.out]
    refine hK.out _ _ (.inr (R0.cg CG)) (fun hS => ?_)
    clear hK K
    try simp only [List.getElem_toArray, List.getElem_cons_zero, List.getElem_cons_succ, Act.put, List.setIfInBounds_toArray, List.set_cons_zero, List.set_cons_succ]
    clear hSb
    refine till_two (i := 8) (j := 15) (by kernel_rfl) ?_ ?_
    · refine ⟨_, rfl, fun K hK => ?_⟩
      simp only [List.getElem_toArray, List.getElem_cons_zero, List.getElem_cons_succ]
      rw [if_pos (by rfl)]
      go_simp
      obtain ⟨p8, Hp8⟩ : ∃ p8, Hid (W53.heap.size = p8) := ⟨_, rfl⟩
      obtain ⟨W54, HW54⟩ : ∃ W54, Hid (W53.alloc (.cells #[.int .i64 r, .int .i64 n] 34) = W54) := ⟨_, rfl⟩
      have b_ : Below W53.heap.size W53 W54 := by rw [← HW54.out]; exact alloc1 _ _
      have Kp8 : W54.heap[p8]? = some (.cells #[.int .i64 r, .int .i64 n] 34 (0, 0)) := by rw [← HW54.out, ← Hp8.out]; exact heap_alloc_new _ _
      have Lp8 : wd.heap.size ≤ p8 := by rw [← Hp8.out]; exact R0.ch.size
      have O9 : W54.ownsRow B 34 2 (.slice ba N bc) N xb := rown_bel O9 (fun q e => b_.block q (O9.lt q e).2)
      have O16 : W54.ownsRow B 35 1 (.slice la N lc) N xl := rown_bel O16 (fun q e => b_.block q (O16.lt q e).2)
      have O22 : W54.ownsRow B 3 1 (.slice ca N cc) N xc := rown_bel O22 (fun q e => b_.block q (O22.lt q e).2)
      have Kp21 := (b_.block p21 (Array.getElem?_eq_some_iff.1 Kp21).1).trans Kp21
      have R0 := R0.bel b_
      rw [HW54.out, Hp8.out]
      refine hK.out _ _ (.inr (R0.cg CG)) (fun hSb => ?_)
      clear hK K
      try simp only [List.getElem_toArray, List.getElem_cons_zero, List.getElem_cons_succ, Act.put, List.setIfInBounds_toArray, List.set_cons_zero, List.set_cons_succ]
      clear hS
      refine till_two (i := 9) (j := 15) (by kernel_rfl) ?_ ?_
      · refine ⟨_, rfl, fun K hK => ?_⟩
        simp only [List.getElem_toArray, List.getElem_cons_zero, List.getElem_cons_succ]
        rw [if_pos (by rfl)]
        have SZ_ : wd.heap.size ≤ W54.heap.size := R0.ch.size
        obtain ⟨a9, c9, W55, ap_, on_, gr_, nw_⟩ := app_one Tryd.underlying59 info34 rfl (by decide) O9 (cs := [.int .i64 r, .int .i64 n]) Kp8 rfl (by simp [Value.oneCell']) (by omega) (by unfold maxLen; omega) (Nat.le_trans hB R0.ch.size)
        have AP_ : Hid ((Builtin.append_ #[59, 59] 59 #[.slice ba N bc, .slice (some ⟨p8, 0, none⟩) 1 1]).run Tryd.prog W54 = .ok (.slice a9 (N + 1) c9) W55) := ap_
        have O16 : W55.ownsRow B 35 1 (.slice la N lc) N xl := rown_bel O16 (fun q e => gr_.block q (O16.lt q e).2 (fun e2 => rown_ne O16 O9 (by decide) e (by rw [ownBlock_slice]; exact e2.symm)))
        have O22 : W55.ownsRow B 3 1 (.slice ca N cc) N xc := rown_bel O22 (fun q e => gr_.block q (O22.lt q e).2 (fun e2 => rown_ne O22 O9 (by decide) e (by rw [ownBlock_slice]; exact e2.symm)))
        have Kp8 := (gr_.block p8 (Array.getElem?_eq_some_iff.1 Kp8).1 (fun e => by have h1 := LT.lba p8 e.symm; omega)).trans Kp8
        have Kp21 := (gr_.block p21 (Array.getElem?_eq_some_iff.1 Kp21).1 (fun e => by have h1 := LT.lba p21 e.symm; omega)).trans Kp21
        have R0 := R0.grow gr_ (fun q e => ⟨LT.Sba q e, LT.lba q e, LT.gba q e, LT.bba q e⟩)
        have O9 := on_
        have N9 : ∀ q, blkOf a9 = some q → blkOf ba = some q ∨ wd.heap.size ≤ q := fun q e => (nw_ q e).imp id (fun h => Nat.le_trans SZ_ h)
        refine wp_app (.tmp 37) (.tmp 39) (by rfl) (by rfl) (by rfl) (by rfl) AP_ ?_
        refine hK.out _ _ (.inr (R0.cg CG)) (fun hS => ?_)
        clear hK K
        try simp only [List.getElem_toArray, List.getElem_cons_zero, List.getElem_cons_succ, Act.put, List.setIfInBounds_toArray, List.set_cons_zero, List.set_cons_succ]
        clear hSb
        refine till_uno (i := 15) (by kernel_rfl) ?_
        · refine ⟨_, rfl, fun K hK => ?_⟩
          simp only [List.getElem_toArray, List.getElem_cons_zero, List.getElem_cons_succ]
          rw [if_pos (by rfl)]
          go_simp
          obtain ⟨p15, Hp15⟩ : ∃ p15, Hid (W55.heap.size = p15) := ⟨_, rfl⟩
          obtain ⟨W56, HW56⟩ : ∃ W56, Hid (W55.alloc (.cells #[.slice ll lm lk] 35) = W56) := ⟨_, rfl⟩
          have b_ : Below W55.heap.size W55 W56 := by rw [← HW56.out]; exact alloc1 _ _
          have Kp15 : W56.heap[p15]? = some (.cells #[.slice ll lm lk] 35 (0, 0)) := by rw [← HW56.out, ← Hp15.out]; exact heap_alloc_new _ _
          have Lp15 : wd.heap.size ≤ p15 := by rw [← Hp15.out]; exact R0.ch.size
          have O9 : W56.ownsRow B 34 2 (.slice a9 (N + 1) c9) (N + 1) (xb ++ [.int .i64 r, .int .i64 n]) := rown_bel O9 (fun q e => b_.block q (O9.lt q e).2)
          have O16 : W56.ownsRow B 35 1 (.slice la N lc) N xl := rown_bel O16 (fun q e => b_.block q (O16.lt q e).2)
          have O22 : W56.ownsRow B 3 1 (.slice ca N cc) N xc := rown_bel O22 (fun q e => b_.block q (O22.lt q e).2)
          have Kp8 := (b_.block p8 (Array.getElem?_eq_some_iff.1 Kp8).1).trans Kp8
          have Kp21 := (b_.block p21 (Array.getElem?_eq_some_iff.1 Kp21).1).trans Kp21
          have R0 := R0.bel b_
          rw [HW56.out, Hp15.out]
          refine hK.out _ _ (.inr (R0.cg CG)) (fun hSb => ?_)
          clear hK K
          try simp only [List.getElem_toArray, List.getElem_cons_zero, List.getElem_cons_succ, Act.put, List.setIfInBounds_toArray, List.set_cons_zero, List.set_cons_succ]
          clear hS
          refine till_uno (i := 16) (by kernel_rfl) ?_
          · refine ⟨_, rfl, fun K hK => ?_⟩
            simp only [List.getElem_toArray, List.getElem_cons_zero, List.getElem_cons_succ]
            rw [if_pos (by rfl)]
            have SZ_ : wd.heap.size ≤ W56.heap.size := R0.ch.size
            obtain ⟨a16, c16, W57, ap_, on_, gr_, nw_⟩ := app_one Tryd.underlying60 info35 rfl (by decide) O16 (cs := [.slice ll lm lk]) Kp15 rfl (by simp [Value.oneCell']) (by omega) (by unfold maxLen; omega) (Nat.le_trans hB R0.ch.size)
            have AP_ : Hid ((Builtin.append_ #[60, 60] 60 #[.slice la N lc, .slice (some ⟨p15, 0, none⟩) 1 1]).run Tryd.prog W56 = .ok (.slice a16 (N + 1) c16) W57) := ap_
            have O9 : W57.ownsRow B 34 2 (.slice a9 (N + 1) c9) (N + 1) (xb ++ [.int .i64 r, .int .i64 n]) := rown_bel O9 (fun q e => gr_.block q (O9.lt q e).2 (fun e2 => rown_ne O9 O16 (by decide) e (by rw [ownBlock_slice]; exact e2.symm)))
            have O22 : W57.ownsRow B 3 1 (.slice ca N cc) N xc := rown_bel O22 (fun q e => gr_.block q (O22.lt q e).2 (fun e2 => rown_ne O22 O16 (by decide) e (by rw [ownBlock_slice]; exact e2.symm)))
            have Kp8 := (gr_.block p8 (Array.getElem?_eq_some_iff.1 Kp8).1 (fun e => by have h1 := LT.lla p8 e.symm; omega)).trans Kp8
            have Kp15 := (gr_.block p15 (Array.getElem?_eq_some_iff.1 Kp15).1 (fun e => by have h1 := LT.lla p15 e.symm; omega)).trans Kp15
            have Kp21 := (gr_.block p21 (Array.getElem?_eq_some_iff.1 Kp21).1 (fun e => by have h1 := LT.lla p21 e.symm; omega)).trans Kp21
            have R0 := R0.grow gr_ (fun q e => ⟨LT.Sla q e, LT.lla q e, LT.gla q e, LT.bla q e⟩)
            have O16 := on_
            have N16 : ∀ q, blkOf a16 = some q → blkOf la = some q ∨ wd.heap.size ≤ q := fun q e => (nw_ q e).imp id (fun h => Nat.le_trans SZ_ h)
            refine wp_app (.tmp 44) (.tmp 46) (by rfl) (by rfl) (by rfl) (by rfl) AP_ ?_
            refine hK.out _ _ (.inr (R0.cg CG)) (fun hS => ?_)
            clear hK K
            try simp only [List.getElem_toArray, List.getElem_cons_zero, List.getElem_cons_succ, Act.put, List.setIfInBounds_toArray, List.set_cons_zero, List.set_cons_succ]
            clear hSb
            refine till_uno (i := 22) (by kernel_rfl) ?_
            · refine ⟨_, rfl, fun K hK => ?_⟩
              simp only [List.getElem_toArray, List.getElem_cons_zero, List.getElem_cons_succ]
              rw [if_pos (by rfl)]
              have SZ_ : wd.heap.size ≤ W57.heap.size := R0.ch.size
              obtain ⟨a22, c22, W58, ap_, on_, gr_, nw_⟩ := app_one Tryd.underlying61 info3 rfl (by decide) O22 (cs := [.int .i64 0]) Kp21 rfl (by simp [Value.oneCell']) (by omega) (by unfold maxLen; omega) (Nat.le_trans hB R0.ch.size)
              have AP_ : Hid ((Builtin.append_ #[61, 61] 61 #[.slice ca N cc, .slice (some ⟨p21, 0, none⟩) 1 1]).run Tryd.prog W57 = .ok (.slice a22 (N + 1) c22) W58) := ap_
              have O9 : W58.ownsRow B 34 2 (.slice a9 (N + 1) c9) (N + 1) (xb ++ [.int .i64 r, .int .i64 n]) := rown_bel O9 (fun q e => gr_.block q (O9.lt q e).2 (fun e2 => rown_ne O9 O22 (by decide) e (by rw [ownBlock_slice]; exact e2.symm)))
              have O16 : W58.ownsRow B 35 1 (.slice a16 (N + 1) c16) (N + 1) (xl ++ [.slice ll lm lk]) := rown_bel O16 (fun q e => gr_.block q (O16.lt q e).2 (fun e2 => rown_ne O16 O22 (by decide) e (by rw [ownBlock_slice]; exact e2.symm)))
              have Kp8 := (gr_.block p8 (Array.getElem?_eq_some_iff.1 Kp8).1 (fun e => by have h1 := LT.lca p8 e.symm; omega)).trans Kp8
              have Kp15 := (gr_.block p15 (Array.getElem?_eq_some_iff.1 Kp15).1 (fun e => by have h1 := LT.lca p15 e.symm; omega)).trans Kp15
              have Kp21 := (gr_.block p21 (Array.getElem?_eq_some_iff.1 Kp21).1 (fun e => by have h1 := LT.lca p21 e.symm; omega)).trans Kp21
              have R0 := R0.grow gr_ (fun q e => ⟨LT.Sca q e, LT.lca q e, LT.gca q e, LT.bca q e⟩)
              have O22 := on_
              have N22 : ∀ q, blkOf a22 = some q → blkOf ca = some q ∨ wd.heap.size ≤ q := fun q e => (nw_ q e).imp id (fun h => Nat.le_trans SZ_ h)
              refine wp_app (.tmp 51) (.tmp 52) (by rfl) (by rfl) (by rfl) (by rfl) AP_ ?_
              refine hK.out _ _ (.inr (R0.cg CG)) (fun hSb => ?_)
              clear hK K
              try simp only [List.getElem_toArray, List.getElem_cons_zero, List.getElem_cons_succ, Act.put, List.setIfInBounds_toArray, List.set_cons_zero, List.set_cons_succ]
              clear hS
              obtain ⟨V1, V2, V3, HV1, HV2, HV3, c0_, f0_, c1_, f1_, c2_, f2_, FIN⟩ := R0.fin (ba' := a9) (bc' := c9) (la' := a16) (lc' := c16) (ca' := a22) (cc' := c22) CG O9 O16 O22 N9 N16 N22
              refine till_take (i := 23) (v := .pointer (some ⟨gg, 0, none⟩)) rfl (by kernel_rfl) (by kernel_rfl) (by kernel_rfl) (fun _ _ _ h => hQp _ _ _ _ _ h) (fun L w => tillP_set (by decide)) (Or.inl ⟨by rfl, fun w => by go_simp⟩) hSb (fun hS => ?_)
              simp only [List.getElem_toArray, List.getElem_cons_zero, List.getElem_cons_succ, Act.put, List.setIfInBounds_toArray, List.set_cons_zero, List.set_cons_succ]
              clear hSb
              refine till_take (i := 24) (v := .pointer (some ⟨gg, 0, none⟩)) rfl (by kernel_rfl) (by kernel_rfl) (by kernel_rfl) (fun _ _ _ h => hQp _ _ _ _ _ h) (fun L w => tillP_set (by decide)) (Or.inl ⟨by rfl, fun w => by go_simp⟩) hS (fun hSb => ?_)
              simp only [List.getElem_toArray, List.getElem_cons_zero, List.getElem_cons_succ, Act.put, List.setIfInBounds_toArray, List.set_cons_zero, List.set_cons_succ]
              clear hS
              refine till_one (i := 25) (by kernel_rfl) rfl (fun K hK => ?_)
              simp only [List.getElem_toArray, List.getElem_cons_zero, List.getElem_cons_succ]
              rw [if_pos (by rfl)]
              go_simp
              rw [HV1.out]
              refine hK.out _ _ (.inl (by rfl)) (fun hS => ?_)
              clear hK K
              try simp only [List.getElem_toArray, List.getElem_cons_zero, List.getElem_cons_succ, Act.put, List.setIfInBounds_toArray, List.set_cons_zero, List.set_cons_succ]
              clear hSb
              refine till_take (i := 26) (v := .pointer (some ⟨gg, 0, none⟩)) rfl (by kernel_rfl) (by kernel_rfl) (by kernel_rfl) (fun _ _ _ h => hQp _ _ _ _ _ h) (fun L w => tillP_set (by decide)) (Or.inl ⟨by rfl, fun w => by go_simp⟩) hS (fun hSb => ?_)
              simp only [List.getElem_toArray, List.getElem_cons_zero, List.getElem_cons_succ, Act.put, List.setIfInBounds_toArray, List.set_cons_zero, List.set_cons_succ]
              clear hS
              refine till_take (i := 27) (v := .pointer (some ⟨gg, 1, none⟩)) rfl (by kernel_rfl) (by kernel_rfl) (by kernel_rfl) (fun _ _ _ h => hQp _ _ _ _ _ h) (fun L w => tillP_set (by decide)) (Or.inl ⟨by rfl, fun w => by go_simp⟩) hSb (fun hS => ?_)
              simp only [List.getElem_toArray, List.getElem_cons_zero, List.getElem_cons_succ, Act.put, List.setIfInBounds_toArray, List.set_cons_zero, List.set_cons_succ]
              clear hSb
              refine till_one (i := 28) (by kernel_rfl) rfl (fun K hK => ?_)
              simp only [List.getElem_toArray, List.getElem_cons_zero, List.getElem_cons_succ]
              rw [if_pos (by rfl)]
              go_simp
              rw [HV2.out]
              refine hK.out _ _ (.inl (by rfl)) (fun hSb => ?_)
              clear hK K
              try simp only [List.getElem_toArray, List.getElem_cons_zero, List.getElem_cons_succ, Act.put, List.setIfInBounds_toArray, List.set_cons_zero, List.set_cons_succ]
              clear hS
              refine till_take (i := 29) (v := .pointer (some ⟨gg, 0, none⟩)) rfl (by kernel_rfl) (by kernel_rfl) (by kernel_rfl) (fun _ _ _ h => hQp _ _ _ _ _ h) (fun L w => tillP_set (by decide)) (Or.inl ⟨by rfl, fun w => by go_simp⟩) hSb (fun hS => ?_)
              simp only [List.getElem_toArray, List.getElem_cons_zero, List.getElem_cons_succ, Act.put, List.setIfInBounds_toArray, List.set_cons_zero, List.set_cons_succ]
              clear hSb
              refine till_take (i := 30) (v := .pointer (some ⟨gg, 2, none⟩)) rfl (by kernel_rfl) (by kernel_rfl) (by kernel_rfl) (fun _ _ _ h => hQp _ _ _ _ _ h) (fun L w => tillP_set (by decide)) (Or.inl ⟨by rfl, fun w => by go_simp⟩) hS (fun hSb => ?_)
              simp only [List.getElem_toArray, List.getElem_cons_zero, List.getElem_cons_succ, Act.put, List.setIfInBounds_toArray, List.set_cons_zero, List.set_cons_succ]
              clear hS
              refine till_one (i := 31) (by kernel_rfl) rfl (fun K hK => ?_)
              simp only [List.getElem_toArray, List.getElem_cons_zero, List.getElem_cons_succ]
              rw [if_pos (by rfl)]
              go_simp
              rw [HV3.out]
              refine hK.out _ _ (.inl (by rfl)) (fun hS => ?_)
              clear hK K
              try simp only [List.getElem_toArray, List.getElem_cons_zero, List.getElem_cons_succ, Act.put, List.setIfInBounds_toArray, List.set_cons_zero, List.set_cons_succ]
              clear hSb
              refine till_done (by kernel_rfl) ?_ _
              exact hQ V3 a9 c9 a16 c16 a22 c22 p8 p15 p21 FIN
      · refine ⟨_, rfl, fun K hK => ?_⟩
        simp only [List.getElem_toArray, List.getElem_cons_zero, List.getElem_cons_succ]
        rw [if_pos (by rfl)]
        go_simp
        obtain ⟨p15, Hp15⟩ : ∃ p15, Hid (W54.heap.size = p15) := ⟨_, rfl⟩
        obtain ⟨W59, HW59⟩ : ∃ W59, Hid (W54.alloc (.cells #[.slice ll lm lk] 35) = W59) := ⟨_, rfl⟩
        have b_ : Below W54.heap.size W54 W59 := by rw [← HW59.out]; exact alloc1 _ _
        have Kp15 : W59.heap[p15]? = some (.cells #[.slice ll lm lk] 35 (0, 0)) := by rw [← HW59.out, ← Hp15.out]; exact heap_alloc_new _ _
        have Lp15 : wd.heap.size ≤ p15 := by rw [← Hp15.out]; exact R0.ch.size
        have O9 : W59.ownsRow B 34 2 (.slice ba N bc) N xb := rown_bel O9 (fun q e => b_.block q (O9.lt q e).2)
        have O16 : W59.ownsRow B 35 1 (.slice la N lc) N xl := rown_bel O16 (fun q e => b_.block q (O16.lt q e).2)
        have O22 : W59.ownsRow B 3 1 (.slice ca N cc) N xc := rown_bel O22 (fun q e => b_.block q (O22.lt q e).2)
        have Kp8 := (b_.block p8 (Array.getElem?_eq_some_iff.1 Kp8).1).trans Kp8
        have Kp21 := (b_.block p21 (Array.getElem?_eq_some_iff.1 Kp21).1).trans Kp21
        have R0 := R0.bel b_
        rw [HW59.out, Hp15.out]
        refine hK.out _ _ (.inr (R0.cg CG)) (fun hS => ?_)
        clear hK K
        try simp only [List.getElem_toArray, List.getElem_cons_zero, List.getElem_cons_succ, Act.put, List.setIfInBounds_toArray, List.set_cons_zero, List.set_cons_succ]
        clear hSb
        refine till_uno (i := 9) (by kernel_rfl) ?_
        · refine ⟨_, rfl, fun K hK => ?_⟩
          simp only [List.getElem_toArray, List.getElem_cons_zero, List.getElem_cons_succ]
          rw [if_pos (by rfl)]
          have SZ_ : wd.heap.size ≤ W59.heap.size := R0.ch.size
          obtain ⟨a9, c9, W60, ap_, on_, gr_, nw_⟩ := app_one Tryd.underlying59 info34 rfl (by decide) O9 (cs := [.int .i64 r, .int .i64 n]) Kp8 rfl (by simp [Value.oneCell']) (by omega) (by unfold maxLen; omega) (Nat.le_trans hB R0.ch.size)
          have AP_ : Hid ((Builtin.append_ #[59, 59] 59 #[.slice ba N bc, .slice (some ⟨p8, 0, none⟩) 1 1]).run Tryd.prog W59 = .ok (.slice a9 (N + 1) c9) W60) := ap_
          have O16 : W60.ownsRow B 35 1 (.slice la N lc) N xl := rown_bel O16 (fun q e => gr_.block q (O16.lt q e).2 (fun e2 => rown_ne O16 O9 (by decide) e (by rw [ownBlock_slice]; exact e2.symm)))
          have O22 : W60.ownsRow B 3 1 (.slice ca N cc) N xc := rown_bel O22 (fun q e => gr_.block q (O22.lt q e).2 (fun e2 => rown_ne O22 O9 (by decide) e (by rw [ownBlock_slice]; exact e2.symm)))
          have Kp8 := (gr_.block p8 (Array.getElem?_eq_some_iff.1 Kp8).1 (fun e => by have h1 := LT.lba p8 e.symm; omega)).trans Kp8
          have Kp15 := (gr_.block p15 (Array.getElem?_eq_some_iff.1 Kp15).1 (fun e => by have h1 := LT.lba p15 e.symm; omega)).trans Kp15
          have Kp21 := (gr_.block p21 (Array.getElem?_eq_some_iff.1 Kp21).1 (fun e => by have h1 := LT.lba p21 e.symm; omega)).trans Kp21
          have R0 := R0.grow gr_ (fun q e => ⟨LT.Sba q e, LT.lba q e, LT.gba q e, LT.bba q e⟩)
          have O9 := on_
          have N9 : ∀ q, blkOf a9 = some q → blkOf ba = some q ∨ wd.heap.size ≤ q := fun q e => (nw_ q e).imp id (fun h => Nat.le_trans SZ_ h)
          refine wp_app (.tmp 37) (.tmp 39) (by rfl) (by rfl) (by rfl) (by rfl) AP_ ?_
          refine hK.out _ _ (.inr (R0.cg CG)) (fun hSb => ?_)
          clear hK K
          try simp only [List.getElem_toArray, List.getElem_cons_zero, List.getElem_cons_succ, Act.put, List.setIfInBounds_toArray, List.set_cons_zero, List.set_cons_succ]
          clear hS
          refine till_uno (i := 16) (by kernel_rfl) ?_
          · refine ⟨_, rfl, fun K hK => ?_⟩
            simp only [List.getElem_toArray, List.getElem_cons_zero, List.getElem_cons_succ]
            rw [if_pos (by rfl)]
            have SZ_ : wd.heap.size ≤ W60.heap.size := R0.ch.size
            obtain ⟨a16, c16, W61, ap_, on_, gr_, nw_⟩ := app_one Tryd.underlying60 info35 rfl (by decide) O16 (cs := [.slice ll lm lk]) Kp15 rfl (by simp [Value.oneCell']) (by omega) (by unfold maxLen; omega) (Nat.le_trans hB R0.ch.size)
            have AP_ : Hid ((Builtin.append_ #[60, 60] 60 #[.slice la N lc, .slice (some ⟨p15, 0, none⟩) 1 1]).run Tryd.prog W60 = .ok (.slice a16 (N + 1) c16) W61) := ap_
            have O9 : W61.ownsRow B 34 2 (.slice a9 (N + 1) c9) (N + 1) (xb ++ [.int .i64 r, .int .i64 n]) := rown_bel O9 (fun q e => gr_.block q (O9.lt q e).2 (fun e2 => rown_ne O9 O16 (by decide) e (by rw [ownBlock_slice]; exact e2.symm)))
            have O22 : W61.ownsRow B 3 1 (.slice ca N cc) N xc := rown_bel O22 (fun q e => gr_.block q (O22.lt q e).2 (fun e2 => rown_ne O22 O16 (by decide) e (by rw [ownBlock_slice]; exact e2.symm)))
            have Kp8 := (gr_.block p8 (Array.getElem?_eq_some_iff.1 Kp8).1 (fun e => by have h1 := LT.lla p8 e.symm; omega)).trans Kp8
            have Kp15 := (gr_.block p15 (Array.getElem?_eq_some_iff.1 Kp15).1 (fun e => by have h1 := LT.lla p15 e.symm; omega)).trans Kp15
            have Kp21 := (gr_.block p21 (Array.getElem?_eq_some_iff.1 Kp21).1 (fun e => by have h1 := LT.lla p21 e.symm; omega)).trans Kp21
            have R0 := R0.grow gr_ (fun q e => ⟨LT.Sla q e, LT.lla q e, LT.gla q e, LT.bla q e⟩)
            have O16 := on_
            have N16 : ∀ q, blkOf a16 = some q → blkOf la = some q ∨ wd.heap.size ≤ q := fun q e => (nw_ q e).imp id (fun h => Nat.le_trans SZ_ h)
            refine wp_app (.tmp 44) (.tmp 46) (by rfl) (by rfl) (by rfl) (by rfl) AP_ ?_
            refine hK.out _ _ (.inr (R0.cg CG)) (fun hS => ?_)
            clear hK K
            try simp only [List.getElem_toArray, List.getElem_cons_zero, List.getElem_cons_succ, Act.put, List.setIfInBounds_toArray, List.set_cons_zero, List.set_cons_succ]
            clear hSb
            refine till_uno (i := 22) (by kernel_rfl) ?_
            · refine ⟨_, rfl, fun K hK => ?_⟩
              simp only [List.getElem_toArray, List.getElem_cons_zero, List.getElem_cons_succ]
              rw [if_pos (by rfl)]
              have SZ_ : wd.heap.size ≤ W61.heap.size := R0.ch.size
              obtain ⟨a22, c22, W62, ap_, on_, gr_, nw_⟩ := app_one Tryd.underlying61 info3 rfl (by decide) O22 (cs := [.int .i64 0]) Kp21 rfl (by simp [Value.oneCell']) (by omega) (by unfold maxLen; omega) (Nat.le_trans hB R0.ch.size)
              have AP_ : Hid ((Builtin.append_ #[61, 61] 61 #[.slice ca N cc, .slice (some ⟨p21, 0, none⟩) 1 1]).run Tryd.prog W61 = .ok (.slice a22 (N + 1) c22) W62) := ap_
              have O9 : W62.ownsRow B 34 2 (.slice a9 (N + 1) c9) (N + 1) (xb ++ [.int .i64 r, .int .i64 n]) := rown_bel O9 (fun q e => gr_.block q (O9.lt q e).2 (fun e2 => rown_ne O9 O22 (by decide) e (by rw [ownBlock_slice]; exact e2.symm)))
              have O16 : W62.ownsRow B 35 1 (.slice a16 (N + 1) c16) (N + 1) (xl ++ [.slice ll lm lk]) := rown_bel O16 (fun q e => gr_.block q (O16.lt q e).2 (fun e2 => rown_ne O16 O22 (by decide) e (by rw [ownBlock_slice]; exact e2.symm)))
              have Kp8 := (gr_.block p8 (Array.getElem?_eq_some_iff.1 Kp8).1 (fun e => by have h1 := LT.lca p8 e.symm; omega)).trans Kp8
              have Kp15 := (gr_.block p15 (Array.getElem?_eq_some_iff.1 Kp15).1 (fun e => by have h1 := LT.lca p15 e.symm; omega)).trans Kp15
              have Kp21 := (gr_.block p21 (Array.getElem?_eq_some_iff.1 Kp21).1 (fun e => by have h1 := LT.lca p21 e.symm; omega)).trans Kp21
              have R0 := R0.grow gr_ (fun q e => ⟨LT.Sca q e, LT.lca q e, LT.gca q e, LT.bca q e⟩)
              have O22 := on_
              have N22 : ∀ q, blkOf a22 = some q → blkOf ca = some q ∨ wd.heap.size ≤ q := fun q e => (nw_ q e).imp id (fun h => Nat.le_trans SZ_ h)
              refine wp_app (.tmp 51) (.tmp 52) (by rfl) (by rfl) (by rfl) (by rfl) AP_ ?_
              refine hK.out _ _ (.inr (R0.cg CG)) (fun hSb => ?_)
              clear hK K
              try simp only [List.getElem_toArray, List.getElem_cons_zero, List.getElem_cons_succ, Act.put, List.setIfInBounds_toArray, List.set_cons_zero, List.set_cons_succ]
              clear hS
              obtain ⟨V1, V2, V3, HV1, HV2, HV3, c0_, f0_, c1_, f1_, c2_, f2_, FIN⟩ := R0.fin (ba' := a9) (bc' := c9) (la' := a16) (lc' := c16) (ca' := a22) (cc' := c22) CG O9 O16 O22 N9 N16 N22
              refine till_take (i := 23) (v := .pointer (some ⟨gg, 0, none⟩)) rfl (by kernel_rfl) (by kernel_rfl) (by kernel_rfl) (fun _ _ _ h => hQp _ _ _ _ _ h) (fun L w => tillP_set (by decide)) (Or.inl ⟨by rfl, fun w => by go_simp⟩) hSb (fun hS => ?_)
              simp only [List.getElem_toArray, List.getElem_cons_zero, List.getElem_cons_succ, Act.put, List.setIfInBounds_toArray, List.set_cons_zero, List.set_cons_succ]
              clear hSb
              refine till_take (i := 24) (v := .pointer (some ⟨gg, 0, none⟩)) rfl (by kernel_rfl) (by kernel_rfl) (by kernel_rfl) (fun _ _ _ h => hQp _ _ _ _ _ h) (fun L w => tillP_set (by decide)) (Or.inl ⟨by rfl, fun w => by go_simp⟩) hS (fun hSb => ?_)
              simp only [List.getElem_toArray, List.getElem_cons_zero, List.getElem_cons_succ, Act.put, List.setIfInBounds_toArray, List.set_cons_zero, List.set_cons_succ]
              clear hS
              refine till_one (i := 25) (by kernel_rfl) rfl (fun K hK => ?_)
              simp only [List.getElem_toArray, List.getElem_cons_zero, List.getElem_cons_succ]
              rw [if_pos (by rfl)]
              go_simp
              rw [HV1.out]
              refine hK.out _ _ (.inl (by rfl)) (fun hS => ?_)
              clear hK K
              try simp only [List.getElem_toArray, List.getElem_cons_zero, List.getElem_cons_succ, Act.put, List.setIfInBounds_toArray, List.set_cons_zero, List.set_cons_succ]
              clear hSb
              refine till_take (i := 26) (v := .pointer (some ⟨gg, 0, none⟩)) rfl (by kernel_rfl) (by kernel_rfl) (by kernel_rfl) (fun _ _ _ h => hQp _ _ _ _ _ h) (fun L w => tillP_set (by decide)) (Or.inl ⟨by rfl, fun w => by go_simp⟩) hS (fun hSb => ?_)
              simp only [List.getElem_toArray, List.getElem_cons_zero, List.getElem_cons_succ, Act.put, List.setIfInBounds_toArray, List.set_cons_zero, List.set_cons_succ]
              clear hS
              refine till_take (i := 27) (v := .pointer (some ⟨gg, 1, none⟩)) rfl (by kernel_rfl) (by kernel_rfl) (by kernel_rfl) (fun _ _ _ h => hQp _ _ _ _ _ h) (fun L w => tillP_set (by decide)) (Or.inl ⟨by rfl, fun w => by go_simp⟩) hSb (fun hS => ?_)
              simp only [List.getElem_toArray, List.getElem_cons_zero, List.getElem_cons_succ, Act.put, List.setIfInBounds_toArray, List.set_cons_zero, List.set_cons_succ]
              clear hSb
              refine till_one (i := 28) (by kernel_rfl) rfl (fun K hK => ?_)
              simp only [List.getElem_toArray, List.getElem_cons_zero, List.getElem_cons_succ]
              rw [if_pos (by rfl)]
              go_simp
              rw [HV2.out]
              refine hK.out _ _ (.inl (by rfl)) (fun hSb => ?_)
              clear hK K
              try simp only [List.getElem_toArray, List.getElem_cons_zero, List.getElem_cons_succ, Act.put, List.setIfInBounds_toArray, List.set_cons_zero, List.set_cons_succ]
              clear hS
              refine till_take (i := 29) (v := .pointer (some ⟨gg, 0, none⟩)) rfl (by kernel_rfl) (by kernel_rfl) (by kernel_rfl) (fun _ _ _ h => hQp _ _ _ _ _ h) (fun L w => tillP_set (by decide)) (Or.inl ⟨by rfl, fun w => by go_simp⟩) hSb (fun hS => ?_)
              simp only [List.getElem_toArray, List.getElem_cons_zero, List.getElem_cons_succ, Act.put, List.setIfInBounds_toArray, List.set_cons_zero, List.set_cons_succ]
              clear hSb
              refine till_take (i := 30) (v := .pointer (some ⟨gg, 2, none⟩)) rfl (by kernel_rfl) (by kernel_rfl) (by kernel_rfl) (fun _ _ _ h => hQp _ _ _ _ _ h) (fun L w => tillP_set (by decide)) (Or.inl ⟨by rfl, fun w => by go_simp⟩) hS (fun hSb => ?_)
              simp only [List.getElem_toArray, List.getElem_cons_zero, List.getElem_cons_succ, Act.put, List.setIfInBounds_toArray, List.set_cons_zero, List.set_cons_succ]
              clear hS
              refine till_one (i := 31) (by kernel_rfl) rfl (fun K hK => ?_)
              simp only [List.getElem_toArray, List.getElem_cons_zero, List.getElem_cons_succ]
              rw [if_pos (by rfl)]
              go_simp
              rw [HV3.out]
              refine hK.out _ _ (.inl (by rfl)) (fun hS => ?_)
              clear hK K
              try simp only [List.getElem_toArray, List.getElem_cons_zero, List.getElem_cons_succ, Act.put, List.setIfInBounds_toArray, List.set_cons_zero, List.set_cons_succ]
              clear hSb
              refine till_done (by kernel_rfl) ?_ _
              exact hQ V3 a9 c9 a16 c16 a22 c22 p8 p15 p21 FIN
    · refine ⟨_, rfl, fun K hK => ?_⟩
      simp only [List.getElem_toArray, List.getElem_cons_zero, List.getElem_cons_succ]
      rw [if_pos (by rfl)]
      go_simp
      obtain ⟨p15, Hp15⟩ : ∃ p15, Hid (W53.heap.size = p15) := ⟨_, rfl⟩
      obtain ⟨W63, HW63⟩ : ∃ W63, Hid (W53.alloc (.cells #[.slice ll lm lk] 35) = W63) := ⟨_, rfl⟩
      have b_ : Below W53.heap.size W53 W63 := by rw [← HW63.out]; exact alloc1 _ _
      have Kp15 : W63.heap[p15]? = some (.cells #[.slice ll lm lk] 35 (0, 0)) := by rw [← HW63.out, ← Hp15.out]; exact heap_alloc_new _ _
      have Lp15 : wd.heap.size ≤ p15 := by rw [← Hp15.out]; exact R0.ch.size
      have O9 : W63.ownsRow B 34 2 (.slice ba N bc) N xb := rown_bel O9 (fun q e => b_.block q (O9.lt q e).2)
      have O16 : W63.ownsRow B 35 1 (.slice la N lc) N xl := rown_bel O16 (fun q e => b_.block q (O16.lt q e).2)
      have O22 : W63.ownsRow B 3 1 (.slice ca N cc) N xc := rown_bel O22 (fun q e => b_.block q (O22.lt q e).2)
      have Kp21 := (b_.block p21 (Array.getElem?_eq_some_iff.1 Kp21).1).trans Kp21
      have R0 := R0.bel b_
      rw [HW63.out, Hp15.out]
      refine hK.out _ _ (.inr (R0.cg CG)) (fun hSb => ?_)
      clear hK K
      try simp only [List.getElem_toArray, List.getElem_cons_zero, List.getElem_cons_succ, Act.put, List.setIfInBounds_toArray, List.set_cons_zero, List.set_cons_succ]
      clear hS
      refine till_uno (i := 8) (by kernel_rfl) ?_
      · refine ⟨_, rfl, fun K hK => ?_⟩
        simp only [List.getElem_toArray, List.getElem_cons_zero, List.getElem_cons_succ]
        rw [if_pos (by rfl)]
        go_simp
        obtain ⟨p8, Hp8⟩ : ∃ p8, Hid (W63.heap.size = p8) := ⟨_, rfl⟩
        obtain ⟨W64, HW64⟩ : ∃ W64, Hid (W63.alloc (.cells #[.int .i64 r, .int .i64 n] 34) = W64) := ⟨_, rfl⟩
        have b_ : Below W63.heap.size W63 W64 := by rw [← HW64.out]; exact alloc1 _ _
        have Kp8 : W64.heap[p8]? = some (.cells #[.int .i64 r, .int .i64 n] 34 (0, 0)) := by rw [← HW64.out, ← Hp8.out]; exact heap_alloc_new _ _
        have Lp8 : wd.heap.size ≤ p8 := by rw [← Hp8.out]; exact R0.ch.size
        have O9 : W64.ownsRow B 34 2 (.slice ba N bc) N xb := rown_bel O9 (fun q e => b_.block q (O9.lt q e).2)
        have O16 : W64.ownsRow B 35 1 (.slice la N lc) N xl := rown_bel O16 (fun q e => b_.block q (O16.lt q e).2)
        have O22 : W64.ownsRow B 3 1 (.slice ca N cc) N xc := rown_bel O22 (fun q e => b_.block q (O22.lt q e).2)
        have Kp15 := (b_.block p15 (Array.getElem?_eq_some_iff.1 Kp15).1).trans Kp15
        have Kp21 := (b_.block p21 (Array.getElem?_eq_some_iff.1 Kp21).1).trans Kp21
        have R0 := R0.bel b_
        rw [HW64.out, Hp8.out]
        refine hK.out _ _ (.inr (R0.cg CG)) (fun hS => ?_)
        clear hK K
        try simp only [List.getElem_toArray, List.getElem_cons_zero, List.getElem_cons_succ, Act.put, List.setIfInBounds_toArray, List.set_cons_zero, List.set_cons_succ]
        clear hSb
        refine till_uno (i := 9) (by kernel_rfl) ?_
        · refine ⟨_, rfl, fun K hK => ?_⟩
          simp only [List.getElem_toArray, List.getElem_cons_zero, List.getElem_cons_succ]
          rw [if_pos (by rfl)]
          have SZ_ : wd.heap.size ≤ W64.heap.size := R0.ch.size
          obtain ⟨a9, c9, W65, ap_, on_, gr_, nw_⟩ := app_one Tryd.underlying59 info34 rfl (by decide) O9 (cs := [.int .i64 r, .int .i64 n]) Kp8 rfl (by simp [Value.oneCell']) (by omega) (by unfold maxLen; omega) (Nat.le_trans hB R0.ch.size)
          have AP_ : Hid ((Builtin.append_ #[59, 59] 59 #[.slice ba N bc, .slice (some ⟨p8, 0, none⟩) 1 1]).run Tryd.prog W64 = .ok (.slice a9 (N + 1) c9) W65) := ap_
          have O16 : W65.ownsRow B 35 1 (.slice la N lc) N xl := rown_bel O16 (fun q e => gr_.block q (O16.lt q e).2 (fun e2 => rown_ne O16 O9 (by decide) e (by rw [ownBlock_slice]; exact e2.symm)))
          have O22 : W65.ownsRow B 3 1 (.slice ca N cc) N xc := rown_bel O22 (fun q e => gr_.block q (O22.lt q e).2 (fun e2 => rown_ne O22 O9 (by decide) e (by rw [ownBlock_slice]; exact e2.symm)))
          have Kp8 := (gr_.block p8 (Array.getElem?_eq_some_iff.1 Kp8).1 (fun e => by have h1 := LT.lba p8 e.symm; omega)).trans Kp8
          have Kp15 := (gr_.block p15 (Array.getElem?_eq_some_iff.1 Kp15).1 (fun e => by have h1 := LT.lba p15 e.symm; omega)).trans Kp15
          have Kp21 := (gr_.block p21 (Array.getElem?_eq_some_iff.1 Kp21).1 (fun e => by have h1 := LT.lba p21 e.symm; omega)).trans Kp21
          have R0 := R0.grow gr_ (fun q e => ⟨LT.Sba q e, LT.lba q e, LT.gba q e, LT.bba q e⟩)
          have O9 := on_
          have N9 : ∀ q, blkOf a9 = some q → blkOf ba = some q ∨ wd.heap.size ≤ q := fun q e => (nw_ q e).imp id (fun h => Nat.le_trans SZ_ h)
          refine wp_app (.tmp 37) (.tmp 39) (by rfl) (by rfl) (by rfl) (by rfl) AP_ ?_
          refine hK.out _ _ (.inr (R0.cg CG)) (fun hSb => ?_)
          clear hK K
          try simp only [List.getElem_toArray, List.getElem_cons_zero, List.getElem_cons_succ, Act.put, List.setIfInBounds_toArray, List.set_cons_zero, List.set_cons_succ]
          clear hS
          refine till_uno (i := 16) (by kernel_rfl) ?_
          · refine ⟨_, rfl, fun K hK => ?_⟩
            simp only [List.getElem_toArray, List.getElem_cons_zero, List.getElem_cons_succ]
            rw [if_pos (by rfl)]
            have SZ_ : wd.heap.size ≤ W65.heap.size := R0.ch.size
            obtain ⟨a16, c16, W66, ap_, on_, gr_, nw_⟩ := app_one Tryd.underlying60 info35 rfl (by decide) O16 (cs := [.slice ll lm lk]) Kp15 rfl (by simp [Value.oneCell']) (by omega) (by unfold maxLen; omega) (Nat.le_trans hB R0.ch.size)
            have AP_ : Hid ((Builtin.append_ #[60, 60] 60 #[.slice la N lc, .slice (some ⟨p15, 0, none⟩) 1 1]).run Tryd.prog W65 = .ok (.slice a16 (N + 1) c16) W66) := ap_
            have O9 : W66.ownsRow B 34 2 (.slice a9 (N + 1) c9) (N + 1) (xb ++ [.int .i64 r, .int .i64 n]) := rown_bel O9 (fun q e => gr_.block q (O9.lt q e).2 (fun e2 => rown_ne O9 O16 (by decide) e (by rw [ownBlock_slice]; exact e2.symm)))
            have O22 : W66.ownsRow B 3 1 (.slice ca N cc) N xc := rown_bel O22 (fun q e => gr_.block q (O22.lt q e).2 (fun e2 => rown_ne O22 O16 (by decide) e (by rw [ownBlock_slice]; exact e2.symm)))
            have Kp8 := (gr_.block p8 (Array.getElem?_eq_some_iff.1 Kp8).1 (fun e => by have h1 := LT.lla p8 e.symm; omega)).trans Kp8
            have Kp15 := (gr_.block p15 (Array.getElem?_eq_some_iff.1 Kp15).1 (fun e => by have h1 := LT.lla p15 e.symm; omega)).trans Kp15
            have Kp21 := (gr_.block p21 (Array.getElem?_eq_some_iff.1 Kp21).1 (fun e => by have h1 := LT.lla p21 e.symm; omega)).trans Kp21
            have R0 := R0.grow gr_ (fun q e => ⟨LT.Sla q e, LT.lla q e, LT.gla q e, LT.bla q e⟩)
            have O16 := on_
            have N16 : ∀ q, blkOf a16 = some q → blkOf la = some q ∨ wd.heap.size ≤ q := fun q e => (nw_ q e).imp id (fun h => Nat.le_trans SZ_ h)
            refine wp_app (.tmp 44) (.tmp 46) (by rfl) (by rfl) (by rfl) (by rfl) AP_ ?_
            refine hK.out _ _ (.inr (R0.cg CG)) (fun hS => ?_)
            clear hK K
            try simp only [List.getElem_toArray, List.getElem_cons_zero, List.getElem_cons_succ, Act.put, List.setIfInBounds_toArray, List.set_cons_zero, List.set_cons_succ]
            clear hSb
            refine till_uno (i := 22) (by kernel_rfl) ?_
            · refine ⟨_, rfl, fun K hK => ?_⟩
              simp only [List.getElem_toArray, List.getElem_cons_zero, List.getElem_cons_succ]
              rw [if_pos (by rfl)]
              have SZ_ : wd.heap.size ≤ W66.heap.size := R0.ch.size
              obtain ⟨a22, c22, W67, ap_, on_, gr_, nw_⟩ := app_one Tryd.underlying61 info3 rfl (by decide) O22 (cs := [.int .i64 0]) Kp21 rfl (by simp [Value.oneCell']) (by omega) (by unfold maxLen; omega) (Nat.le_trans hB R0.ch.size)
              have AP_ : Hid ((Builtin.append_ #[61, 61] 61 #[.slice ca N cc, .slice (some ⟨p21, 0, none⟩) 1 1]).run Tryd.prog W66 = .ok (.slice a22 (N + 1) c22) W67) := ap_
              have O9 : W67.ownsRow B 34 2 (.slice a9 (N + 1) c9) (N + 1) (xb ++ [.int .i64 r, .int .i64 n]) := rown_bel O9 (fun q e => gr_.block q (O9.lt q e).2 (fun e2 => rown_ne O9 O22 (by decide) e (by rw [ownBlock_slice]; exact e2.symm)))
              have O16 : W67.ownsRow B 35 1 (.slice a16 (N + 1) c16) (N + 1) (xl ++ [.slice ll lm lk]) := rown_bel O16 (fun q e => gr_.block q (O16.lt q e).2 (fun e2 => rown_ne O16 O22 (by decide) e (by rw [ownBlock_slice]; exact e2.symm)))
              have Kp8 := (gr_.block p8 (Array.getElem?_eq_some_iff.1 Kp8).1 (fun e => by have h1 := LT.lca p8 e.symm; omega)).trans Kp8
              have Kp15 := (gr_.block p15 (Array.getElem?_eq_some_iff.1 Kp15).1 (fun e => by have h1 := LT.lca p15 e.symm; omega)).trans Kp15
              have Kp21 := (gr_.block p21 (Array.getElem?_eq_some_iff.1 Kp21).1 (fun e => by have h1 := LT.lca p21 e.symm; omega)).trans Kp21
              have R0 := R0.grow gr_ (fun q e => ⟨LT.Sca q e, LT.lca q e, LT.gca q e, LT.bca q e⟩)
              have O22 := on_
              have N22 : ∀ q, blkOf a22 = some q → blkOf ca = some q ∨ wd.heap.size ≤ q := fun q e => (nw_ q e).imp id (fun h => Nat.le_trans SZ_ h)
              refine wp_app (.tmp 51) (.tmp 52) (by rfl) (by rfl) (by rfl) (by rfl) AP_ ?_
              refine hK.out _ _ (.inr (R0.cg CG)) (fun hSb => ?_)
              clear hK K
              try simp only [List.getElem_toArray, List.getElem_cons_zero, List.getElem_cons_succ, Act.put, List.setIfInBounds_toArray, List.set_cons_zero, List.set_cons_succ]
              clear hS
              obtain ⟨V1, V2, V3, HV1, HV2, HV3, c0_, f0_, c1_, f1_, c2_, f2_, FIN⟩ := R0.fin (ba' := a9) (bc' := c9) (la' := a16) (lc' := c16) (ca' := a22) (cc' := c22) CG O9 O16 O22 N9 N16 N22
              refine till_take (i := 23) (v := .pointer (some ⟨gg, 0, none⟩)) rfl (by kernel_rfl) (by kernel_rfl) (by kernel_rfl) (fun _ _ _ h => hQp _ _ _ _ _ h) (fun L w => tillP_set (by decide)) (Or.inl ⟨by rfl, fun w => by go_simp⟩) hSb (fun hS => ?_)
              simp only [List.getElem_toArray, List.getElem_cons_zero, List.getElem_cons_succ, Act.put, List.setIfInBounds_toArray, List.set_cons_zero, List.set_cons_succ]
              clear hSb
              refine till_take (i := 24) (v := .pointer (some ⟨gg, 0, none⟩)) rfl (by kernel_rfl) (by kernel_rfl) (by kernel_rfl) (fun _ _ _ h => hQp _ _ _ _ _ h) (fun L w => tillP_set (by decide)) (Or.inl ⟨by rfl, fun w => by go_simp⟩) hS (fun hSb => ?_)
              simp only [List.getElem_toArray, List.getElem_cons_zero, List.getElem_cons_succ, Act.put, List.setIfInBounds_toArray, List.set_cons_zero, List.set_cons_succ]
              clear hS
              refine till_one (i := 25) (by kernel_rfl) rfl (fun K hK => ?_)
              simp only [List.getElem_toArray, List.getElem_cons_zero, List.getElem_cons_succ]
              rw [if_pos (by rfl)]
              go_simp
              rw [HV1.out]
              refine hK.out _ _ (.inl (by rfl)) (fun hS => ?_)
              clear hK K
              try simp only [List.getElem_toArray, List.getElem_cons_zero, List.getElem_cons_succ, Act.put, List.setIfInBounds_toArray, List.set_cons_zero, List.set_cons_succ]
              clear hSb
              refine till_take (i := 26) (v := .pointer (some ⟨gg, 0, none⟩)) rfl (by kernel_rfl) (by kernel_rfl) (by kernel_rfl) (fun _ _ _ h => hQp _ _ _ _ _ h) (fun L w => tillP_set (by decide)) (Or.inl ⟨by rfl, fun w => by go_simp⟩) hS (fun hSb => ?_)
              simp only [List.getElem_toArray, List.getElem_cons_zero, List.getElem_cons_succ, Act.put, List.setIfInBounds_toArray, List.set_cons_zero, List.set_cons_succ]
              clear hS
              refine till_take (i := 27) (v := .pointer (some ⟨gg, 1, none⟩)) rfl (by kernel_rfl) (by kernel_rfl) (by kernel_rfl) (fun _ _ _ h => hQp _ _ _ _ _ h) (fun L w => tillP_set (by decide)) (Or.inl ⟨by rfl, fun w => by go_simp⟩) hSb (fun hS => ?_)
              simp only [List.getElem_toArray, List.getElem_cons_zero, List.getElem_cons_succ, Act.put, List.setIfInBounds_toArray, List.set_cons_zero, List.set_cons_succ]
              clear hSb
              refine till_one (i := 28) (by kernel_rfl) rfl (fun K hK => ?_)
              simp only [List.getElem_toArray, List.getElem_cons_zero, List.getElem_cons_succ]
              rw [if_pos (by rfl)]
              go_simp
              rw [HV2.out]
              refine hK.out _ _ (.inl (by rfl)) (fun hSb => ?_)
              clear hK K
              try simp only [List.getElem_toArray, List.getElem_cons_zero, List.getElem_cons_succ, Act.put, List.setIfInBounds_toArray, List.set_cons_zero, List.set_cons_succ]
              clear hS
              refine till_take (i := 29) (v := .pointer (some ⟨gg, 0, none⟩)) rfl (by kernel_rfl) (by kernel_rfl) (by kernel_rfl) (fun _ _ _ h => hQp _ _ _ _ _ h) (fun L w => tillP_set (by decide)) (Or.inl ⟨by rfl, fun w => by go_simp⟩) hSb (fun hS => ?_)
              simp only [List.getElem_toArray, List.getElem_cons_zero, List.getElem_cons_succ, Act.put, List.setIfInBounds_toArray, List.set_cons_zero, List.set_cons_succ]
              clear hSb
              refine till_take (i := 30) (v := .pointer (some ⟨gg, 2, none⟩)) rfl (by kernel_rfl) (by kernel_rfl) (by kernel_rfl) (fun _ _ _ h => hQp _ _ _ _ _ h) (fun L w => tillP_set (by decide)) (Or.inl ⟨by rfl, fun w => by go_simp⟩) hS (fun hSb => ?_)
              simp only [List.getElem_toArray, List.getElem_cons_zero, List.getElem_cons_succ, Act.put, List.setIfInBounds_toArray, List.set_cons_zero, List.set_cons_succ]
              clear hS
              refine till_one (i := 31) (by kernel_rfl) rfl (fun K hK => ?_)
              simp only [List.getElem_toArray, List.getElem_cons_zero, List.getElem_cons_succ]
              rw [if_pos (by rfl)]
              go_simp
              rw [HV3.out]
              refine hK.out _ _ (.inl (by rfl)) (fun hS => ?_)
              clear hK K
              try simp only [List.getElem_toArray, List.getElem_cons_zero, List.getElem_cons_succ, Act.put, List.setIfInBounds_toArray, List.set_cons_zero, List.set_cons_succ]
              clear hSb
              refine till_done (by kernel_rfl) ?_ _
              exact hQ V3 a9 c9 a16 c16 a22 c22 p8 p15 p21 FIN
end Go.Proofs.YtdfnjcjpblkmcaaDoor
