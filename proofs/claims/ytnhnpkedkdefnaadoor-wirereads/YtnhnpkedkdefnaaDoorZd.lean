/- What was put into a writer is gathered beside it: one step. -/
import Derived.Test.YtnhnpkedkdefnaaDoorZc
namespace Go.Proofs.YtnhnpkedkdefnaaDoor
open Go.ChangeShapes Go.WideShapes Go.ChangeAt Go.RowKit
set_option linter.unusedVariables false
set_option linter.unusedSimpArgs false
abbrev oO (x : Opt) (ab : Option Addr) (nb cb : Nat) : Obj := .cells #[.int .i64 x.kind, .int .i64 x.which, .int .i64 x.num, .slice ab nb cb] 31
theorem Loc.c1 {w : World} {q : Nat} {x : Opt} {ab : Option Addr} {nb cb : Nat} (h : Loc w q x ab nb cb) : w.cell? ⟨q, 1, none⟩ = some (.int .i64 x.which) := by have := h.blk; simp [World.cell?, this]
theorem St.loc {w wr : World} {b4 b5 q : Nat} {E : List (Nat × Obj)} {D : Nat → Wd} {lab : Nat → Nat} {x : Opt} {ab : Option Addr} {nb cb : Nat} (h : St w wr b4 b5 E D lab) (hq : (q, oO x ab nb cb) ∈ E) : Loc wr q x ab nb cb := ⟨(h.fx q _ hq).1⟩
/- the put rows: what a step finds -/
structure PutD (d : Wd) (PA : Option Addr) (PN PC : Nat) (P : List Nat) : Prop where
  a : d.pa = PA
  n : d.pn = PN
  c : d.pc = PC
  P : d.P = P
theorem put_step {w W w7 : World} {b4 b5 k q : Nat} {E : List (Nat × Obj)} {D : Nat → Wd} {lab : Nat → Nat} {PA : Option Addr} {PN PC : Nat} {P Y : List Nat} {a7 : Option Addr} {n7 c7 : Nat} {x : Opt} {ab : Option Addr} {nb cb : Nat} (SW : St w W b4 b5 E D lab) (hk : k < 2) (hq : (q, oO x ab nb cb) ∈ E) (hd : PutD (D k) PA PN PC P) (B7 : Below W.heap.size W w7) (O7 : Own w7 W.heap.size a7 n7 c7 Y) (hb : PN + n7 ≤ 140737488352256) :
    ∃ a8 c8 w8, (Builtin.append_ #[27, 27] 27 #[.slice PA PN PC, .slice a7 n7 c7]).run Tryd.prog w7 = .ok (.slice a8 (PN + n7) c8) w8 ∧ (w7.cell? ⟨b4, k, none⟩ = some (.slice PA PN PC) ∧ Loc w7 q x ab nb cb) ∧ (w8.cell? ⟨b4, k, none⟩ = some (.slice PA PN PC) ∧ Loc w8 q x ab nb cb ∧ w8.frozen? ⟨b4, k, none⟩ = false) ∧
      St w (w8.setCell ⟨b4, k, none⟩ (.slice a8 (PN + n7) c8)) b4 b5 E (upd D k { D k with pa := a8, pn := PN + n7, pc := c8, P := P ++ Y }) (rel W.heap.size (7 + k) lab) ∧ Ch W (w8.setCell ⟨b4, k, none⟩ (.slice a8 (PN + n7) c8)) (fun j => lab j = 7 + k ∨ lab j = 1) := by
  have T7 := SW.below B7
  have P7 := T7.put k hk
  rw [hd.a, hd.n, hd.c, hd.P] at P7
  obtain ⟨a8, c8, w8, hrun, own8, gr8, new8⟩ := app_any (c2 := c7) P7 (O7.sln (by omega)) O7.cap0 hb T7.bel.size
  have lpk : ∀ j, blkOf PA = some j → lab j = 7 + k := fun j hj => SW.lp k hk j (by rw [hd.a]; exact hj)
  have l4 := SW.l4
  have c4 := T7.c4 hk
  rw [hd.a, hd.n, hd.c] at c4
  have e4 := gr8.block b4 T7.lt4 (fun e => by have := lpk b4 e.symm; omega)
  have hql := (SW.fx q _ hq).2
  have L7 := T7.loc hq
  have eq := gr8.block q (Array.getElem?_eq_some_iff.1 L7.blk).1 (fun e => by have := lpk q e.symm; omega)
  have ch : Ch W w8 (fun j => blkOf PA = some j) := ((Ch.below B7).trans (Ch.grown gr8)).weak (fun j _ h => h.resolve_left id)
  have nw : New W PA a8 := fun j hj => (new8 j hj).imp id (fun h => Nat.le_trans B7.size h)
  refine ⟨a8, c8, w8, hrun, ⟨c4, L7⟩, ⟨(World.cell?_of_block (w := w7) e4).trans c4, ⟨eq.trans L7.blk⟩, fz (e4.trans T7.h4) k⟩, ?_, ?_⟩
  · exact SW.pstep hk own8 (by rw [hd.a]; exact ch) (by rw [hd.a]; exact nw)
  · exact ((ch.trans (Ch.set w8 b4 k _)).weak (fun j _ h => h.imp (fun e => lpk j e) (fun e => by rw [e]; exact l4)))
end Go.Proofs.YtnhnpkedkdefnaaDoor
