import Derived.Test.YtkdgakcmhnadfaaGreatDoorMFs
import Derived.Test.YtkdgakcmhnadfaaGreatDoorMSi
import Derived.Test.YtkdgakcmhnadfaaGreatDoorMVa
/- Gc -/
/- Laws of a round inside a fence: an append, a store of an array; what a round keeps; Blocks itself. -/
namespace Go.Proofs.YtkdgakcmhnadfaaGreatDoor
open Go.ChangeShapes Go.WideShapes Go.ChangeAt Go.RowKit Go.Shelf
set_option maxRecDepth 20000
set_option linter.unusedVariables false
set_option linter.unusedSimpArgs false
attribute [local go_sem] Oper.semAt_some
theorem opIn_app {F : Fence} {N : Nat} {o : Oper} {a : Act} {K : Act → World → Prop} {Q : Exit → Act → World → Prop} {w w' : World} {v v1 v2 : Value} (s x : Operand)
    (ho : o.op = .call { callee := .builtin .append, args := #[s, x], argTypes := #[33, 33] }) (hty : o.type = 33) (hs : a.eval s = v1) (hx : a.eval x = v2) (hrun : Hid ((Builtin.append_ #[33, 33] 33 #[v1, v2]).run Tryz.prog w = .ok v w'))
    (h : K (a.put o.dst v) w') : o.wpIn F N Tryz.prog a w K Q := by
  have hr := hrun.out
  unfold Oper.wpIn
  refine ⟨?_, ?_⟩
  · simp [Oper.about, ho, resolve, Target.leads, Sem.run_pure]
  · rw [Oper.semAt_plain F _ _ (by rw [ho]; intro c hc'; cases hc')]
    simp [execOp, ho, resolve, invoke, builtin, hs, hx, hty, hr, Result.andThen]
    exact h
theorem wpListIn_app {F : Fence} {N : Nat} {ops : Array Oper} {rest : List Oper} {o : Oper} {a : Act} {Q : Exit → Act → World → Prop} {w w' : World} {v v1 v2 : Value} (hgd : o.guard = none) (s x : Operand)
    (ho : o.op = .call { callee := .builtin .append, args := #[s, x], argTypes := #[33, 33] }) (hty : o.type = 33) (hs : a.eval s = v1) (hx : a.eval x = v2) (hrun : Hid ((Builtin.append_ #[33, 33] 33 #[v1, v2]).run Tryz.prog w = .ok v w'))
    (h : wpListIn F N Tryz.prog ops Q rest (a.put o.dst v) w') : wpListIn F N Tryz.prog ops Q (o :: rest) a w :=
  wpListIn_plain hgd fun K hK => opIn_app s x ho hty hs hx hrun (hK _ _ h)
theorem opIn_st {F : Fence} {N : Nat} {o : Oper} {a : Act} {K : Act → World → Prop} {Q : Exit → Act → World → Prop} {w : World} {k : IntKind} {t : TypeId} {g : Nat} {l l2 : List Nat} (hd : o.dst = none) (ty : TypeId) (x y : Operand)
    (ho : o.op = .store ty x y) (hx : a.eval x = .pointer (some ⟨g, 0, none⟩)) (hy : a.eval y = .agg (cs k l2)) (hr : Hid (Arr k t w g l)) (hi : (Tryz.prog.info? ty).map (·.size) = some l2.length) (hl : l.length = l2.length)
    (h : K a (w.setRow g (cs k l2))) : o.wpIn F N Tryz.prog a w K Q := by
  unfold Oper.wpIn
  refine ⟨?_, ?_⟩
  · simp [Oper.about, ho]
  · rw [Oper.semAt_plain F _ _ (by rw [ho]; intro c hc'; cases hc')]
    unfold execOp
    simp only [ho, hx, hy, Instr.storeAt, Instr.sureAddr, Sem.run_bind, Sem.run_pure, Result.andThen_ok, run_storeVar_row w g t ty (cs k l) (cs k l2) hr.out (by rw [hi, cs_size]) (by rw [cs_size, cs_size, hl]) (cs_one _ _)]
    show K (a.put o.dst undef) _
    rw [hd]
    exact h
theorem wpListIn_st {F : Fence} {N : Nat} {ops : Array Oper} {rest : List Oper} {o : Oper} {a : Act} {Q : Exit → Act → World → Prop} {w : World} {k : IntKind} {t : TypeId} {g : Nat} {l l2 : List Nat} (hgd : o.guard = none) (hd : o.dst = none) (ty : TypeId) (x y : Operand)
    (ho : o.op = .store ty x y) (hx : a.eval x = .pointer (some ⟨g, 0, none⟩)) (hy : a.eval y = .agg (cs k l2)) (hr : Hid (Arr k t w g l)) (hi : (Tryz.prog.info? ty).map (·.size) = some l2.length) (hl : l.length = l2.length)
    (h : wpListIn F N Tryz.prog ops Q rest a (w.setRow g (cs k l2))) : wpListIn F N Tryz.prog ops Q (o :: rest) a w :=
  wpListIn_plain hgd fun K hK => opIn_st hd ty x y ho hx hy hr hi hl (hK _ _ h)
/- what a round keeps -/
section
variable {C : Nat → Prop} {m : Nat} {bx : Option Nat} {A B D : World}
theorem KeepB.refl (C : Nat → Prop) (m : Nat) (bx : Option Nat) (A : World) : KeepB C m bx A A := ⟨Nat.le_refl _, fun _ _ h _ _ _ => h⟩
theorem KeepB.trans (h : KeepB C m bx A B) (k : KeepB C m bx B D) : KeepB C m bx A D := ⟨Nat.le_trans h.size k.size, fun b o h1 h2 h3 h4 => k.same b o (h.same b o h1 h2 h3 h4) h2 h3 h4⟩
theorem KeepB.of_below (C : Nat → Prop) (m : Nat) (bx : Option Nat) (h : Below A.heap.size A B) : KeepB C m bx A B := ⟨h.size, fun b o h1 _ _ _ => (h.block b (Array.getElem?_eq_some_iff.1 h1).1).trans h1⟩
theorem KeepB.of_grown {r : Nat} (m : Nat) (bx : Option Nat) (h : A.grownBy B (some r)) (hr : C r) : KeepB C m bx A B :=
  ⟨h.size, fun b o h1 h2 _ _ => (h.block b (Array.getElem?_eq_some_iff.1 h1).1 (fun e => h2 (by cases e; exact hr))).trans h1⟩
theorem KeepB.of_set {X i : Nat} (m : Nat) (bx : Option Nat) (A : World) (v : Value) (hr : C X) : KeepB C m bx A (A.setCell ⟨X, i, none⟩ v) :=
  ⟨(KeepsOthers.setCell A ⟨X, i, none⟩ v).size, fun b o h1 h2 _ _ => (Below.heap_setCell A ⟨X, i, none⟩ v b (fun e => h2 (by rw [show b = X from e]; exact hr))).trans h1⟩
end
/- all pieces -/
theorem cks_all {n m : Nat} (hm : 0 < m) : ∀ k, (cks n m k).length = min k ((n + m - 1) / m)
  | 0 => by simp [cks]
  | k + 1 => by
    have ih := cks_all (n := n) hm k
    have e : m * k < n ↔ k < (n + m - 1) / m := by
      rw [Nat.lt_div_iff_mul_lt hm, Nat.mul_comm k m]
      omega
    by_cases h : m * k < n
    · have h2 := e.1 h
      rw [cks_succ h, List.length_append, ih]
      simp
      omega
    · have h2 : ¬ k < (n + m - 1) / m := fun h3 => h (e.2 h3)
      simp [cks, h]
      omega
end Go.Proofs.YtkdgakcmhnadfaaGreatDoor

/- Ga -/
/- What numbersOf, inForm, bodySize and headOf of package frame do to a machine, for all stamps. -/
namespace Go.Proofs.YtkdgakcmhnadfaaGreatDoor
open Go.ChangeShapes Go.WideShapes Go.ChangeAt Go.RowKit
set_option maxRecDepth 20000
set_option linter.unusedVariables false
set_option linter.unusedSimpArgs false
/- the cells of numbers -/
def si (l : List Int) : Array Value := (l.map (Value.int .i64)).toArray
theorem index64 (l : List Int) (hl : l.length = 7) (k : Nat) (hk : k < 7) (w : World) : (Instr.index 138 (.agg (si l)) (.int .i64 (k : Int))).run Tryz.prog w = .ok (.int .i64 (l.getD k 0)) w := by
  have h1 : ((k : Int)).toNat = k := by omega
  have h3 : k < l.length := by omega
  have h2 : (si l)[k]? = some (.int .i64 (l.getD k 0)) := by
    simp [si, h3]
  have h4 : (si l).size = 7 := by simp [si, hl]
  simp [Instr.index, run_underlying Tryz.underlying138, asIntOf, part, go_sem, h1, h2, h4, hk]
  simp [si, List.getD, h3]
def mostL : List Int := [1, 15, 1099511627776, 1099511627776, 15, 1024, 1024]
/- the variable most reads as it was laid -/
def Mst (w : World) : Prop := ∀ i, i < 7 → w.cell? ⟨18, i, none⟩ = some (.int .i64 (mostL.getD i 0))
theorem Mst.below {B : Nat} {w wr : World} (h : Mst w) (hb : Below B w wr) (h0 : 18 < B) : Mst wr := fun i hi => (hb.cell (p := ⟨18, i, none⟩) h0).trans (h i hi)
theorem Mst.lt {w : World} (h : Mst w) : 18 < w.heap.size := cell_lt (h 0 (by omega))
def okAt (l : List Int) (i : Nat) : Bool := decide (0 ≤ l.getD i 0 ∧ l.getD i 0 ≤ mostL.getD i 0)
def okN (l : List Int) : Bool := (List.range 7).all (okAt l)
theorem okN_no {l : List Int} {k : Nat} (hk : k < 7) (h : okAt l k = false) : okN l = false := by
  unfold okN
  rw [List.all_eq_false]
  exact ⟨k, by simpa using hk, by simp [h]⟩
theorem okN_yes {l : List Int} (h : ∀ i, i < 7 → okAt l i = true) : okN l = true := by
  unfold okN
  rw [List.all_eq_true]
  exact fun i hi => h i (by simpa using hi)
theorem bodySize_n (n : Nat) (h : n ≤ 70368744177664) (w : World) : Calls Tryz.prog 88 #[.int .i64 (n : Int)] w fun e w' => e = .returned (.int .i64 ((n + (n + 31) / 32 * 32 : Nat) : Int)) ∧ w' = w := by
  have h1 : ((n : Int) + 32 - 1) = ((n + 31 : Nat) : Int) := by omega
  have h2 : ((n + 31 : Nat) : Int) / 32 = (((n + 31) / 32 : Nat) : Int) := by omega
  go_enter Tryz.func88, Tryz.ntmps88
  go_wp2
  go_ret
  exact ⟨ret_int (by omega), rfl⟩
end Go.Proofs.YtkdgakcmhnadfaaGreatDoor

/- Gb -/
/- What headOf of package frame does to a machine, for all stamps in form. -/
namespace Go.Proofs.YtkdgakcmhnadfaaGreatDoor
open Go.ChangeShapes Go.WideShapes Go.ChangeAt Go.RowKit
set_option maxRecDepth 20000
set_option linter.unusedVariables false
set_option linter.unusedSimpArgs false
/- numbers one behind the other -/
def encs : List Nat → List Nat
  | [] => []
  | n :: l => enc n ++ encs l
theorem encs_append (l m : List Nat) : encs (l ++ m) = encs l ++ encs m := by
  induction l with
  | nil => rfl
  | cons x l ih => simp [encs, ih]
theorem encs_len {l : List Nat} (h : ∀ x ∈ l, x < 9223372036854775808) : (encs l).length ≤ 9 * l.length := by
  induction l with
  | nil => simp [encs]
  | cons x l ih =>
    have h1 := enc_nine (h x (by simp))
    have h2 := ih (fun y hy => h y (by simp [hy]))
    simp [encs]
    omega
theorem encs_take {l : List Nat} {k : Nat} (h : k < l.length) : encs (l.take (k + 1)) = encs (l.take k) ++ enc (l.getD k 0) := by
  rw [take_succ_getD h, encs_append]
  simp [encs]
theorem encs_lt (l : List Nat) : ∀ x ∈ encs l, x < 256 := by
  induction l with
  | nil => simp [encs]
  | cons n l ih =>
    intro x hx
    simp only [encs, List.mem_append] at hx
    exact hx.elim (enc_bytes n x) (ih x)
/- the head of a frame -/
def headL (ns : List Nat) : List Nat := enc (sealL (encs ns)).length ++ sealL (encs ns)
/- a writer while a head's numbers are put -/
structure Hw (w wr : World) (g : Nat) (L : List Nat) : Prop where
  ex : ∃ a n c, Wri wr g w.heap.size a n c L false ∧ n = L.length
  bel : Below w.heap.size w wr
  ge : w.heap.size ≤ g
theorem Wfr.below0 {w0 w w' : World} {B g : Nat} {a : Option Addr} {n c : Nat} {L : List Nat} {s : Bool} (hb : Below B w0 w) (hW : Wri w g B a n c L s) (h : Wfr w w' g a) (hg : B ≤ g) (hB : B ≤ w.heap.size) : Below B w0 w' :=
  h.below hb hg (fun q hq => (hW.own.ge q hq).1) hB
theorem wfr_below0 {w0 w w' : World} {B g : Nat} (h : Wfr w w' g none) (hb : Below B w0 w) (hg : B ≤ g) (hB : B ≤ w.heap.size) : Below B w0 w' := h.below hb hg (fun q hq => by simp [blkOf] at hq) hB
end Go.Proofs.YtkdgakcmhnadfaaGreatDoor
