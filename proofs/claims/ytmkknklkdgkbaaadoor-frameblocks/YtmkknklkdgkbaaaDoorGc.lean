/- Laws of a round inside a fence: an append, a store of an array; what a round keeps; Blocks itself. -/
import Derived.Test.YtmkknklkdgkbaaaDoorFu
import Derived.Test.YtmkknklkdgkbaaaDoorSj
namespace Go.Proofs.YtmkknklkdgkbaaaDoor
open Go.ChangeShapes Go.WideShapes Go.ChangeAt Go.RowKit Go.Shelf
set_option maxRecDepth 20000
set_option linter.unusedVariables false
set_option linter.unusedSimpArgs false
attribute [local go_sem] Oper.semAt_some
theorem opIn_app {F : Fence} {N : Nat} {o : Oper} {a : Act} {K : Act → World → Prop} {Q : Exit → Act → World → Prop} {w w' : World} {v v1 v2 : Value} (s x : Operand)
    (ho : o.op = .call { callee := .builtin .append, args := #[s, x], argTypes := #[26, 26] }) (hty : o.type = 26) (hs : a.eval s = v1) (hx : a.eval x = v2) (hrun : Hid ((Builtin.append_ #[26, 26] 26 #[v1, v2]).run Tryd.prog w = .ok v w'))
    (h : K (a.put o.dst v) w') : o.wpIn F N Tryd.prog a w K Q := by
  have hr := hrun.out
  unfold Oper.wpIn
  refine ⟨?_, ?_⟩
  · simp [Oper.about, ho, resolve, Target.leads, Sem.run_pure]
  · rw [Oper.semAt_plain F _ _ (by rw [ho]; intro c hc'; cases hc')]
    simp [execOp, ho, resolve, invoke, builtin, hs, hx, hty, hr, Result.andThen]
    exact h
theorem wpListIn_app {F : Fence} {N : Nat} {ops : Array Oper} {rest : List Oper} {o : Oper} {a : Act} {Q : Exit → Act → World → Prop} {w w' : World} {v v1 v2 : Value} (hgd : o.guard = none) (s x : Operand)
    (ho : o.op = .call { callee := .builtin .append, args := #[s, x], argTypes := #[26, 26] }) (hty : o.type = 26) (hs : a.eval s = v1) (hx : a.eval x = v2) (hrun : Hid ((Builtin.append_ #[26, 26] 26 #[v1, v2]).run Tryd.prog w = .ok v w'))
    (h : wpListIn F N Tryd.prog ops Q rest (a.put o.dst v) w') : wpListIn F N Tryd.prog ops Q (o :: rest) a w :=
  wpListIn_plain hgd fun K hK => opIn_app s x ho hty hs hx hrun (hK _ _ h)
theorem opIn_st {F : Fence} {N : Nat} {o : Oper} {a : Act} {K : Act → World → Prop} {Q : Exit → Act → World → Prop} {w : World} {k : IntKind} {t : TypeId} {g : Nat} {l l2 : List Nat} (hd : o.dst = none) (ty : TypeId) (x y : Operand)
    (ho : o.op = .store ty x y) (hx : a.eval x = .pointer (some ⟨g, 0, none⟩)) (hy : a.eval y = .agg (cs k l2)) (hr : Hid (Arr k t w g l)) (hi : (Tryd.prog.info? ty).map (·.size) = some l2.length) (hl : l.length = l2.length)
    (h : K a (w.setRow g (cs k l2))) : o.wpIn F N Tryd.prog a w K Q := by
  unfold Oper.wpIn
  refine ⟨?_, ?_⟩
  · simp [Oper.about, ho]
  · rw [Oper.semAt_plain F _ _ (by rw [ho]; intro c hc'; cases hc')]
    unfold execOp
    simp only [ho, hx, hy, Instr.storeAt, Instr.sureAddr, Sem.run_bind, Sem.run_pure, Result.andThen_ok, run_storeVar_row w g t ty (cs k l) (cs k l2) hr.out (by rw [hi, cs_size]) (by rw [cs_size, cs_size, hl]) (cs_one _ _)]
    show K (a.put o.dst undef) _
    rw [hd]
    exact h
theorem wpListIn_st {F : Fence} {N : Nat} {ops : Array Oper} {rest : List Oper} {o : Oper} {a : Act} {Q : Exit → Act → World → Prop} {w : World} {k : IntKind} {t : TypeId} {g : Nat} {l l2 : List Nat} (hgd : o.guard = none) (hd : o.dst = none) (ty : TypeId) (x y : Operand)
    (ho : o.op = .store ty x y) (hx : a.eval x = .pointer (some ⟨g, 0, none⟩)) (hy : a.eval y = .agg (cs k l2)) (hr : Hid (Arr k t w g l)) (hi : (Tryd.prog.info? ty).map (·.size) = some l2.length) (hl : l.length = l2.length)
    (h : wpListIn F N Tryd.prog ops Q rest a (w.setRow g (cs k l2))) : wpListIn F N Tryd.prog ops Q (o :: rest) a w :=
  wpListIn_plain hgd fun K hK => opIn_st hd ty x y ho hx hy hr hi hl (hK _ _ h)
/- what a round keeps -/
section
variable {C : Nat → Prop} {m : Nat} {bx : Option Nat} {A B D : World}
theorem KeepB.refl (C : Nat → Prop) (m : Nat) (bx : Option Nat) (A : World) : KeepB C m bx A A := ⟨Nat.le_refl _, fun _ _ h _ _ _ => h⟩
theorem KeepB.trans (h : KeepB C m bx A B) (k : KeepB C m bx B D) : KeepB C m bx A D := ⟨Nat.le_trans h.size k.size, fun b o h1 h2 h3 h4 => k.same b o (h.same b o h1 h2 h3 h4) h2 h3 h4⟩
theorem KeepB.of_below (C : Nat → Prop) (m : Nat) (bx : Option Nat) (h : Below A.heap.size A B) : KeepB C m bx A B := ⟨h.size, fun b o h1 _ _ _ => (h.block b (Array.getElem?_eq_some_iff.1 h1).1).trans h1⟩
theorem KeepB.of_grown {r : Nat} (m : Nat) (bx : Option Nat) (h : A.grownBy B (some r)) (hr : C r) : KeepB C m bx A B :=
  ⟨h.size, fun b o h1 h2 _ _ => (h.block b (Array.getElem?_eq_some_iff.1 h1).1 (fun e => h2 (by cases e; exact hr))).trans h1⟩
theorem KeepB.of_set {X i : Nat} (m : Nat) (bx : Option Nat) (A : World) (v : Value) (hr : C X) : KeepB C m bx A (A.setCell ⟨X, i, none⟩ v) :=
  ⟨(KeepsOthers.setCell A ⟨X, i, none⟩ v).size, fun b o h1 h2 _ _ => (Below.heap_setCell A ⟨X, i, none⟩ v b (fun e => h2 (by rw [show b = X from e]; exact hr))).trans h1⟩
end
/- all pieces -/
theorem cks_all {n m : Nat} (hm : 0 < m) : ∀ k, (cks n m k).length = min k ((n + m - 1) / m)
  | 0 => by simp [cks]
  | k + 1 => by
    have ih := cks_all (n := n) hm k
    have e : m * k < n ↔ k < (n + m - 1) / m := by
      rw [Nat.lt_div_iff_mul_lt hm, Nat.mul_comm k m]
      omega
    by_cases h : m * k < n
    · have h2 := e.1 h
      rw [cks_succ h, List.length_append, ih]
      simp
      omega
    · have h2 : ¬ k < (n + m - 1) / m := fun h3 => h (e.2 h3)
      simp [cks, h]
      omega
set_option maxHeartbeats 1000000 in
theorem blocks_n {w : World} {a : Option Addr} {n c : Nat} {l : List Nat} (hS : Hid (Sln w a n l)) (hc : Hid (a = none → c = 0)) :
    Calls Tryd.prog 22 #[.slice a n c] w fun e w' => ∃ K ak ck, e = .returned (.func (.func 42) #[] #[.pointer (some ⟨K, 0, none⟩)]) ∧ Hid (w'.cell? ⟨K, 0, none⟩ = some (.slice ak n ck) ∧ Own w' w.heap.size ak n ck l ∧ w.heap.size ≤ K ∧ (∀ q, blkOf ak = some q → q < K) ∧ Below w.heap.size w w') := by
  go_enter Tryd.func22, Tryd.ntmps22
  go_wp2_with (go_at_call 41; refine (clone_n hS hc).mono ?_; rintro e w1 ⟨a1, c1, rfl, H1⟩)
  go_ret
  refine ⟨w1.heap.size, a1, c1, rfl, ?_, ?_, H1.out.2.size, fun q hq => (H1.out.1.ge q hq).2, H1.out.2.alloc H1.out.2.size _⟩
  · exact (Boxed.new w1 26 _).cell
  · exact H1.out.1.below ((Below.refl _ _).alloc (Nat.le_refl _) _)
end Go.Proofs.YtmkknklkdgkbaaaDoor
