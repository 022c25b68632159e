/- Laws of a round inside a fence: an append of pairs, a store of a row; what a round keeps. -/
import Derived.RangeFuncFrom
import Derived.RangeFuncCalls
import Derived.RangeFuncLeaves
import Derived.Shelf.Abstract
import Derived.Shelf.RegionOpen
import Derived.WalkKit
import Derived.OwnWalkIn
import Derived.TacticsInMore
import Derived.LoopNIn
import Derived.LoopIn
import Derived.Test.YtalagagnolhppaaDoorUf
namespace Go.Proofs.YtalagagnolhppaaDoor
open Go.ChangeShapes Go.WideShapes Go.ChangeAt Go.RowKit Go.Shelf
set_option maxRecDepth 20000
set_option linter.unusedVariables false
set_option linter.unusedSimpArgs false
attribute [local go_sem] Oper.semAt_some
theorem opIn_app {F : Fence} {N : Nat} {o : Oper} {a : Act} {K : Act → World → Prop} {Q : Exit → Act → World → Prop} {w w' : World} {v v1 v2 : Value} (s x : Operand)
    (ho : o.op = .call { callee := .builtin .append, args := #[s, x], argTypes := #[23, 23] }) (hty : o.type = 23) (hs : a.eval s = v1) (hx : a.eval x = v2) (hrun : Hid ((Builtin.append_ #[23, 23] 23 #[v1, v2]).run Tryd.prog w = .ok v w'))
    (h : K (a.put o.dst v) w') : o.wpIn F N Tryd.prog a w K Q := by
  have hr := hrun.out
  unfold Oper.wpIn
  refine ⟨?_, ?_⟩
  · simp [Oper.about, ho, resolve, Target.leads, Sem.run_pure]
  · rw [Oper.semAt_plain F _ _ (by rw [ho]; intro c hc'; cases hc')]
    simp [execOp, ho, resolve, invoke, builtin, hs, hx, hty, hr, Result.andThen]
    exact h
theorem wpListIn_app {F : Fence} {N : Nat} {ops : Array Oper} {rest : List Oper} {o : Oper} {a : Act} {Q : Exit → Act → World → Prop} {w w' : World} {v v1 v2 : Value} (hgd : o.guard = none) (s x : Operand)
    (ho : o.op = .call { callee := .builtin .append, args := #[s, x], argTypes := #[23, 23] }) (hty : o.type = 23) (hs : a.eval s = v1) (hx : a.eval x = v2) (hrun : Hid ((Builtin.append_ #[23, 23] 23 #[v1, v2]).run Tryd.prog w = .ok v w'))
    (h : wpListIn F N Tryd.prog ops Q rest (a.put o.dst v) w') : wpListIn F N Tryd.prog ops Q (o :: rest) a w :=
  wpListIn_plain hgd fun K hK => opIn_app s x ho hty hs hx hrun (hK _ _ h)
theorem opIn_str {F : Fence} {N : Nat} {o : Oper} {a : Act} {K : Act → World → Prop} {Q : Exit → Act → World → Prop} {w : World} {t : TypeId} {g : Nat} {A old : Array Value} (hd : o.dst = none) (ty : TypeId) (x y : Operand)
    (ho : o.op = .store ty x y) (hx : a.eval x = .pointer (some ⟨g, 0, none⟩)) (hy : a.eval y = .agg A) (hr : w.heap[g]? = some (.cells old t (0, 0))) (hi : (Tryd.prog.info? ty).map (·.size) = some A.size) (hl : old.size = A.size) (h1 : A.all (·.oneCell') = true)
    (h : K a (w.setRow g A)) : o.wpIn F N Tryd.prog a w K Q := by
  unfold Oper.wpIn
  refine ⟨?_, ?_⟩
  · simp [Oper.about, ho]
  · rw [Oper.semAt_plain F _ _ (by rw [ho]; intro c hc'; cases hc')]
    unfold execOp
    simp only [ho, hx, hy, Instr.storeAt, Instr.sureAddr, Sem.run_bind, Sem.run_pure, Result.andThen_ok, run_storeVar_row w g t ty old A hr hi hl h1]
    show K (a.put o.dst undef) _
    rw [hd]
    exact h
theorem wpListIn_str {F : Fence} {N : Nat} {ops : Array Oper} {rest : List Oper} {o : Oper} {a : Act} {Q : Exit → Act → World → Prop} {w : World} {t : TypeId} {g : Nat} {A old : Array Value} (hgd : o.guard = none) (hd : o.dst = none) (ty : TypeId) (x y : Operand)
    (ho : o.op = .store ty x y) (hx : a.eval x = .pointer (some ⟨g, 0, none⟩)) (hy : a.eval y = .agg A) (hr : w.heap[g]? = some (.cells old t (0, 0))) (hi : (Tryd.prog.info? ty).map (·.size) = some A.size) (hl : old.size = A.size) (h1 : A.all (·.oneCell') = true)
    (h : wpListIn F N Tryd.prog ops Q rest a (w.setRow g A)) : wpListIn F N Tryd.prog ops Q (o :: rest) a w :=
  wpListIn_plain hgd fun K hK => opIn_str hd ty x y ho hx hy hr hi hl h1 (hK _ _ h)
theorem ba_ext {s t : ByteArray} (h : s.toList = t.toList) : s = t := by
  rw [ByteArray.toList_eq, ByteArray.toList_eq] at h
  exact ByteArray.ext (Array.toList_inj.1 h)
theorem sz_nil {s : ByteArray} (h : s.size = 0) : s = ⟨#[]⟩ := bl_inj (by rw [bl_nil.2 h]; rfl)
theorem no_str {s : ByteArray} (h : s.size = 0) : s.toList = [] := by rw [sz_nil h, ByteArray.toList_eq]
theorem is_str {s : ByteArray} (h : s.size ≠ 0) : ¬ (s.toList = []) := fun e => h (by
  rw [ByteArray.toList_eq] at e
  rw [Lib.size_eq, e]
  rfl)
theorem is_strE {s : ByteArray} (h : s.size ≠ 0) : s.toList.isEmpty = false := by
  rcases Bool.eq_false_or_eq_true s.toList.isEmpty with e | e
  · exact absurd (List.isEmpty_iff.1 e) (is_str h)
  · exact e
/- the pieces of a query -/
def pcF : Nat → ByteArray → List ByteArray
  | 0, _ => []
  | n + 1, s => if s.size = 0 then [] else if (ctA 38 s).size = 0 then pcF n (ctB 38 s) else ctA 38 s :: pcF n (ctB 38 s)
def pcs (s : ByteArray) : List ByteArray := pcF s.size s
theorem pcF_more : ∀ (n m : Nat) (s : ByteArray), s.size ≤ n → s.size ≤ m → pcF n s = pcF m s
  | 0, 0, s, _, _ => rfl
  | 0, m + 1, s, h, _ => by rw [pcF, pcF, if_pos (by omega)]
  | n + 1, 0, s, _, h => by rw [pcF, pcF, if_pos (by omega)]
  | n + 1, m + 1, s, h, h2 => by
    rw [pcF, pcF]
    by_cases h0 : s.size = 0
    · rw [if_pos h0, if_pos h0]
    · have := ctB_lt 38 (s := s) (by omega)
      rw [if_neg h0, if_neg h0, pcF_more n m (ctB 38 s) (by omega) (by omega)]
theorem pcs_nil {s : ByteArray} (h : s.size = 0) : pcs s = [] := by unfold pcs; rw [h]; rfl
theorem pcs_skip {s : ByteArray} (h : s.size ≠ 0) (hp : (ctA 38 s).size = 0) : pcs s = pcs (ctB 38 s) := by
  have := ctB_lt 38 (s := s) (by omega)
  unfold pcs
  obtain ⟨k, hk⟩ : ∃ k, s.size = k + 1 := ⟨s.size - 1, by omega⟩
  rw [hk, pcF, if_neg h, if_pos hp, pcF_more k _ _ (by omega) (Nat.le_refl _)]
theorem pcs_more {s : ByteArray} (h : s.size ≠ 0) (hp : (ctA 38 s).size ≠ 0) : pcs s = ctA 38 s :: pcs (ctB 38 s) := by
  have := ctB_lt 38 (s := s) (by omega)
  unfold pcs
  obtain ⟨k, hk⟩ : ∃ k, s.size = k + 1 := ⟨s.size - 1, by omega⟩
  rw [hk, pcF, if_neg h, if_neg hp, pcF_more k _ _ (by omega) (Nat.le_refl _)]
theorem pcF_size : ∀ (n : Nat) (s x : ByteArray), x ∈ pcF n s → x.size ≤ s.size
  | 0, s, x, h => by cases h
  | n + 1, s, x, h => by
    rw [pcF] at h
    split at h
    · cases h
    · split at h
      · exact Nat.le_trans (pcF_size n _ x h) (ctB_size _ _)
      · rcases List.mem_cons.1 h with rfl | h
        · exact ctA_size _ _
        · exact Nat.le_trans (pcF_size n _ x h) (ctB_size _ _)
theorem pcs_size {s x : ByteArray} (h : x ∈ pcs s) : x.size ≤ s.size := pcF_size _ s x h
theorem pcF_len : ∀ (n : Nat) (s : ByteArray), (pcF n s).length ≤ n
  | 0, s => Nat.le_refl _
  | n + 1, s => by
    rw [pcF]
    split
    · exact Nat.zero_le _
    · have := pcF_len n (ctB 38 s)
      split
      · omega
      · rw [List.length_cons]; omega
theorem pcs_len (s : ByteArray) : (pcs s).length ≤ s.size := pcF_len _ s
/- all pieces are pairs -/
def prL : List ByteArray → Option (List Fl)
  | [] => some []
  | x :: r => match pairS x with
    | none => none
    | some f => match prL r with
      | none => none
      | some fs => some (f :: fs)
theorem prL_snoc : ∀ {l : List ByteArray} {x : ByteArray} {fs : List Fl} {f : Fl}, prL l = some fs → pairS x = some f → prL (l ++ [x]) = some (fs ++ [f])
  | [], x, fs, f, h, hx => by
    simp only [prL, Option.some.injEq] at h
    subst h
    simp [prL, hx]
  | y :: r, x, fs, f, h, hx => by
    simp only [prL] at h
    cases hy : pairS y with
    | none => rw [hy] at h; cases h
    | some g =>
      rw [hy] at h
      cases hr : prL r with
      | none => rw [hr] at h; cases h
      | some gs =>
        rw [hr] at h
        simp only [Option.some.injEq] at h
        subst h
        rw [List.cons_append, prL, hy, prL_snoc hr hx]
        rfl
theorem prL_bad : ∀ {l r : List ByteArray} {x : ByteArray}, pairS x = none → prL (l ++ x :: r) = none
  | [], r, x, hx => by rw [List.nil_append, prL, hx]
  | y :: l, r, x, hx => by
    rw [List.cons_append, prL]
    cases hy : pairS y with
    | none => rfl
    | some g => rw [prL_bad (l := l) hx]
theorem prL_len : ∀ {l : List ByteArray} {fs : List Fl}, prL l = some fs → fs.length = l.length
  | [], fs, h => by simp only [prL, Option.some.injEq] at h; subst h; rfl
  | y :: r, fs, h => by
    simp only [prL] at h
    cases hy : pairS y with
    | none => rw [hy] at h; cases h
    | some g =>
      rw [hy] at h
      cases hr : prL r with
      | none => rw [hr] at h; cases h
      | some gs =>
        rw [hr] at h
        simp only [Option.some.injEq] at h
        subst h
        simp [prL_len hr]
/- a target -/
def prsU (t : ByteArray) : Option (ByteArray × List Fl) :=
  if Lib.hasPrefix t.data.toList [47] then match dcS (ctA 63 t) with
    | none => none
    | some p => match prL (pcs (ctB 63 t)) with
      | none => none
      | some fs => some (p, fs)
  else none
end Go.Proofs.YtalagagnolhppaaDoor
