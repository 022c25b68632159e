import Derived.Test.YtmkknklkdgkbaaaDoorMGd
import Derived.Test.YtmkknklkdgkbaaaDoorMOr
/- Gg -/
/- A region of a round, walked as everywhere. -/
namespace Go.Proofs.YtmkknklkdgkbaaaDoor
open Go.ChangeShapes Go.WideShapes Go.ChangeAt Go.RowKit Go.Shelf
set_option maxRecDepth 20000
set_option linter.unusedVariables false
set_option linter.unusedSimpArgs false
def isDefer : Op → Bool
  | .defer _ => true
  | _ => false
theorem opIn_of {l N : Nat} {P : Program} {o : Oper} {a : Act} {w : World} {K : Act → World → Prop} {Q : Exit → Act → World → Prop} (hd : isDefer o.op = false) (h : o.wp P a w K Q) : o.wpIn (Fence.wide.inRound l) N P a w K Q := by
  unfold Oper.wp at h
  unfold Oper.wpIn
  refine ⟨fun _ _ => trivial, ?_⟩
  rw [Oper.semAt_plain _ _ _ (fun c e => by rw [e] at hd; cases hd)]
  cases hr : (execOp a.eval o).run P w with
  | ok x w' =>
    rw [hr] at h
    cases x with
    | value v => exact h
    | skip => exact h
    | defer d => exact h
    | enter f args => exact ⟨(fun h => by cases h), CallsIn.inRound l (callsIn_wide.2 h)⟩
    | row r args =>
      refine ⟨(fun h => by cases h), fun c cs _ => ?_⟩
      obtain ⟨v, w2, h1, h2⟩ := h c cs
      exact ⟨v, w2, h1, stepsIn_wide.2 h2⟩
    | _ => exact h.elim
  | halt x w' =>
    rw [hr] at h
    cases x with
    | panic v => exact h
    | _ => exact h.elim
theorem anyIn_of {l N : Nat} {P : Program} {md : Region.Mode} {ops : Array Oper} {Q : Exit → Act → World → Prop} (hnd : ops.all (fun o => !isDefer o.op) = true) (hQ : ¬ LetsOut Q) : ∀ (f : Nat) (L : Array Bool) (a : Act) (w : World), wpAny P md ops Q f L a w → wpAnyIn (Fence.wide.inRound l) N P md ops Q f L a w
  | 0, _, _, _, h => h
  | f + 1, L, a, w, h => by
    refine ⟨h.1, fun i hi => ?_⟩
    have h1 := h.2 i hi
    unfold wpOp at h1
    unfold wpOpIn
    cases ho : ops[i]? with
    | none => rw [ho] at h1; exact anyIn_of hnd hQ f _ a w h1
    | some o =>
      rw [ho] at h1
      have hd : isDefer o.op = false := by
        have h2 := (Array.all_eq_true_iff_forall_mem.1 hnd) o (Array.mem_of_getElem? ho)
        simpa using h2
      dsimp only at h1 ⊢
      split
      · rename_i hw
        rw [if_pos hw] at h1
        rcases h1 with h1 | h1
        · exact Oper.wpIn_mono (fun a' w' h' => anyIn_of hnd hQ f _ a' w' h') (opIn_of hd h1)
        · exact absurd h1.2 hQ
      · rename_i hw
        rw [if_neg hw] at h1
        exact ⟨fun _ _ => trivial, anyIn_of hnd hQ f _ _ w h1⟩
/- a region that draws, in a round -/
theorem regionIn_any {l N id : Nat} {P : Program} {ops : Array Oper} {Q : Exit → Act → World → Prop} {a : Act} {w : World} (hm : P.follows .mixedOrders = true) (hnd : ops.all (fun o => !isDefer o.op) = true) (R : Act → World → Prop) (hR : ∀ a w, R a w → Q .normal a w)
    (h : wpAny P .any ops (Exit.then R (fun _ _ _ => False)) ops.size (Array.replicate ops.size false) a w.drew) : (Code.region id ops true).wpIn (Fence.wide.inRound l) N P Q a w := by
  refine wpIn_mono (wpIn_region_any hm (anyIn_of hnd (fun h => ?_) _ _ _ _ h)) ?_
  · obtain ⟨a, w, h⟩ := h
    exact h
  · intro e a w h
    cases e with
    | normal => exact hR a w h
    | _ => exact h.elim
end Go.Proofs.YtmkknklkdgkbaaaDoor

/- Gh -/
/- shardOf of package frame. -/
namespace Go.Proofs.YtmkknklkdgkbaaaDoor
open Go.ChangeShapes Go.WideShapes Go.ChangeAt Go.RowKit Go.Shelf
set_option maxRecDepth 20000
set_option linter.unusedVariables false
set_option linter.unusedSimpArgs false
attribute [local go_sem] Oper.semAt_some
theorem part_cs (d : List Nat) (j : Nat) (hj : j < d.length) (w : World) : (part 5 (cs .u8 d) (j * 1)).run Tryd.prog w = .ok (.int .u8 ((d.getD j 0 : Nat) : Int)) w := by
  have h2 : (cs .u8 d)[j]? = some (.int .u8 ((d.getD j 0 : Nat) : Int)) := by simp [cs, wv, List.getD, hj]
  simp [part, go_sem, h2]
theorem eqItems_any (d e : List Nat) (w : World) : ∀ is : List Nat, (∀ j ∈ is, j < d.length ∧ j < e.length) → (Op.eqItems 9999 5 1 (cs .u8 d) (cs .u8 e) is).run Tryd.prog w = .ok (is.all fun j => d.getD j 0 == e.getD j 0) w
  | [], _ => by simp [Op.eqItems]
  | j :: is, h => by
    have hj := h j (by simp)
    have ih := eqItems_any d e w is (fun x hx => h x (by simp [hx]))
    have e1 : (Op.equalIn 9999 5 (.int .u8 ((d.getD j 0 : Nat) : Int)) (.int .u8 ((e.getD j 0 : Nat) : Int))).run Tryd.prog w = .ok (d.getD j 0 == e.getD j 0) w := by
      rw [run_equalIn_int w 9998 5 .u8 .u8 _ _ Tryd.underlying5]
      congr 1
      rw [Bool.eq_iff_iff]
      simp
      omega
    simp only [Op.eqItems, Sem.run_bind, part_cs d j hj.1 w, part_cs e j hj.2 w, Result.andThen_ok, e1, List.all_cons]
    cases hb : (d.getD j 0 == e.getD j 0) with
    | false => simp
    | true =>
      simp only [Bool.not_true, Bool.false_eq_true, if_false, Bool.true_and]
      exact ih
theorem eq_arr (d e : List Nat) (hd : d.length = 32) (he : e.length = 32) (w : World) : (Op.equalIn 10000 61 (.agg (cs .u8 d)) (.agg (cs .u8 e))).run Tryd.prog w = .ok (decide (d = e)) w := by
  obtain ⟨i, hi, _⟩ := info_parts info5
  have h := run_equalIn_array (P := Tryd.prog) w 9999 (cs .u8 d) (cs .u8 e) Tryd.underlying61 hi
  have c : Tryd.prog.cellsOf 5 = 1 := cells5
  rw [c] at h
  rw [h, eqItems_any d e w _ (fun j hj => by rw [hd, he]; simpa using hj)]
  congr 1
  rw [Bool.eq_iff_iff]
  simp only [List.all_eq_true, List.mem_range, beq_iff_eq, decide_eq_true_eq]
  constructor
  · intro h
    apply List.ext_getElem (by omega)
    intro j h1 h2
    have h3 := h j (by omega)
    simpa [List.getD, h1, h2] using h3
  · intro h j _
    rw [h]
/- a body's pieces, their blocks and their digests -/
def pb (B : List Nat) (j : Nat) : List Nat := (B.drop (64 * j)).take 64
def pbk (B : List Nat) (j : Nat) : List Nat := (pb B j).take ((pb B j).length - 32)
def pbd (B : List Nat) (j : Nat) : List Nat := (pb B j).drop ((pb B j).length - 32)
def gdB (B : List Nat) (j : Nat) : Bool := decide (Gs.sum (pbk B j) = pbd B j)
def shK (B : List Nat) : Nat → List Nat
  | 0 => []
  | k + 1 => shK B k ++ pbk B k
def pcs (n : Nat) : Nat := (n + 63) / 64
theorem shK_len (B : List Nat) : ∀ k, (shK B k).length ≤ 64 * k ∧ (64 * k ≤ B.length + 31 → (shK B k).length ≤ B.length)
  | 0 => by simp [shK]
  | k + 1 => by
    have ih := shK_len B k
    have h1 : (pbk B k).length = min 64 (B.length - 64 * k) - 32 := by simp [pbk, pb]
    simp only [shK, List.length_append, h1]
    omega
end Go.Proofs.YtmkknklkdgkbaaaDoor
