import Derived.Test.YtmkknklkdgkbaaaDoorGe
import Derived.Deep.RegionHeld
import Derived.Test.YtmkknklkdgkbaaaDoorBa
import Derived.Test.YtmkknklkdgkbaaaDoorMFv
import Derived.Test.YtmkknklkdgkbaaaDoorCards
import Derived.Test.YtmkknklkdgkbaaaDoorTie
/- Gg -/
/- A region of a round, walked as everywhere. -/
namespace Go.Proofs.YtmkknklkdgkbaaaDoor
open Go.ChangeShapes Go.WideShapes Go.ChangeAt Go.RowKit Go.Shelf
set_option maxRecDepth 20000
set_option linter.unusedVariables false
set_option linter.unusedSimpArgs false
def isDefer : Op → Bool
  | .defer _ => true
  | _ => false
theorem opIn_of {l N : Nat} {P : Program} {o : Oper} {a : Act} {w : World} {K : Act → World → Prop} {Q : Exit → Act → World → Prop} (hd : isDefer o.op = false) (h : o.wp P a w K Q) : o.wpIn (Fence.wide.inRound l) N P a w K Q := by
  unfold Oper.wp at h
  unfold Oper.wpIn
  refine ⟨fun _ _ => trivial, ?_⟩
  rw [Oper.semAt_plain _ _ _ (fun c e => by rw [e] at hd; cases hd)]
  cases hr : (execOp a.eval o).run P w with
  | ok x w' =>
    rw [hr] at h
    cases x with
    | value v => exact h
    | skip => exact h
    | defer d => exact h
    | enter f args => exact ⟨(fun h => by cases h), CallsIn.inRound l (callsIn_wide.2 h)⟩
    | row r args =>
      refine ⟨(fun h => by cases h), fun c cs _ => ?_⟩
      obtain ⟨v, w2, h1, h2⟩ := h c cs
      exact ⟨v, w2, h1, stepsIn_wide.2 h2⟩
    | _ => exact h.elim
  | halt x w' =>
    rw [hr] at h
    cases x with
    | panic v => exact h
    | _ => exact h.elim
theorem anyIn_of {l N : Nat} {P : Program} {md : Region.Mode} {ops : Array Oper} {Q : Exit → Act → World → Prop} (hnd : ops.all (fun o => !isDefer o.op) = true) (hQ : ¬ LetsOut Q) : ∀ (f : Nat) (L : Array Bool) (a : Act) (w : World), wpAny P md ops Q f L a w → wpAnyIn (Fence.wide.inRound l) N P md ops Q f L a w
  | 0, _, _, _, h => h
  | f + 1, L, a, w, h => by
    refine ⟨h.1, fun i hi => ?_⟩
    have h1 := h.2 i hi
    unfold wpOp at h1
    unfold wpOpIn
    cases ho : ops[i]? with
    | none => rw [ho] at h1; exact anyIn_of hnd hQ f _ a w h1
    | some o =>
      rw [ho] at h1
      have hd : isDefer o.op = false := by
        have h2 := (Array.all_eq_true_iff_forall_mem.1 hnd) o (Array.mem_of_getElem? ho)
        simpa using h2
      dsimp only at h1 ⊢
      split
      · rename_i hw
        rw [if_pos hw] at h1
        rcases h1 with h1 | h1
        · exact Oper.wpIn_mono (fun a' w' h' => anyIn_of hnd hQ f _ a' w' h') (opIn_of hd h1)
        · exact absurd h1.2 hQ
      · rename_i hw
        rw [if_neg hw] at h1
        exact ⟨fun _ _ => trivial, anyIn_of hnd hQ f _ _ w h1⟩
/- a region that draws, in a round -/
theorem regionIn_any {l N id : Nat} {P : Program} {ops : Array Oper} {Q : Exit → Act → World → Prop} {a : Act} {w : World} (hm : P.follows .mixedOrders = true) (hnd : ops.all (fun o => !isDefer o.op) = true) (R : Act → World → Prop) (hR : ∀ a w, R a w → Q .normal a w)
    (h : wpAny P .any ops (Exit.then R (fun _ _ _ => False)) ops.size (Array.replicate ops.size false) a w.drew) : (Code.region id ops true).wpIn (Fence.wide.inRound l) N P Q a w := by
  refine wpIn_mono (wpIn_region_any hm (anyIn_of hnd (fun h => ?_) _ _ _ _ h)) ?_
  · obtain ⟨a, w, h⟩ := h
    exact h
  · intro e a w h
    cases e with
    | normal => exact hR a w h
    | _ => exact h.elim
end Go.Proofs.YtmkknklkdgkbaaaDoor

/- Or -/
/- Orders of a region, with a condition on the world that may lapse once a given operation has come up: a read may be taken first if what it reads stands till the operation that uses it has come up. -/
namespace Go.Proofs.YtmkknklkdgkbaaaDoor
set_option linter.unusedVariables false
section
variable {P : Program} {ops : Array Oper} {Q : Exit → Act → World → Prop} {md : Region.Mode} {S : Array Bool → World → Prop}
/- whatever order is picked; behind each operation S holds of what has come up and of the world -/
def wpTill (P : Program) (md : Region.Mode) (ops : Array Oper) (Q : Exit → Act → World → Prop) (S : Array Bool → World → Prop) : Nat → Array Bool → Act → World → Prop
  | 0, L, a, w => Region.ready md ops L = [] ∧ Q .normal a w
  | f + 1, L, a, w => (Region.ready md ops L = [] → Q .normal a w) ∧ ∀ i ∈ Region.ready md ops L, wpOp P ops Q i (fun a' w' => S (L.setIfInBounds i true) w' ∧ wpTill P md ops Q S f (L.setIfInBounds i true) a' w') a w
theorem wpAny_of_till : ∀ (f : Nat) (L : Array Bool) (a : Act) (w : World), wpTill P md ops Q S f L a w → wpAny P md ops Q f L a w
  | 0, _, _, _, h => h
  | f + 1, _, _, _, h => ⟨h.1, fun i hi => wpOp_mono (fun a' w' h' => wpAny_of_till f _ a' w' h'.2) (h.2 i hi)⟩
theorem till_first {i : Nat} {oi : Oper} {v : Value} {T : World → Prop} {I : Array Bool → Prop} (hi : ops[i]? = some oi) (hsel : ∀ (j : Nat) (o : Oper) cs b, ops[j]? = some o → o.op ≠ .select cs b)
    (hQ : ∀ c a w, Q (.panic c) (a.put oi.dst v) w → Q (.panic c) a w) (hS : ∀ L w, S (L.setIfInBounds i true) w ↔ S L w)
    (hI : ∀ L j, L.getD i true = false → I L → j ∈ Region.ready md ops L → j ≠ i → I (L.setIfInBounds j true)) (hT : ∀ L w, I L → S L w → T w) :
    ∀ (f : Nat) (L : Array Bool) (a : Act) (w : World),
      (∀ j oj, ops[j]? = some oj → j ≠ i → L.getD j true = false → (∀ e ∈ oj.after, Region.binds md e = true → e.on ≠ i) → oi.apart ops oj = true) →
      i ∈ Region.ready md ops L → I L → YieldsIf P ops T oi v a → S L w →
      wpTill P md ops Q S f (L.setIfInBounds i true) (a.put oi.dst v) w → wpTill P md ops Q S (f + 1) L a w := by
  intro f
  induction f with
  | zero =>
    intro L a w _ hr hi0 hy hs H
    refine ⟨fun h => (by rw [h] at hr; cases hr), fun j hj => ?_⟩
    by_cases hji : j = i
    · subst hji; exact hy.wpOp hi (hT L w hi0 hs) ⟨(hS L w).2 hs, H⟩
    · have h9 := ready_mono hj hji
      rw [H.1] at h9
      cases h9
  | succ f ih =>
    intro L a w hfree hr hi0 hy hs H
    refine ⟨fun h => (by rw [h] at hr; cases hr), fun j hj => ?_⟩
    by_cases hji : j = i
    · subst hji; exact hy.wpOp hi (hT L w hi0 hs) ⟨(hS L w).2 hs, H⟩
    · have h1 := H.2 j (ready_mono hj hji)
      have hiun := (mem_ready.1 hr).1
      obtain ⟨hjun, oj, hoj, hall⟩ := mem_ready.1 hj
      have hnot : ∀ e ∈ oj.after, Region.binds md e = true → e.on ≠ i := fun e he hb heq => by
        have h2 := hall e he hb
        rw [heq] at h2
        rcases Nat.lt_or_ge i L.size with h' | h'
        · simp [h'] at hiun h2; rw [hiun] at h2; cases h2
        · simp [Array.getElem?_eq_none h'] at h2
      have h2 := wpOp_putIf hoj (hfree j oj hoj hji hjun hnot) (fun cs b => hsel i oi cs b hi) (fun cs b => hsel j oj cs b hoj) hQ hy h1
      have hfree' : ∀ k ok, ops[k]? = some ok → k ≠ i → (L.setIfInBounds j true).getD k true = false →
          (∀ e ∈ ok.after, Region.binds md e = true → e.on ≠ i) → oi.apart ops ok = true := fun k ok hk hki hun hno => by
        refine hfree k ok hk hki ?_ hno
        by_cases hjk : j = k
        · subst hjk; exact hjun
        · rw [getD_set_ne true hjk] at hun; exact hun
      refine wpOp_mono (fun a' w' h3 => ?_) h2
      obtain ⟨h4, h5, h6⟩ := h3
      rw [Array.setIfInBounds_comm _ _ (Ne.symm hji)] at h5 h6
      have h7 := (hS _ _).1 h5
      exact ⟨h7, ih (L.setIfInBounds j true) a' w' hfree' (ready_mono hr (Ne.symm hji)) (hI L j hiun hi0 hj hji) h4 h7 h6⟩
/- an operation that yields in whatever world -/
theorem till_take {i : Nat} {oi : Oper} {v : Value} {f : Nat} {L : Array Bool} {a : Act} {w : World} (hi : ops[i]? = some oi) (hs : Region.noSelect ops = true) (hf : Region.free md ops L i = true) (hr : (Region.ready md ops L).contains i = true)
    (hQ : ∀ c a w, Q (.panic c) (a.put oi.dst v) w → Q (.panic c) a w) (hS : ∀ L w, S (L.setIfInBounds i true) w ↔ S L w) (hy : Yields P ops oi v a) (hw : S L w)
    (h : S (L.setIfInBounds i true) w → wpTill P md ops Q S f (L.setIfInBounds i true) (a.put oi.dst v) w) : wpTill P md ops Q S (f + 1) L a w :=
  till_first (T := fun _ => True) (I := fun _ => True) hi (Region.noSelect_spec hs) hQ hS (fun _ _ _ _ _ _ => trivial) (fun _ _ _ _ => trivial) f L a w (Region.free_spec hi hf) (by simpa using hr) trivial hy.yieldsIf hw (h ((hS L w).2 hw))
/- a read whose value stands till operation c has come up, which waits for it -/
theorem till_read {i c : Nat} {oi oc : Oper} {v : Value} {T : World → Prop} {f : Nat} {L : Array Bool} {a : Act} {w : World} (hi : ops[i]? = some oi) (hc : ops[c]? = some oc) (hw8 : (oc.after.toList.any fun e => Region.binds md e && e.on == i) = true)
    (hs : Region.noSelect ops = true) (hf : Region.free md ops L i = true) (hr : (Region.ready md ops L).contains i = true) (hcl : L.getD c true = false)
    (hQ : ∀ c a w, Q (.panic c) (a.put oi.dst v) w → Q (.panic c) a w) (hS : ∀ L w, S (L.setIfInBounds i true) w ↔ S L w) (hT : ∀ L w, L.getD c true = false → S L w → T w) (hy : YieldsIf P ops T oi v a) (hw : S L w)
    (h : S (L.setIfInBounds i true) w → wpTill P md ops Q S f (L.setIfInBounds i true) (a.put oi.dst v) w) : wpTill P md ops Q S (f + 1) L a w := by
  refine till_first (T := T) (I := fun L => L.getD c true = false) hi (Region.noSelect_spec hs) hQ hS (fun L j h1 h2 h3 h4 => ?_) hT f L a w (Region.free_spec hi hf) (by simpa using hr) hcl hy hw (h ((hS L w).2 hw))
  by_cases hjc : j = c
  · subst hjc
    obtain ⟨_, o, ho, hall⟩ := mem_ready.1 h3
    rw [hc] at ho
    obtain rfl := Option.some.inj ho
    obtain ⟨e, he, hb⟩ := List.any_eq_true.1 hw8
    simp only [Bool.and_eq_true, beq_iff_eq] at hb
    have h5 := hall e (by simpa using he) hb.1
    rw [hb.2] at h5
    rcases Nat.lt_or_ge i L.size with h' | h'
    · simp [h'] at h1 h5; rw [h1] at h5; cases h5
    · simp [Array.getElem?_eq_none h'] at h5
  · show (L.setIfInBounds j true).getD c true = false
    rw [getD_set_ne true hjc]
    exact h2
/- the one that comes up -/
theorem till_one {i : Nat} {o : Oper} {f : Nat} {L : Array Bool} {a : Act} {w : World} (hr : Region.ready md ops L = [i]) (ho : ops[i]? = some o)
    (h : ∀ K' : Act → World → Prop, Shut (∀ a w, S (L.setIfInBounds i true) w → (S (L.setIfInBounds i true) w → wpTill P md ops Q S f (L.setIfInBounds i true) a w) → K' a w) → if Region.wanted o (yielded ops a.tmps) = true then Oper.wp P o a w K' Q else K' (a.put o.dst undef) w) :
    wpTill P md ops Q S (f + 1) L a w := by
  refine ⟨fun h0 => (by rw [hr] at h0; cases h0), fun j hj => ?_⟩
  rw [hr] at hj
  obtain rfl : j = i := by simpa using hj
  exact wpOp_step ho (fun K' hK => h K' (fun a w hS hW => hK a w ⟨hS, hW hS⟩))
theorem till_done {L : Array Bool} {a : Act} {w : World} (hr : Region.ready md ops L = []) (h : Q .normal a w) : ∀ f, wpTill P md ops Q S f L a w
  | 0 => ⟨hr, h⟩
  | _ + 1 => ⟨fun _ => h, by rw [hr]; simp⟩
/- at the beginning -/
theorem wp_region_till {id : Nat} {a : Act} {w : World} (hm : P.follows .mixedOrders = true) (hw : S (Array.replicate ops.size false) w.drew)
    (h : S (Array.replicate ops.size false) w.drew → wpTill P .any ops Q S ops.size (Array.replicate ops.size false) a w.drew) : (Code.region id ops true).wp P Q a w :=
  wp_region_any hm (wpAny_of_till _ _ _ _ (h hw))
end
end Go.Proofs.YtmkknklkdgkbaaaDoor

/- Lc -/
/- FrameBlocks: one pass over the blocks, written over as they come. -/
namespace Go.Proofs.YtmkknklkdgkbaaaDoor
open Go.ChangeShapes Go.WideShapes Go.ChangeAt Go.RowKit Go.Shelf
set_option maxRecDepth 20000
set_option linter.unusedVariables false
set_option linter.unusedSimpArgs false
attribute [local go_sem] Oper.semAt_some
def inn : Code → Code
  | .block _ c => c
  | c => c
/- what a pass leans on -/
structure Fc (V : World) (X3 X6 g2 cap K k n ck B0 : Nat) (ak : Option Addr) (l : List Nat) (stop : Int) : Prop where
  c3 : V.cell? ⟨X3, 0, none⟩ = some (.int .i64 stop)
  c6 : V.cell? ⟨X6, 0, none⟩ = some (.slice (some ⟨g2, 0, none⟩) k cap)
  pcs : PcS V g2 k l
  cK : V.cell? ⟨K, 0, none⟩ = some (.slice ak n ck)
  own : Own V B0 ak n ck l
theorem Fc.below {V U : World} {X3 X6 g2 cap K k n ck B0 : Nat} {ak : Option Addr} {l : List Nat} {stop : Int} (h : Fc V X3 X6 g2 cap K k n ck B0 ak l stop) (hb : Below V.heap.size V U) : Fc U X3 X6 g2 cap K k n ck B0 ak l stop :=
  ⟨(hb.cell (p := ⟨X3, 0, none⟩) (cell_lt h.c3)).trans h.c3, (hb.cell (p := ⟨X6, 0, none⟩) (cell_lt h.c6)).trans h.c6, h.pcs.below hb, (hb.cell (p := ⟨K, 0, none⟩) (cell_lt h.cK)).trans h.cK, h.own.below hb⟩
/- what a round's test reads -/
structure Fq (W : World) (X8 X6 g2 k cap p : Nat) (xa : Option Addr) (xe xc : Nat) (ya : Option Addr) (ye yc : Nat) (P : List Nat) : Prop where
  c8 : W.cell? ⟨X8, 0, none⟩ = some (.int .i64 (p : Int))
  c6 : W.cell? ⟨X6, 0, none⟩ = some (.slice (some ⟨g2, 0, none⟩) k cap)
  cg : W.cell? ⟨g2, p, none⟩ = some (.slice ya ye yc)
  s1 : Sln W xa xe P
  s2 : Sln W ya ye P
theorem Fq.v1 {W : World} {X8 X6 g2 k cap p : Nat} {xa : Option Addr} {xe xc : Nat} {ya : Option Addr} {ye yc : Nat} {P : List Nat} (h : Fq W X8 X6 g2 k cap p xa xe xc ya ye yc P) : (convert 26 9 (.slice xa xe xc)).run Tryd.prog W = .ok (.string (spell P)) W := conv_n (show Hid (Sln W xa xe P) from h.s1)
theorem Fq.v2 {W : World} {X8 X6 g2 k cap p : Nat} {xa : Option Addr} {xe xc : Nat} {ya : Option Addr} {ye yc : Nat} {P : List Nat} (h : Fq W X8 X6 g2 k cap p xa xe xc ya ye yc P) : (convert 26 9 (.slice ya ye yc)).run Tryd.prog W = .ok (.string (spell P)) W := conv_n (show Hid (Sln W ya ye P) from h.s2)
/- what the loop that writes over a block keeps -/
def Wo (V U wr : World) (Z p : Nat) (xa : Option Addr) (xe xc : Nat) : Prop := ∃ L, Own wr Z xa xe xc L ∧ Below V.heap.size V wr ∧ Boxed wr V.heap.size 3 (.int .i64 (p : Int)) ∧ KeepC (fun b => b = V.heap.size) (V.heap.size + 1) Z U wr
set_option maxHeartbeats 4000000 in
theorem pass5 {V : World} {X3 X4 X6 g2 cap K k n ck B0 : Nat} {ak : Option Addr} {l : List Nat} {stop : Int} (hF : Hid (Fc V X3 X6 g2 cap K k n ck B0 ak l stop)) (hk : Hid (k = blks n ∧ n = l.length ∧ n ≤ 140737488352256 ∧ ∀ x ∈ l, x < 256)) {c0 c1 c2 c5 c7 c9 c10 c11 c12 c13 c14 c15 c16 c17 c18 c19 c20 c21 c23 c24 c25 c26 c27 c28 c29 c30 c31 c32 c33 c34 c35 c36 c37 c38 c39 c40 c41 c42 c43 c44 c45 c46 c47 c48 c49 c50 c51 c52 c53 c54 c55 c56 c57 c58 c59 c60 c61 c62 c63 c64 c65 c66 c67 c68 c69 c70 c71 c72 c73 : Value} {ds : List Deferred} {Q : Exit → Act → World → Prop}
    (hN : ∀ (D m : Nat) (U : World), Hid (V.heap.size < D ∧ m = k ∧ Below V.heap.size V U ∧ Boxed U V.heap.size 3 (.int .i64 (m : Int)) ∧ U.heap[D]? = some (.deferred (some []))) → Q .normal ⟨#[c0, c1, c2, .pointer (some ⟨X3, 0, none⟩), .pointer (some ⟨X4, 0, none⟩), c5, .pointer (some ⟨X6, 0, none⟩), c7, .pointer (some ⟨V.heap.size, 0, none⟩), c9, c10, c11, c12, c13, c14, c15, c16, c17, c18, c19, c20, c21, .func (.func 42) #[] #[.pointer (some ⟨K, 0, none⟩)], c23, c24, c25, c26, c27, c28, c29, c30, c31, c32, c33, c34, c35, c36, c37, c38, c39, c40, c41, c42, c43, c44, c45, c46, c47, c48, c49, c50, c51, c52, c53, c54, c55, c56, c57, c58, c59, c60, c61, c62, c63, c64, c65, c66, c67, c68, c69, c70, c71, c72, c73], { target := .collected D, args := #[] } :: ds⟩ U)
    (hX : ∀ (D m : Nat) (U : World), Hid (V.heap.size < D ∧ (m : Int) = stop ∧ Below V.heap.size V U ∧ Boxed U V.heap.size 3 (.int .i64 (m : Int)) ∧ U.heap[D]? = some (.deferred (some [])) ∧ m ≤ k) → Q (.exit 2) ⟨#[c0, c1, c2, .pointer (some ⟨X3, 0, none⟩), .pointer (some ⟨X4, 0, none⟩), c5, .pointer (some ⟨X6, 0, none⟩), c7, .pointer (some ⟨V.heap.size, 0, none⟩), c9, c10, c11, c12, c13, c14, c15, c16, c17, c18, c19, c20, c21, .func (.func 42) #[] #[.pointer (some ⟨K, 0, none⟩)], c23, c24, c25, c26, c27, c28, c29, c30, c31, c32, c33, c34, c35, c36, c37, c38, c39, c40, c41, c42, c43, c44, c45, c46, c47, c48, c49, c50, c51, c52, c53, c54, c55, c56, c57, c58, c59, c60, c61, c62, c63, c64, c65, c66, c67, c68, c69, c70, c71, c72, c73], { target := .collected D, args := #[] } :: ds⟩ U) :
    (inn ((Tryd.f5.body.bind (blkIn 2)).getD .skip)).wpIn Fence.wide 20 Tryd.prog Q ⟨#[c0, c1, c2, .pointer (some ⟨X3, 0, none⟩), .pointer (some ⟨X4, 0, none⟩), c5, .pointer (some ⟨X6, 0, none⟩), c7, .pointer (some ⟨V.heap.size, 0, none⟩), c9, c10, c11, c12, c13, c14, c15, c16, c17, c18, c19, c20, c21, .func (.func 42) #[] #[.pointer (some ⟨K, 0, none⟩)], c23, c24, c25, c26, c27, c28, c29, c30, c31, c32, c33, c34, c35, c36, c37, c38, c39, c40, c41, c42, c43, c44, c45, c46, c47, c48, c49, c50, c51, c52, c53, c54, c55, c56, c57, c58, c59, c60, c61, c62, c63, c64, c65, c66, c67, c68, c69, c70, c71, c72, c73], ds⟩ (V.alloc (.cells #[.int .i64 0] 3)) := by
  conv => arg 4; whnf
  obtain ⟨V1, HV1⟩ : ∃ V1, Hid (V.alloc (.cells #[.int .i64 0] 3) = V1) := ⟨_, rfl⟩
  have b1 : Below V.heap.size V V1 := by rw [← HV1.out]; exact (Below.refl _ V).alloc (Nat.le_refl _) _
  have s1 : V1.heap.size = V.heap.size + 1 := by rw [← HV1.out]; simp
  have x8 : Boxed V1 V.heap.size 3 (.int .i64 0) := by rw [← HV1.out]; exact Boxed.new V 3 _
  rw [HV1.out]
  have F1 := hF.out.below b1
  have kK : K < V.heap.size := cell_lt hF.out.cK
  have kq : ∀ q, blkOf ak = some q → q < V.heap.size := fun q hq => (hF.out.own.ge q hq).2
  have SV : Hid (V1.heap.size = V.heap.size + 1) := s1
  have hmo : Tryd.prog.follows .mixedOrders = true := by kernel_rfl
  refine rangeC (C := (fun b => b = V.heap.size)) rfl (by omega) (gf := 42) (lb := #[.pointer (some ⟨K, 0, none⟩)]) rfl trivial (enters_of Tryd.func42 (by kernel_rfl) rfl)
    (blocks_seqC 19 (by omega) K n ck B0 ak l _ V1 F1.cK F1.own hk.out.2.2.1 F1.own.cap ?c1 ?c2 ?c3) (Below.refl _ _) (fun _ => rfl) ?hC ?hGd
    (fun Z pre U => Below V.heap.size V U ∧ Boxed U V.heap.size 3 (.int .i64 (pre.length : Int)))
    (fun Z c pre U => c = .exit 2 ∧ Below V.heap.size V U ∧ Boxed U V.heap.size 3 (.int .i64 (pre.length : Int)) ∧ (pre.length : Int) = stop ∧ pre.length ≤ k) ?hI ?hIx (fun Z _ => ⟨b1, x8⟩)
    (fun x : Bk n => { tmps := #[c0, c1, c2, .pointer (some ⟨X3, 0, none⟩), .pointer (some ⟨X4, 0, none⟩), c5, .pointer (some ⟨X6, 0, none⟩), c7, .pointer (some ⟨V.heap.size, 0, none⟩), .int .i64 (x.num : Int), .slice x.a x.e x.c, c11, c12, c13, c14, c15, c16, c17, c18, c19, c20, c21, .func (.func 42) #[] #[.pointer (some ⟨K, 0, none⟩)], .int .i64 (x.num : Int), .slice x.a x.e x.c, c25, c26, c27, c28, c29, c30, c31, c32, c33, c34, c35, c36, c37, c38, c39, c40, c41, c42, c43, c44, c45, c46, c47, c48, c49, c50, c51, c52, c53, c54, c55, c56, c57, c58, c59, c60, c61, c62, c63, c64, c65, c66, c67, c68, c69, c70, c71, c72, c73], defers := [] }) ?assign ?body ?done ?stop
  case c1 => intro h; omega
  case c2 => intro q hq h; have := kq q hq; omega
  case c3 => intro b h; omega
  case hC => intro b h; omega
  case hGd =>
    rintro Z pre x A k o' hk ⟨h1, h2, h3, h4⟩
    exact ⟨h1, h2, h3, h4.block (fun q hq => World.putObj_heap_other (by have := (h4.ge q hq).1; omega))⟩
  case hI =>
    rintro Z pre A B hZ ⟨h1, h2⟩ hb
    exact ⟨h1.trans (hb.bel.mono (by omega)), Boxed.blk h2 (hb.bel.block _ (by omega))⟩
  case hIx =>
    rintro Z c pre A B hZ ⟨h0, h1, h2, h3⟩ hb
    exact ⟨h0, h1.trans (hb.bel.mono (by omega)), Boxed.blk h2 (hb.bel.block _ (by omega)), h3⟩
  case assign =>
    intro l' x U K' hK
    unfold bencs
    gi_wp2
    exact hK
  case body =>
    rintro l' Z pre x U hZ hU ⟨hB, hX8⟩ ⟨hx1, hx2, hx3, hx4⟩
    have hj : 32 * pre.length < n := by rw [← hx2]; exact x.h
    have FU := hF.out.below hB
    have he : x.e = (pc l pre.length).length := by rw [← hx2]; exact hx4.len
    have e32 : x.e ≤ 32 := hx3
    rw [hx2] at hx4
    obtain ⟨p, Hp⟩ : ∃ p, Hid (pre.length = p) := ⟨_, rfl⟩
    have xn : x.num = p := hx1.trans Hp.out
    rw [Hp.out] at hx4 hX8 he hj
    have hpk : p < k := by rw [hk.out.1]; unfold blks; omega
    have PB : Hid (p ≤ 140737488352256) := by have := hk.out.2.2.1; show _ ≤ _; omega
    obtain ⟨xa, xe, xc, HXX⟩ : ∃ xa xe xc, Hid (x.a = xa ∧ x.e = xe ∧ x.c = xc) := ⟨_, _, _, rfl, rfl, rfl⟩
    rw [HXX.out.1, HXX.out.2.1, HXX.out.2.2] at hx4
    rw [HXX.out.2.1] at he e32
    rw [HXX.out.1, HXX.out.2.1, HXX.out.2.2, xn]
    obtain ⟨ya, ye, yc, g1, g3, _⟩ := FU.pcs p hpk
    obtain ⟨P, HP⟩ : ∃ P, Hid (pc l p = P) := ⟨_, rfl⟩
    have PL : Hid (∀ y ∈ P, y < 256) := by rw [← HP.out]; exact pc_bytes hk.out.2.2.2 _
    rw [HP.out] at hx4 g3
    have bdr : Below U.heap.size U U.drew := (Below.refl _ U).drew
    have q0 : Fq U.drew V.heap.size X6 g2 k cap p xa xe xc ya ye yc P := ⟨hX8.cell, FU.c6, g1, (hx4.sln (by omega)).below bdr, g3.below bdr⟩
    have BE : ((spell P).toList == (spell P).toList) = true := by rw [spell_beq PL.out PL.out]; simp
    have HO : Hid (Wo V U.drew U.drew Z p xa xe xc) := ⟨P, hx4.below bdr, hB.trans (bdr.mono hB.size), hX8, KeepC.refl _ _ _ _⟩
    have H3 : Hid (∀ W, Below V.heap.size V W → W.cell? ⟨X3, 0, none⟩ = some (.int .i64 stop)) := fun W hW => (hF.out.below hW).c3
    have HZ : Hid (V.heap.size + 1 < Z ∧ p < k) := ⟨by omega, hpk⟩
    have KD : Hid (KeepC (fun b => b = V.heap.size) V1.heap.size Z U U.drew) := KeepC.of_below _ _ _ bdr
    clear hB hX8 hx1 hx2 hx3 hx4 FU g1 g3 bdr hZ hU he x8 F1 b1 kK kq
    gi_wp2
    refine regionIn_any hmo (by kernel_rfl) (fun a' w' => a' = ⟨#[c0, c1, c2, .pointer (some ⟨X3, 0, none⟩), .pointer (some ⟨X4, 0, none⟩), c5, .pointer (some ⟨X6, 0, none⟩), c7, .pointer (some ⟨V.heap.size, 0, none⟩), .int .i64 (p : Int), .slice xa xe xc, c11, c12, c13, c14, c15, c16, c17, c18, c19, c20, c21, .func (.func 42) #[] #[.pointer (some ⟨K, 0, none⟩)], .int .i64 (p : Int), .slice xa xe xc, .int .i64 (p : Int), .int .i64 (p : Int), .bool false, .bool false, .int .i64 (p : Int), .slice (some ⟨g2, 0, none⟩) k cap, .int .i64 (k : Int), .bool false, .bool false, .bool false, .slice xa xe xc, .string (spell P), .slice (some ⟨g2, 0, none⟩) k cap, .int .i64 (p : Int), .pointer (some ⟨g2, p, none⟩), .slice ya ye yc, .string (spell P), .bool false, .bool false, c44, c45, c46, c47, c48, c49, c50, c51, c52, c53, c54, c55, c56, c57, c58, c59, c60, c61, c62, c63, c64, c65, c66, c67, c68, c69, c70, c71, c72, c73], []⟩ ∧ w' = U.drew) ?hR ?h
    case h =>
      refine wpAny_of_till (S := fun L W => Fq W V.heap.size X6 g2 k cap p xa xe xc ya ye yc P) _ _ _ _ ?_
      have hS := q0
      clear q0
      refine till_take (i := 0) (v := .int .i64 (p : Int)) rfl (by kernel_rfl) (by kernel_rfl) (by kernel_rfl) (fun _ _ _ h => h) (fun L w => Iff.rfl) (Or.inl ⟨by rfl, fun w => by go_simp⟩) hS (fun hSb => ?_)
      simp only [List.getElem_toArray, List.getElem_cons_zero, List.getElem_cons_succ, Act.put, List.setIfInBounds_toArray, List.set_cons_zero, List.set_cons_succ]
      clear hS
      refine till_read (i := 1) (c := 2) (v := .int .i64 (p : Int)) (T := fun W => Fq W V.heap.size X6 g2 k cap p xa xe xc ya ye yc P) rfl rfl (by kernel_rfl) (by kernel_rfl) (by kernel_rfl) (by kernel_rfl) (by kernel_rfl) (fun _ _ _ h => h) (fun L w => Iff.rfl) (fun L w h1 h2 => h2) (Or.inl ⟨by rfl, fun w h => by have q := h.c8; go_simp⟩) hSb (fun hS => ?_)
      simp only [List.getElem_toArray, List.getElem_cons_zero, List.getElem_cons_succ, Act.put, List.setIfInBounds_toArray, List.set_cons_zero, List.set_cons_succ]
      clear hSb
      refine till_take (i := 2) (v := .bool false) rfl (by kernel_rfl) (by kernel_rfl) (by kernel_rfl) (fun _ _ _ h => h) (fun L w => Iff.rfl) (Or.inl ⟨by rfl, fun w => by go_simp⟩) hS (fun hSb => ?_)
      simp only [List.getElem_toArray, List.getElem_cons_zero, List.getElem_cons_succ, Act.put, List.setIfInBounds_toArray, List.set_cons_zero, List.set_cons_succ]
      clear hS
      refine till_take (i := 3) (v := .bool false) rfl (by kernel_rfl) (by kernel_rfl) (by kernel_rfl) (fun _ _ _ h => h) (fun L w => Iff.rfl) (Or.inl ⟨by rfl, fun w => by go_simp⟩) hSb (fun hS => ?_)
      simp only [List.getElem_toArray, List.getElem_cons_zero, List.getElem_cons_succ, Act.put, List.setIfInBounds_toArray, List.set_cons_zero, List.set_cons_succ]
      clear hSb
      refine till_read (i := 4) (c := 7) (v := .int .i64 (p : Int)) (T := fun W => Fq W V.heap.size X6 g2 k cap p xa xe xc ya ye yc P) rfl rfl (by kernel_rfl) (by kernel_rfl) (by kernel_rfl) (by kernel_rfl) (by kernel_rfl) (fun _ _ _ h => h) (fun L w => Iff.rfl) (fun L w h1 h2 => h2) (Or.inl ⟨by rfl, fun w h => by have q := h.c8; go_simp⟩) hS (fun hSb => ?_)
      simp only [List.getElem_toArray, List.getElem_cons_zero, List.getElem_cons_succ, Act.put, List.setIfInBounds_toArray, List.set_cons_zero, List.set_cons_succ]
      clear hS
      refine till_read (i := 5) (c := 6) (v := .slice (some ⟨g2, 0, none⟩) k cap) (T := fun W => Fq W V.heap.size X6 g2 k cap p xa xe xc ya ye yc P) rfl rfl (by kernel_rfl) (by kernel_rfl) (by kernel_rfl) (by kernel_rfl) (by kernel_rfl) (fun _ _ _ h => h) (fun L w => Iff.rfl) (fun L w h1 h2 => h2) (Or.inl ⟨by rfl, fun w h => by have q := h.c6; go_simp⟩) hSb (fun hS => ?_)
      simp only [List.getElem_toArray, List.getElem_cons_zero, List.getElem_cons_succ, Act.put, List.setIfInBounds_toArray, List.set_cons_zero, List.set_cons_succ]
      clear hSb
      refine till_take (i := 6) (v := .int .i64 (k : Int)) rfl (by kernel_rfl) (by kernel_rfl) (by kernel_rfl) (fun _ _ _ h => h) (fun L w => Iff.rfl) (Or.inl ⟨by rfl, fun w => by go_simp⟩) hS (fun hSb => ?_)
      simp only [List.getElem_toArray, List.getElem_cons_zero, List.getElem_cons_succ, Act.put, List.setIfInBounds_toArray, List.set_cons_zero, List.set_cons_succ]
      clear hS
      refine till_take (i := 7) (v := .bool false) rfl (by kernel_rfl) (by kernel_rfl) (by kernel_rfl) (fun _ _ _ h => h) (fun L w => Iff.rfl) (Or.inl ⟨by rfl, fun w => by go_simp⟩) hSb (fun hS => ?_)
      simp only [List.getElem_toArray, List.getElem_cons_zero, List.getElem_cons_succ, Act.put, List.setIfInBounds_toArray, List.set_cons_zero, List.set_cons_succ]
      clear hSb
      refine till_take (i := 8) (v := .bool false) rfl (by kernel_rfl) (by kernel_rfl) (by kernel_rfl) (fun _ _ _ h => h) (fun L w => Iff.rfl) (Or.inl ⟨by rfl, fun w => by go_simp⟩) hS (fun hSb => ?_)
      simp only [List.getElem_toArray, List.getElem_cons_zero, List.getElem_cons_succ, Act.put, List.setIfInBounds_toArray, List.set_cons_zero, List.set_cons_succ]
      clear hS
      refine till_take (i := 9) (v := .bool false) rfl (by kernel_rfl) (by kernel_rfl) (by kernel_rfl) (fun _ _ _ h => h) (fun L w => Iff.rfl) (Or.inl ⟨by rfl, fun w => by go_simp⟩) hSb (fun hS => ?_)
      simp only [List.getElem_toArray, List.getElem_cons_zero, List.getElem_cons_succ, Act.put, List.setIfInBounds_toArray, List.set_cons_zero, List.set_cons_succ]
      clear hSb
      refine till_take (i := 10) (v := .slice xa xe xc) rfl (by kernel_rfl) (by kernel_rfl) (by kernel_rfl) (fun _ _ _ h => h) (fun L w => Iff.rfl) (Or.inl ⟨by rfl, fun w => by go_simp⟩) hS (fun hSb => ?_)
      simp only [List.getElem_toArray, List.getElem_cons_zero, List.getElem_cons_succ, Act.put, List.setIfInBounds_toArray, List.set_cons_zero, List.set_cons_succ]
      clear hS
      refine till_read (i := 11) (c := 17) (v := .string (spell P)) (T := fun W => Fq W V.heap.size X6 g2 k cap p xa xe xc ya ye yc P) rfl rfl (by kernel_rfl) (by kernel_rfl) (by kernel_rfl) (by kernel_rfl) (by kernel_rfl) (fun _ _ _ h => h) (fun L w => Iff.rfl) (fun L w h1 h2 => h2) (Or.inl ⟨by rfl, fun w h => by have q := h.v1; go_simp⟩) hSb (fun hS => ?_)
      simp only [List.getElem_toArray, List.getElem_cons_zero, List.getElem_cons_succ, Act.put, List.setIfInBounds_toArray, List.set_cons_zero, List.set_cons_succ]
      clear hSb
      refine till_read (i := 12) (c := 14) (v := .slice (some ⟨g2, 0, none⟩) k cap) (T := fun W => Fq W V.heap.size X6 g2 k cap p xa xe xc ya ye yc P) rfl rfl (by kernel_rfl) (by kernel_rfl) (by kernel_rfl) (by kernel_rfl) (by kernel_rfl) (fun _ _ _ h => h) (fun L w => Iff.rfl) (fun L w h1 h2 => h2) (Or.inl ⟨by rfl, fun w h => by have q := h.c6; go_simp⟩) hS (fun hSb => ?_)
      simp only [List.getElem_toArray, List.getElem_cons_zero, List.getElem_cons_succ, Act.put, List.setIfInBounds_toArray, List.set_cons_zero, List.set_cons_succ]
      clear hS
      refine till_read (i := 13) (c := 14) (v := .int .i64 (p : Int)) (T := fun W => Fq W V.heap.size X6 g2 k cap p xa xe xc ya ye yc P) rfl rfl (by kernel_rfl) (by kernel_rfl) (by kernel_rfl) (by kernel_rfl) (by kernel_rfl) (fun _ _ _ h => h) (fun L w => Iff.rfl) (fun L w h1 h2 => h2) (Or.inl ⟨by rfl, fun w h => by have q := h.c8; go_simp⟩) hSb (fun hS => ?_)
      simp only [List.getElem_toArray, List.getElem_cons_zero, List.getElem_cons_succ, Act.put, List.setIfInBounds_toArray, List.set_cons_zero, List.set_cons_succ]
      clear hSb
      refine till_take (i := 14) (v := .pointer (some ⟨g2, p, none⟩)) rfl (by kernel_rfl) (by kernel_rfl) (by kernel_rfl) (fun _ _ _ h => h) (fun L w => Iff.rfl) (Or.inl ⟨by rfl, fun w => by go_simp⟩) hS (fun hSb => ?_)
      simp only [List.getElem_toArray, List.getElem_cons_zero, List.getElem_cons_succ, Act.put, List.setIfInBounds_toArray, List.set_cons_zero, List.set_cons_succ]
      clear hS
      refine till_read (i := 15) (c := 16) (v := .slice ya ye yc) (T := fun W => Fq W V.heap.size X6 g2 k cap p xa xe xc ya ye yc P) rfl rfl (by kernel_rfl) (by kernel_rfl) (by kernel_rfl) (by kernel_rfl) (by kernel_rfl) (fun _ _ _ h => h) (fun L w => Iff.rfl) (fun L w h1 h2 => h2) (Or.inl ⟨by rfl, fun w h => by have q := h.cg; go_simp⟩) hSb (fun hS => ?_)
      simp only [List.getElem_toArray, List.getElem_cons_zero, List.getElem_cons_succ, Act.put, List.setIfInBounds_toArray, List.set_cons_zero, List.set_cons_succ]
      clear hSb
      refine till_read (i := 16) (c := 17) (v := .string (spell P)) (T := fun W => Fq W V.heap.size X6 g2 k cap p xa xe xc ya ye yc P) rfl rfl (by kernel_rfl) (by kernel_rfl) (by kernel_rfl) (by kernel_rfl) (by kernel_rfl) (fun _ _ _ h => h) (fun L w => Iff.rfl) (fun L w h1 h2 => h2) (Or.inl ⟨by rfl, fun w h => by have q := h.v2; go_simp⟩) hS (fun hSb => ?_)
      simp only [List.getElem_toArray, List.getElem_cons_zero, List.getElem_cons_succ, Act.put, List.setIfInBounds_toArray, List.set_cons_zero, List.set_cons_succ]
      clear hS
      refine till_take (i := 17) (v := .bool false) rfl (by kernel_rfl) (by kernel_rfl) (by kernel_rfl) (fun _ _ _ h => h) (fun L w => Iff.rfl) (Or.inl ⟨by rfl, fun w => by go_simp⟩) hSb (fun hS => ?_)
      simp only [List.getElem_toArray, List.getElem_cons_zero, List.getElem_cons_succ, Act.put, List.setIfInBounds_toArray, List.set_cons_zero, List.set_cons_succ]
      clear hSb
      refine till_take (i := 18) (v := .bool false) rfl (by kernel_rfl) (by kernel_rfl) (by kernel_rfl) (fun _ _ _ h => h) (fun L w => Iff.rfl) (Or.inl ⟨by rfl, fun w => by go_simp⟩) hS (fun hSb => ?_)
      simp only [List.getElem_toArray, List.getElem_cons_zero, List.getElem_cons_succ, Act.put, List.setIfInBounds_toArray, List.set_cons_zero, List.set_cons_succ]
      clear hS
      refine till_done (by kernel_rfl) ?_ _
      clear hSb
      exact ⟨rfl, rfl⟩
    case hR =>
      rintro a' U1 ⟨rfl, hU1⟩
      rw [← hU1] at HO KD
      clear q0 hU1
      gi_wp2
      gi_loopw [46] (fun ti wr => ∃ j : Nat, j ≤ xe ∧ ti = .int .i64 j ∧ Hid (Wo V U1 wr Z p xa xe xc)) (fun ti _ => xe - (intOf ti).toNat)
      case atStart => exact ⟨0, by omega, rfl, HO.out⟩
      case round =>
        obtain ⟨j, hj2, rfl, HK⟩ := hrel
        obtain ⟨L, hO, hb, h8, hkc⟩ := HK.out
        by_cases hlt : j < xe
        · obtain ⟨g, rfl, hBg, q1, f1⟩ := hO.cell hlt
          obtain ⟨y, Hy⟩ : ∃ y, Hid (L.getD j 0 = y) := ⟨_, rfl⟩
          have hy : y < 256 := by rw [← Hy.out]; exact getD_lt hO.lt j
          rw [Hy.out] at q1
          have NW : Hid (Wo V U1 (wr.setCell ⟨g, j, none⟩ (.int .u8 ((y ^^^ 5 : Nat) : Int))) Z p (some ⟨g, 0, none⟩) xe xc) := by
            have hz := HZ.out.1
            refine ⟨L.set j (y ^^^ 5), hO.set rfl hlt (xor_lt8 hy (by omega)), hb.setCell (by show V.heap.size ≤ g; omega) _, ?_, hkc.trans (KeepC.of_set _ _ wr ⟨g, j, none⟩ _ (.inr hBg))⟩
            exact Boxed.blk h8 (Below.heap_setCell wr ⟨g, j, none⟩ _ _ (by show V.heap.size ≠ g; omega))
          have i2 : (j : Int) < (xe : Int) := by omega
          have x5 : bits BinOp.xor IntKind.u8 (y : Int) 5 = ((y ^^^ 5 : Nat) : Int) := xor_u8 y 5 hy (by omega)
          clear hO hb h8 hkc HK HO
          gi_wp2
          go_roundw
          case rel => exact ⟨j + 1, by omega, by go_num, NW.out⟩
          case measure => simp [intOf]; omega
        · have c8 : wr.cell? ⟨V.heap.size, 0, none⟩ = some (.int .i64 (p : Int)) := h8.cell
          have f8 := h8.frozen
          obtain ⟨U3, HU3⟩ : ∃ U3, Hid (wr.setCell ⟨V.heap.size, 0, none⟩ (.int .i64 ((p : Int) + 1)) = U3) := ⟨_, rfl⟩
          have b83 : Boxed U3 V.heap.size 3 (.int .i64 ((p : Int) + 1)) := by rw [← HU3.out]; exact h8.set _
          have bel3 : Below V.heap.size V U3 := by rw [← HU3.out]; exact hb.setCell (by show V.heap.size ≤ V.heap.size; omega) _
          have k3 : KeepC (fun b => b = V.heap.size) V1.heap.size Z U U3 := by
            rw [SV.out] at KD ⊢
            rw [← HU3.out]
            exact (KD.out.trans hkc).trans (KeepC.of_set _ _ wr ⟨V.heap.size, 0, none⟩ _ (.inl rfl))
          have c83 : (wr.setCell ⟨V.heap.size, 0, none⟩ (.int .i64 ((p : Int) + 1))).cell? ⟨V.heap.size, 0, none⟩ = some (.int .i64 ((p : Int) + 1)) := by rw [HU3.out]; exact b83.cell
          have c33 : (wr.setCell ⟨V.heap.size, 0, none⟩ (.int .i64 ((p : Int) + 1))).cell? ⟨X3, 0, none⟩ = some (.int .i64 stop) := by rw [HU3.out]; exact H3.out U3 bel3
          have pb := PB.out
          have ln : (((pre ++ [x]).length : Nat) : Int) = (p : Int) + 1 := by rw [List.length_append, Hp.out]; simp
          clear HO HK hO
          by_cases hst : (p : Int) + 1 = stop
          · have F4 : Hid (postC (fun b => b = V.heap.size) V1.heap.size Z (fun pre U => Below V.heap.size V U ∧ Boxed U V.heap.size 3 (.int .i64 (pre.length : Int))) (fun c pre U => c = .exit 2 ∧ Below V.heap.size V U ∧ Boxed U V.heap.size 3 (.int .i64 (pre.length : Int)) ∧ (pre.length : Int) = stop ∧ pre.length ≤ k) (pre ++ [x]) U (.exit 2) ⟨#[], []⟩ U3) :=
              ⟨k3, rfl, bel3, by rw [ln]; exact b83, by rw [ln]; exact hst, by have := HZ.out.2; rw [List.length_append, Hp.out]; simp; omega⟩
            have hs2 : ((p : Int) + 1 == stop) = true := by simp [hst]
            clear k3 bel3 b83 hb h8 hkc KD hst
            gi_wp2
            rw [HU3.out]
            exact F4.out
          · have F4 : Hid (postC (fun b => b = V.heap.size) V1.heap.size Z (fun pre U => Below V.heap.size V U ∧ Boxed U V.heap.size 3 (.int .i64 (pre.length : Int))) (fun c pre U => c = .exit 2 ∧ Below V.heap.size V U ∧ Boxed U V.heap.size 3 (.int .i64 (pre.length : Int)) ∧ (pre.length : Int) = stop ∧ pre.length ≤ k) (pre ++ [x]) U .normal ⟨#[], []⟩ U3) :=
              ⟨k3, bel3, by rw [ln]; exact b83⟩
            have hs2 : ((p : Int) + 1 == stop) = false := by simp [hst]
            clear k3 bel3 b83 hb h8 hkc KD hst
            gi_wp2
            rw [HU3.out]
            exact F4.out
  case done =>
    rintro D Z xs U hD hZ ⟨kk, q1, q2⟩ ⟨h1, h2⟩ hKD
    have lx : xs.length = k := by
      have h1 := congrArg List.length q2
      rw [List.length_map, cks_all (by omega)] at h1
      rw [hk.out.1]
      unfold blks
      omega
    exact hN D xs.length U ⟨by have := SV.out; omega, lx, h1, h2, hKD⟩
  case stop =>
    rintro D Z c pre U hD hZ hSp ⟨rfl, h1, h2, h3, h4⟩ hKD
    have F5 := hX D pre.length U ⟨by have := SV.out; omega, h3, h1, h2, hKD, h4⟩
    gi_wp2
    exact F5
end Go.Proofs.YtmkknklkdgkbaaaDoor

/- Le -/
/- FrameBlocks: two passes over the blocks, and what was handed in kept. -/
namespace Go.Proofs.YtmkknklkdgkbaaaDoor
open Go.ChangeShapes Go.WideShapes Go.ChangeAt Go.RowKit Go.Shelf
set_option maxRecDepth 20000
set_option linter.unusedVariables false
set_option linter.unusedSimpArgs false
attribute [local go_sem] Oper.semAt_some
/- what holds behind the set-up, and all along -/
structure Fa (w V : World) (X6 g2 cap K k n ck B0 g : Nat) (ak : Option Addr) (l : List Nat) (stop : Int) : Prop where
  fc : Fc V w.heap.size X6 g2 cap K k n ck B0 ak l stop
  blk : Blk V g (l ++ marks)
  res : Boxed V (w.heap.size + 1) 4 (.bool false)
  bel : Below w.heap.size w V
theorem Fa.below {w V U : World} {X6 g2 cap K k n ck B0 g : Nat} {ak : Option Addr} {l : List Nat} {stop : Int} (h : Fa w V X6 g2 cap K k n ck B0 g ak l stop) (hb : Below V.heap.size V U) : Fa w U X6 g2 cap K k n ck B0 g ak l stop :=
  ⟨h.fc.below hb, h.blk.below hb h.blk.lt, Boxed.blk h.res (hb.block _ h.res.lt), h.bel.trans (hb.mono h.bel.size)⟩
set_option maxHeartbeats 4000000 in
theorem blocks5_n {w : World} {a : Option Addr} {n c : Nat} {l : List Nat} (stop : Int) (hS : Hid (Sln w a n l)) (hc : Hid (a = none → c = 0)) (hnc : n ≤ c) (hM : Hid (Mst w)) (hK : Hid (Kst w)) (hn : Hid (n + 6 ≤ 140737488352256)) :
    Calls Tryd.prog 5 #[.slice a n c, .int .i64 stop] w fun e w' => e = .returned (.bool true) ∧ Hid (Below w.heap.size w w') := by
  have nB : Hid (n = l.length ∧ n ≤ 140737488352256 ∧ ∀ x ∈ l, x < 256) := ⟨hS.out.len, by rw [hS.out.len]; exact hS.out.sli.2.1, hS.out.lt⟩
  have h19 : Hid (19 < w.heap.size) := cell_lt (hK.out 0 (by omega))
  obtain ⟨W0, HW0⟩ : ∃ W0, Hid ((w.alloc (.cells #[.int .i64 stop] 3)).alloc (.cells #[.bool false] 4) = W0) := ⟨_, rfl⟩
  have b0 : Below w.heap.size w W0 := by rw [← HW0.out]; exact ((Below.refl _ w).alloc (Nat.le_refl _) _).alloc (by simp) _
  have M0 : Hid (Mst W0) := hM.out.below b0 hM.out.lt
  have K0 : Hid (Kst W0) := hK.out.below b0 h19.out
  have S0 : Hid (Sln W0 a n l) := hS.out.below b0
  have X0 : Hid (Boxed W0 w.heap.size 3 (.int .i64 stop) ∧ Boxed W0 (w.heap.size + 1) 4 (.bool false) ∧ Below w.heap.size w W0 ∧ W0.heap.size = w.heap.size + 2) := by
    refine ⟨?_, ?_, b0, by rw [← HW0.out]; simp⟩
    · rw [← HW0.out]; exact (Boxed.new w 3 _).alloc _
    · have h := Boxed.new (w.alloc (.cells #[.int .i64 stop] 3)) 4 (.bool false)
      rw [World.size_alloc, HW0.out] at h
      exact h
  clear b0
  refine (callsIn_wide (n := 20)).1 ?_
  refine callsIn_of_wp_marks Tryd.func5 rfl trivial ?_ rfl
  simp only [Tryd.ntmps5, List.size_toArray, List.length_cons, List.length_nil, Nat.reduceAdd, Nat.reduceSub, Array.replicate_succ, Array.replicate_zero, List.push_toArray, List.append_toArray, List.nil_append, List.cons_append]
  obtain ⟨k, Hk⟩ : ∃ k, Hid (blks n = k) := ⟨_, rfl⟩
  gi_wp2_with (first
    | (refine ⟨trivial, ?_⟩; gi_at_call 9; rw [HW0.out]; refine (callsIn_wide.2 (alive_n M0 K0)).mono ?_; rintro e W1 ⟨rfl, H1⟩
       have S1 : Hid (Sln W1 a n l) := S0.out.below H1.out)
    | (refine ⟨trivial, ?_⟩; gi_at_call 10; refine (callsIn_wide.2 (bytes_n S1 hc)).mono ?_; rintro e W2 ⟨g, N, rfl, H2⟩
       have S2 : Hid (Sln W2 a n l) := S1.out.below H2.out.2.2.2)
    | (refine ⟨trivial, ?_⟩; gi_at_call 21; refine (callsIn_wide.2 (refBlocks_n S2 hc hnc)).mono ?_; rintro e W3 ⟨g2, cap, rfl, H3⟩
       obtain ⟨W4, HW4⟩ : ∃ W4, Hid (W3.alloc (.cells #[.slice (some ⟨g2, 0, none⟩) (blks n) cap] 47) = W4) := ⟨_, rfl⟩
       have b34 : Hid (Below W3.heap.size W3 W4) := by rw [← HW4.out]; exact (Below.refl _ W3).alloc (Nat.le_refl _) _
       have S4 : Hid (Sln W4 (some ⟨g, 0, none⟩) n l) := by
         obtain ⟨vs, h1, h2⟩ := H3.out
         have hB := ((H2.out.2.2.1.below h2 H2.out.2.2.1.lt).below b34.out (by have := H2.out.2.2.1.lt; have := h2.size; omega))
         have h3 := hB.sln (by
           intro x hx
           rcases List.mem_append.1 hx with h | h
           · exact nB.out.2.2 x h
           · have h4 : ∀ x ∈ marks, x < 256 := by decide
             exact h4 x h) (by rw [List.length_append, ← nB.out.1]; exact hn.out)
         have h4 := h3.take (k := n) (by rw [List.length_append]; have := nB.out.1; omega)
         rw [List.take_append_of_le_length (by have := nB.out.1; omega), List.take_of_length_le (by have := nB.out.1; omega)] at h4
         exact h4)
    | (refine ⟨trivial, ?_⟩; gi_at_call 22; rw [HW4.out]; refine (callsIn_wide.2 (blocks_n S4 (fun h => by cases h))).mono ?_; rintro e V ⟨K, ak, ck, rfl, HV⟩))
  obtain ⟨vs, hBl, h23⟩ := H3.out
  have bV := HV.out.2.2.2.2
  have b13 : Below W1.heap.size W1 W3 := H2.out.2.2.2.trans (h23.mono H2.out.2.2.2.size)
  have b14 : Below W1.heap.size W1 W4 := b13.trans (b34.out.mono b13.size)
  have b1V : Below W1.heap.size W1 V := b14.trans (bV.mono b14.size)
  have b0V : Below W0.heap.size W0 V := H1.out.trans (b1V.mono H1.out.size)
  have b3V : Below W3.heap.size W3 V := b34.out.trans (bV.mono b34.out.size)
  have b2V : Below W2.heap.size W2 V := h23.trans (b3V.mono h23.size)
  have FA : Hid (Fa w V W3.heap.size g2 cap K k n ck W4.heap.size g ak l stop) := by
    have x6 : Boxed W4 W3.heap.size 47 (.slice (some ⟨g2, 0, none⟩) (blks n) cap) := by rw [← HW4.out]; exact Boxed.new W3 47 _
    refine ⟨⟨?_, ?_, ?_, HV.out.1, HV.out.2.1⟩, H2.out.2.2.1.below b2V H2.out.2.2.1.lt, Boxed.blk X0.out.2.1 (b0V.block _ X0.out.2.1.lt), X0.out.2.2.1.trans (b0V.mono X0.out.2.2.1.size)⟩
    · exact (Boxed.blk X0.out.1 (b0V.block _ X0.out.1.lt)).cell
    · rw [← Hk.out]; exact (Boxed.blk x6 (bV.block _ x6.lt)).cell
    · rw [← Hk.out]; exact hBl.pcs.below b3V
  have KN : Hid (k = blks n ∧ n = l.length ∧ n ≤ 140737488352256 ∧ ∀ x ∈ l, x < 256) := ⟨Hk.out.symm, nB.out⟩
  have N6 : Hid (N = n + 6) := H2.out.1
  clear hBl h23 bV b13 b14 b1V b0V b3V b2V S4 S2 S1 S0 M0 K0 X0 H1 H2 H3 HV b34 HW4 HW0
  refine wpIn_loop_rounds 3 ?_
  rw [roundsIn_succ]
  gi_wp2
  refine pass5 FA.out.fc KN (fun D m U H => ?_) (fun D m U H => ?_)
  all_goals
    have FU : Hid (Fa w U W3.heap.size g2 cap K k n ck W4.heap.size g ak l stop) := FA.out.below H.out.2.2.1
    have c8 : U.cell? ⟨V.heap.size, 0, none⟩ = some (.int .i64 (m : Int)) := H.out.2.2.2.1.cell
    have c6 := FU.out.fc.c6
    have c3 := FU.out.fc.c3
    have E1 : Hid ((m : Int) = (k : Int) ∨ (m : Int) = stop) := by first | (left; have := H.out.2.1; omega) | (right; exact H.out.2.1)
    have HD : Hid (U.heap[D]? = some (.deferred (some [])) ∧ w.heap.size + 1 < D) := by
      have h1 := FA.out.res.lt
      have h2 := H.out.1
      refine ⟨by first | exact H.out.2.2.2.2 | exact H.out.2.2.2.2.1, by omega⟩
    clear H
    by_cases hmk : (m : Int) = (k : Int)
  all_goals
    have n1 : ((m : Int) == (k : Int)) = decide ((m : Int) = (k : Int)) := by rfl
    first
    | (have n2 : ((m : Int) != (k : Int)) = true := by simp [hmk]
       have n3 : ((m : Int) != stop) = false := by simp [E1.out.resolve_left hmk]
       clear n1 hmk)
    | (have n2 : ((m : Int) != (k : Int)) = false := by simp [hmk]
       clear n1 hmk)
    gi_wp2
    clear c8 c6 c3
    rw [roundsIn_succ]
    gi_wp2
    refine pass5 FU.out.fc KN (fun D2 m2 U2 H => ?_) (fun D2 m2 U2 H => ?_)
  all_goals
    have FX : Hid (Fa w U2 W3.heap.size g2 cap K k n ck W4.heap.size g ak l stop) := FU.out.below H.out.2.2.1
    have c8 : U2.cell? ⟨U.heap.size, 0, none⟩ = some (.int .i64 (m2 : Int)) := H.out.2.2.2.1.cell
    have c6 := FX.out.fc.c6
    have c3 := FX.out.fc.c3
    have E2 : Hid ((m2 : Int) = (k : Int) ∨ (m2 : Int) = stop) := by first | (left; have := H.out.2.1; omega) | (right; exact H.out.2.1)
    have HD2 : Hid (U2.heap[D2]? = some (.deferred (some [])) ∧ U2.heap[D]? = some (.deferred (some [])) ∧ w.heap.size + 1 < D ∧ D < D2) := by
      have h1 := (Array.getElem?_eq_some_iff.1 HD.out.1).1
      have h2 := H.out.1
      exact ⟨by first | exact H.out.2.2.2.2 | exact H.out.2.2.2.2.1, (H.out.2.2.1.block D h1).trans HD.out.1, HD.out.2, by omega⟩
    clear H HD
    by_cases hmk : (m2 : Int) = (k : Int)
  all_goals
    have n1 : ((m2 : Int) == (k : Int)) = decide ((m2 : Int) = (k : Int)) := by rfl
    first
    | (have n2 : ((m2 : Int) != (k : Int)) = true := by simp [hmk]
       have n3 : ((m2 : Int) != stop) = false := by simp [E2.out.resolve_left hmk]
       clear n1 hmk)
    | (have n2 : ((m2 : Int) != (k : Int)) = false := by simp [hmk]
       clear n1 hmk)
    gi_wp2
    clear c8 c6 c3 n2
    rw [roundsIn_succ]
    have KB : Hid (Blk U2 g (l ++ marks)) := FX.out.blk
    have SB : Hid (Sln U2 a n l) := hS.out.below FX.out.bel
    gi_wp2_with (refine ⟨trivial, ?_⟩; gi_at_call 12; refine (callsIn_wide.2 (kept_n KB N6 SB)).mono ?_; rintro en wK ⟨rfl, HK8⟩
                 have bK : Below U2.heap.size U2 wK := by obtain ⟨j, hj⟩ := HK8.out; rw [hj]; exact below_drewN (Below.refl _ _) j
                 have FK := FX.out.below bK
                 have cR := FK.res.cell
                 have fR := FK.res.frozen)
    obtain ⟨W5, HW5⟩ : ∃ W5, Hid (wK.setCell ⟨w.heap.size + 1, 0, none⟩ (.bool true) = W5) := ⟨_, rfl⟩
    have bR : Boxed W5 (w.heap.size + 1) 4 (.bool true) := by rw [← HW5.out]; exact FK.res.set _
    have oth : ∀ b, b ≠ w.heap.size + 1 → W5.heap[b]? = wK.heap[b]? := fun b h1 => by rw [← HW5.out]; exact Below.heap_setCell wK ⟨w.heap.size + 1, 0, none⟩ _ b h1
    have hd := HD2.out
    have l1 := (Array.getElem?_eq_some_iff.1 hd.1).1
    have l2 := (Array.getElem?_eq_some_iff.1 hd.2.1).1
    have d2 : W5.heap[D2]? = some (.deferred (some [])) := (oth D2 (by omega)).trans ((bK.block D2 l1).trans hd.1)
    have d1 : (W5.putObj D2 (.deferred none)).heap[D]? = some (.deferred (some [])) := (World.putObj_heap_other (by omega)).trans ((oth D (by omega)).trans ((bK.block D l2).trans hd.2.1))
    have bR1 := boxed_at (D := D2) (o := .deferred none) bR (by omega)
    have bR2 := boxed_at (D := D) (o := .deferred none) bR1 (by omega)
    have e0 := bR2.cell
    have bel5 : Below w.heap.size w W5 := by rw [← HW5.out]; exact FK.bel.setCell (by show w.heap.size ≤ w.heap.size + 1; omega) _
    have p2 := put_below (.deferred none) (show w.heap.size ≤ D2 by omega) (Array.getElem?_eq_some_iff.1 d2).1
    have p1 := put_below (.deferred none) (show w.heap.size ≤ D by omega) (Array.getElem?_eq_some_iff.1 d1).1
    have FIN : Hid (Below w.heap.size w ((W5.putObj D2 (.deferred none)).putObj D (.deferred none))) := (bel5.trans p2).trans p1
    clear bel5 p2 p1 bR bR1 bR2 oth l1 l2 hd FK bK
    rw [HW5.out]
    refine ⟨by simp, .inl ⟨_, _, rfl, run_takeDeferred d2, ?_⟩⟩
    refine ⟨by simp, .inl ⟨_, _, rfl, run_takeDeferred d1, ?_⟩⟩
    exact ⟨.bool true, by simp [results, Tryd.results5, go_sem, e0], rfl, FIN.out⟩
end Go.Proofs.YtmkknklkdgkbaaaDoor

/- FrameBlocks -/
/- For every list of bytes and every number the Go function FrameBlocks (Blocks goes over the blocks that the document tells, twice, as far as it is gone over, each block a copy of its own) returns true and leaves its arguments as they were. Condition: the listed variables hold what the program lays (tied by the card). -/
namespace Go.Proofs.YtmkknklkdgkbaaaDoor.frameBlocks
open Go.ChangeShapes Go.WideShapes Go.ChangeAt Go.RowKit
set_option linter.unusedVariables false
theorem own : ownKnob Tryd.prog.godebug = none := by kernel_rfl
theorem laidOut : laidOutB Tryd.prog = true := by kernel_rfl
def names : List (String × Nat × List UInt8) := [("bollard/api.ErrNumber", 0, [98, 111, 108, 108, 97, 114, 100, 58, 32, 110, 117, 109, 98, 101, 114]), ("bollard/api.ErrLarge", 1, [98, 111, 108, 108, 97, 114, 100, 58, 32, 108, 97, 114, 103, 101])]
theorem door_met (os : Os) (args : Array Value) : laidMetH Tryd.prog Rows.frameBlocksRow.laid ((World.doorLaid Tryd.prog 400 os).forCall (fun _ _ => 0) ⟨#[], args, []⟩).memory :=
  laidMetH_of_parts3 (fuel := 8) (laidMet_of_run' 8 (by kernel_rfl) (by kernel_rfl)) (by kernel_rfl) (by kernel_rfl)
theorem globs : ∀ v ∈ names, Tryd.prog.globalNamed v.1 = some v.2.1 ∧ (Tryd.prog.globals[v.2.1]?).map (·.type) = some 30 := by
  have h : (names.all fun v => (Tryd.prog.globalNamed v.1 == some v.2.1) && ((Tryd.prog.globals[v.2.1]?).map (·.type) == some 30)) = true := by kernel_rfl
  intro v hv
  have h2 := List.all_eq_true.1 h v hv
  simpa using h2
theorem sents {W : World} (h : laidMetH Tryd.prog Rows.frameBlocksRow.laid W) : ∃ E, Sent W 2 E ∧ Kst W ∧ Mst W := by
  obtain ⟨h1, h2, h3⟩ := laid_all names rfl (by kernel_rfl) h
  obtain ⟨E, h4⟩ := sent_of2 (M := 2) names globs (by decide) (by
    intro g hg
    have h : ∀ g, g < 2 → ∃ v ∈ names, v.2.1 = g := by decide
    exact h g hg) h3
  exact ⟨E, h4, h1, h2⟩
set_option maxRecDepth 100000 in
theorem lifted (os : Os) (started : os.Started) (H : Type) (enc : TypeId × Value → H) :
    ReturnsInHanded {} Tryd.checked os 5 .any (fun w args => (Rows.frameBlocksSpec.pre enc Tryd.prog Tryd.f5 [] false w args ∧ laidMetH Tryd.prog Rows.frameBlocksRow.laid w) ∧ sizedMet enc Tryd.prog Tryd.f5 (OpenSpec.ofChange Rows.frameBlocksSpec) false w args)
      (Rows.frameBlocksSpec.post enc Tryd.prog Tryd.f5 false true false false) := by
  refine returnsInHanded_of_change_and (C := Tryd.checked) (X := fun w _ => laidMetH Tryd.prog Rows.frameBlocksRow.laid w) (fun _ _ _ hh h => h.of_heap hh) own started (by kernel_rfl) Tryd.func5
    (ChangeSpec.witness_shaped (enc := enc) (C := Tryd.checked) (os := os) (X := fun w _ => laidMetH Tryd.prog Rows.frameBlocksRow.laid w) false (World.doorLaid Tryd.prog 400 os) #[.slice none 0 0, .int .i64 0] 8 rfl (World.shaped_of_RefB (by kernel_rfl) (by kernel_rfl)) (by kernel_rfl) (by kernel_rfl) (by kernel_rfl) (door_met os _)) ?_
  intro W base args ds gs before hval0 hW _ hsz0 hL _
  have hval : ∀ (j : Nat) t v, Tryd.f5.params[j]? = some t → args[j]? = some v → Value.okWide Tryd.prog W .any base t v := hval0
  have hsz : (DataW.weightsEach Tryd.prog (Tryd.f5.params.toList ++ Rows.frameBlocksSpec.plain.varTypes Tryd.prog) (ds ++ gs)).all (· ≤ reachBytes) = true := hsz0
  have hW' := hW
  obtain ⟨p, q, hA0, hV, rfl, hfz, hnd⟩ := hW
  have hA : DataW.TrodAll enc Tryd.prog W 0 (fun _ => true) true Tryd.f5.params.toList args.toList ds p := hA0
  rw [Tryd.params5] at hA hval hsz
  obtain ⟨v0, vs0, d0, ds0, p0, q0, hargs, rfl, rfl, h0, r0⟩ := trodAll_cons hA
  obtain ⟨v1, vs1, d1, ds1, p1, q1, rfl, rfl, rfl, h1, r1⟩ := trodAll_cons r0
  obtain ⟨rfl, rfl, rfl⟩ := trodAll_nil r1
  obtain rfl : args = #[v0, v1] := by cases args; simp_all
  obtain ⟨rfl, rfl⟩ := trodVars_none hV
  have k0 := h0
  have lt0 : ∀ x ∈ p0, x.block < W.heap.size := by obtain ⟨m, hm⟩ := k0; exact DataW.trod_lt m _ _ _ hm
  have s0 : ∀ n ∈ d0.weights Tryd.prog 26, n ≤ reachBytes := fun n hn => by
    have := List.all_eq_true.1 hsz n (DataW.weights_mem_each (j := 0) (t := 26) (d := d0) rfl rfl n hn)
    simpa using this
  obtain ⟨aa0, la0, ca0, rfl⟩ := okWide_slice Tryd.underlying26 (hval 0 26 v0 rfl rfl)
  obtain ⟨f0, hf0⟩ := h0
  simp only [Value.cells] at hf0
  obtain ⟨a0, n0, c0, l0, e0, S0, hk0, hm0⟩ := open_bytes hf0 s0
  simp only [Value.slice.injEq] at e0
  obtain ⟨rfl, rfl, rfl⟩ := e0
  have z0 : Hid (aa0 = none → ca0 = 0) := nil_cap27 hf0
  obtain ⟨x1, rfl, rfl, rfl, wx1⟩ := open_int Tryd.underlying3 (hval 1 3 v1 rfl rfl) h1
  obtain ⟨E, hS0, hK0, hM0⟩ := sents hL
  have hS : Hid (Sent W 2 E) := hS0
  have hK : Hid (Kst W) := hK0
  have hM : Hid (Mst W) := hM0
  clear hA0 hval0 hsz0 hsz
  refine (blocks5_n x1 S0 z0 hk0 hM hK (by show _ ≤ _; omega)).mono fun e W' ⟨he, bel0⟩ => ?_
  have bel := bel0.out
  subst he
  exact ⟨_, rfl, _, _, _, [], _, [], hW', trodAll_mk1 (shut_bool Tryd.underlying4 _), (trodAll_cons_mk (Below.trod laidOut (by kernel_rfl) (of_decide_eq_true (by kernel_rfl)) k0 bel lt0) (trodAll_cons_mk (shut_int Tryd.underlying3 wx1) trodAll_mk0)), rfl, bel.frame _, fun h => by cases h⟩
theorem said : Rows.FrameBlocksSaid :=
  OpenClaim.holds_of_wide 5 Tryd.f5 rfl rfl rfl rfl rfl rfl rfl ⟨rfl, rfl, rfl, rfl, rfl⟩ rfl rfl rfl rfl rfl (by kernel_rfl) Tryd.func5 (by kernel_rfl)
    (of_decide_eq_true (by kernel_rfl)) (by unfold Func.isWrapper; first | (rw [if_pos (by decide +kernel)]; kernel_rfl) | (rw [if_neg (by decide +kernel)]; exact ⟨rfl, rfl⟩))
    (fun os started H enc _ => lifted os started H enc)
theorem plain (f : FuncId) (fn : Func) (hf : Tryd.pinned.checked.prog.funcNamed "bollard/bollardlaw06.FrameBlocks" = some f) (hfn : Tryd.pinned.checked.prog.funcs[f]? = some fn) :
    true = Tryd.pinned.checked.prog.looks [] ∧ ∀ (j : Nat) t, fn.params[j]? = some t → Tryd.pinned.checked.prog.wantsStandIn t = false := by
  obtain rfl : f = 5 := Option.some.inj ((show Tryd.prog.funcNamed "bollard/bollardlaw06.FrameBlocks" = some 5 by kernel_rfl).symm.trans hf) |>.symm
  obtain rfl : fn = Tryd.f5 := (Option.some.inj (Tryd.func5.symm.trans hfn)).symm
  refine ⟨by kernel_rfl, fun j t ht => ?_⟩
  rw [Tryd.params5] at ht
  have hm : t ∈ [26, 3] := by simpa using Array.mem_of_getElem? ht
  have hall : ([26, 3].all fun u => !Tryd.prog.wantsStandIn u) = true := by kernel_rfl
  exact (show Tryd.prog.wantsStandIn t = false by simpa using List.all_eq_true.1 hall t hm)
theorem card : Rows.FrameBlocksCardSaid :=
  Claim7.holds_tied_plain_at .later [] _ _ _ _ said (fun _ h => by cases h) (by kernel_rfl) (fun _ h => by cases h) frameBlocks_row_tie rfl ⟨rfl, rfl⟩ (by kernel_rfl) rfl plain (by kernel_rfl)
end Go.Proofs.YtmkknklkdgkbaaaDoor.frameBlocks
namespace Go.Proofs.YtmkknklkdgkbaaaDoor
theorem frameBlocks_holds : Rows.FrameBlocksCardSaid := frameBlocks.card
#print axioms frameBlocks_holds
end Go.Proofs.YtmkknklkdgkbaaaDoor
