/- A list of shards that the call made: append, swap, and what it is to Decode. -/
import Derived.Test.YtokkjdgfhpocdaaDoorEr
import Derived.Test.YtokkjdgfhpocdaaDoorFa
import Derived.Deep.MidRow
namespace Go.Proofs.YtokkjdgfhpocdaaDoor
open Go.ChangeShapes Go.WideShapes Go.ChangeAt Go.RowKit
set_option linter.unusedVariables false
set_option linter.unusedSimpArgs false
theorem info54 : (Tryd.prog.info? 54).map (fun i => (i.zero, i.size, i.bytes)) = some (some (.agg #[.int .i64 0, .slice none 0 0]), 2, 32) := by kernel_rfl
theorem size54 : (Tryd.prog.info? 54).map (·.size) = some 2 := by kernel_rfl
/- the cells of the first i shards, in their order -/
def shc (s : Nat) (bs : List Nat) (t : Nat) : Value := if t % 2 = 0 then .int .i64 ((t / 2 : Nat) : Int) else sv s (bs.getD (t / 2) 0)
def shcs (s : Nat) (bs : List Nat) (i : Nat) : List Value := (List.range (i * 2)).map (shc s bs)
theorem shcs_succ (s : Nat) (bs : List Nat) (i : Nat) : shcs s bs (i + 1) = shcs s bs i ++ [.int .i64 (i : Int), sv s (bs.getD i 0)] := by
  have e : (i + 1) * 2 = (i * 2 + 1) + 1 := by omega
  have h1 : shc s bs (i * 2) = .int .i64 (i : Int) := by
    have q1 : i * 2 % 2 = 0 := by omega
    have q2 : i * 2 / 2 = i := by omega
    simp [shc, q1, q2]
  have h2 : shc s bs (i * 2 + 1) = sv s (bs.getD i 0) := by
    have q1 : (i * 2 + 1) % 2 = 1 := by omega
    have q2 : (i * 2 + 1) / 2 = i := by omega
    simp [shc, q1, q2]
  unfold shcs
  rw [e, List.range_succ, List.range_succ]
  simp [h1, h2]
def Own (w : World) (B g cap s i : Nat) (bs : List Nat) : Prop := w.ownsRow B 54 2 (.slice (some ⟨g, 0, none⟩) i cap) i (shcs s bs i)
theorem Own.new (w : World) (B s : Nat) (bs : List Nat) (hB : B ≤ w.heap.size) : Own (w.alloc (.cells #[] 54)) B w.heap.size 0 s 0 bs :=
  World.ownsRow_made w #[] 0 hB (by unfold maxLen; omega) (by simp)
theorem app_shard (w : World) (B g i cap s b : Nat) (bs : List Nat) (own : Own w B g cap s i bs) (hB : B ≤ w.heap.size) (hi : i ≤ 1000) (hb : bs.getD i 0 = b) :
    ∃ g' cap' w', (Builtin.append_ #[43, 43] 43 #[.slice (some ⟨g, 0, none⟩) i cap, .slice (some ⟨w.heap.size, 0, none⟩) 1 1]).run Tryd.prog (w.alloc (.cells #[.int .i64 (i : Int), sv s b] 54)) = .ok (.slice (some ⟨g', 0, none⟩) (i + 1) cap') w' ∧ Own w' B g' cap' s (i + 1) bs ∧ (w.alloc (.cells #[.int .i64 (i : Int), sv s b] 54)).grownBy w' (some g) := by
  obtain ⟨x, hx, hz0, hz1, hz2⟩ := info_parts info54
  have b1 : (w.alloc (.cells #[.int .i64 (i : Int), sv s b] 54)).heap[w.heap.size]? = some (.cells #[.int .i64 (i : Int), sv s b] 54 (0, 0)) := by
    show (w.heap.push _)[w.heap.size]? = _
    simp
  obtain ⟨v', w', hrun, hown, hgr, _⟩ := run_append_own (P := Tryd.prog) (w := w.alloc (.cells #[.int .i64 (i : Int), sv s b] 54)) B 43 43 54 x _ 2 32 Tryd.underlying43 hx hz0 hz1 hz2 rfl (by decide) _ i (shcs s bs i) (own.alloc _) ⟨w.heap.size, 0, none⟩ 1 1 [.int .i64 (i : Int), sv s b] rfl (fun j u hu => by
      have hj : j < 2 := by
        have := (List.getElem?_eq_some_iff.1 hu).1
        simpa using this
      rw [Addr.add_mid]
      simp only [World.cell?, b1]
      match j, hj with
      | 0, _ => simpa using hu
      | 1, _ => simpa using hu) (by
      intro u hu
      simp at hu
      rcases hu with rfl | rfl <;> rfl) (by unfold maxLen; omega) (by omega) (by simp; omega)
  rcases hown.2 with ⟨_, h0⟩ | ⟨g', cap', cur, rfl, _⟩
  · omega
  · refine ⟨g', cap', w', hrun, ?_, hgr⟩
    unfold Own
    rw [shcs_succ, hb]
    exact hown
/- the list in some order: at place a lies shard f a -/
structure Pc (w : World) (g s N : Nat) (bs : List Nat) (f : Nat → Nat) : Prop where
  c : ∀ a, a < N → w.rangeAt g (a * 2) [.int .i64 (f a : Int), sv s (bs.getD (f a) 0)]
  th : ∀ a, a < N → w.there g (a * 2) 2
theorem Own.pc {w : World} {B g cap s N : Nat} {bs : List Nat} (h : Own w B g cap s N bs) : Pc w g s N bs (fun a => a) := by
  have hc := h.cells (g := g) rfl
  have key : ∀ t, t < N * 2 → w.cell? ⟨g, t, none⟩ = some (shc s bs t) := by
    intro t ht
    have := hc t (shc s bs t) (by simp [shcs, ht])
    rw [Addr.add_mid] at this
    simpa using this
  have fz : ∀ t, w.frozen? ⟨g, t, none⟩ = false := by
    intro t
    rcases h.2 with ⟨h1, _⟩ | ⟨g', cap', cur, h1, _, hg, _⟩
    · simp at h1
    · simp at h1
      obtain ⟨rfl, _⟩ := h1
      simp [World.frozen?, hg]
  refine ⟨fun a ha j v hv => ?_, fun a ha j hj => ⟨?_, fz _⟩⟩
  · have hj : j < 2 := by
      have := (List.getElem?_eq_some_iff.1 hv).1
      simpa using this
    rw [key _ (by omega)]
    match j, hj with
    | 0, _ =>
      have q1 : (a * 2 + 0) % 2 = 0 := by omega
      have q2 : (a * 2 + 0) / 2 = a := by omega
      unfold shc
      rw [if_pos q1, q2]
      simpa using hv
    | 1, _ =>
      have q1 : ¬ (a * 2 + 1) % 2 = 0 := by omega
      have q2 : (a * 2 + 1) / 2 = a := by omega
      unfold shc
      rw [if_neg q1, q2]
      simpa using hv
  · rw [key _ (by omega)]
    rfl
theorem Pc.set {w : World} {g s N : Nat} {bs : List Nat} {f : Nat → Nat} (h : Pc w g s N bs f) (i x : Nat) (hi : i < N) : Pc (w.setCells g (i * 2) [.int .i64 (x : Int), sv s (bs.getD x 0)]) g s N bs (fun a => if a = i then x else f a) := by
  refine ⟨fun a ha => ?_, fun a ha => World.there_setCells (h.th a ha) _ _ _⟩
  by_cases e : a = i
  · subst e
    simp only [if_pos]
    exact World.rangeAt_setCells_same w g (a * 2) _ (h.th a ha)
  · simp only [if_neg e]
    refine World.rangeAt_setCells_apart (h.c a ha) _ _ _ ?_
    simp
    omega
theorem Pc.below {w w' : World} {g s N : Nat} {bs : List Nat} {f : Nat → Nat} (h : Pc w g s N bs f) (hb : Below w.heap.size w w') (hg : g < w.heap.size) : Pc w' g s N bs f :=
  ⟨fun a ha j v hv => (hb.cell (p := ⟨g, a * 2 + j, none⟩) hg).trans (h.c a ha j v hv), fun a ha j hj => by
    have h1 := h.th a ha j hj
    rw [World.cell?_of_block (w := w) (a := ⟨g, a * 2 + j, none⟩) (hb.block g hg), World.frozen?_of_block (w := w) (a := ⟨g, a * 2 + j, none⟩) (hb.block g hg)]
    exact h1⟩
structure Pf (N : Nat) (f : Nat → Nat) : Prop where
  lt : ∀ a, a < N → f a < N
  inj : ∀ a b, a < N → b < N → f a = f b → a = b
theorem Pf.id (N : Nat) : Pf N (fun a => a) := ⟨fun _ h => h, fun _ _ _ _ h => h⟩
def swp (f : Nat → Nat) (i j : Nat) : Nat → Nat := fun a => if a = j then f i else (fun a => if a = i then f j else f a) a
theorem Pf.swap {N : Nat} {f : Nat → Nat} (h : Pf N f) {i j : Nat} (hi : i < N) (hj : j < N) : Pf N (swp f i j) := by
  refine ⟨fun a ha => ?_, fun a b ha hb e => ?_⟩
  · unfold swp
    split
    · exact h.lt _ hi
    · show (if a = i then f j else f a) < N
      split
      · exact h.lt _ hj
      · exact h.lt _ ha
  · unfold swp at e
    by_cases a1 : a = j
    · by_cases b1 : b = j
      · omega
      · rw [if_pos a1, if_neg b1] at e
        by_cases b2 : b = i
        · simp only [if_pos b2] at e
          have := h.inj _ _ hi hj e
          omega
        · simp only [if_neg b2] at e
          have := h.inj _ _ hi hb e
          omega
    · rw [if_neg a1] at e
      by_cases a2 : a = i
      · simp only [if_pos a2] at e
        by_cases b1 : b = j
        · rw [if_pos b1] at e
          have := h.inj _ _ hj hi e
          omega
        · rw [if_neg b1] at e
          by_cases b2 : b = i
          · omega
          · simp only [if_neg b2] at e
            have := h.inj _ _ hj hb e
            omega
      · simp only [if_neg a2] at e
        by_cases b1 : b = j
        · rw [if_pos b1] at e
          have := h.inj _ _ ha hi e
          omega
        · rw [if_neg b1] at e
          by_cases b2 : b = i
          · simp only [if_pos b2] at e
            have := h.inj _ _ ha hj e
            omega
          · simp only [if_neg b2] at e
            exact h.inj _ _ ha hb e
theorem oth_cells {w : World} (g o : Nat) (u v : Value) : Oth g w (w.setCells g o [u, v]) := by
  show Oth g w ((w.setCell ⟨g, o, none⟩ u).setCell ⟨g, o + 1, none⟩ v)
  exact ((Oth.refl g w).setCell o u).setCell (o + 1) v
/- the first k of them are k shards of the blob -/
def lof (k s : Nat) (data : List Nat) (f : Nat → Nat) : List (Int × List Nat) := (List.range k).map fun a => ((f a : Int), shard k s data (f a))
theorem lof_nu {k s : Nat} {data : List Nat} {f : Nat → Nat} {i : Nat} (hi : i < k) : nu (lof k s data f) i = (f i : Int) := by simp [nu, lof, List.getD, hi]
theorem lof_by {k s : Nat} {data : List Nat} {f : Nat → Nat} {i : Nat} (hi : i < k) : by_ (lof k s data f) i = shard k s data (f i) := by simp [by_, lof, List.getD, hi]
theorem Pc.of {w : World} {g s k m : Nat} {bs data : List Nat} {f : Nat → Nat} (h : Pc w g s (k + m) bs f) (hf : Pf (k + m) f) (h1 : 1 ≤ m) (h2 : m ≤ k) (h3 : k + m ≤ 16) (hs : s = sz k data.length) (hs2 : s ≤ 1100) (sh : Shs w bs s (shards k m data)) (hd : ∀ x ∈ data, x < 256) :
    Of w (some ⟨g, 0, none⟩) k m data.length (lof k s data f) data := by
  have ls : (shards k m data).length = k + m := by simp [shards]
  refine ⟨⟨by simp [lof], by omega, .inr ⟨g, 0, rfl, fun i hi => ?_⟩, fun i hi => ?_⟩, fun i hi => ?_, fun i hi => ?_⟩
  · have hi2 : i < k + m := by omega
    have c0 := h.c i hi2 0 _ rfl
    have c1 := h.c i hi2 1 _ rfl
    have fl := hf.lt i hi2
    refine ⟨?_, some ⟨bs.getD (f i) 0, 0, none⟩, s, s, ?_, ?_, Nat.le_refl _, by omega, by simp⟩
    · rw [lof_nu hi]; simpa using c0
    · simpa using c1
    · rw [lof_by hi]
      have hb := sh.blk (f i) (by rw [ls]; exact fl)
      rw [shards_getD fl, ← hs] at hb
      have hl := shard_length k s data (f i)
      have := hb.sln (shard_lt hd (f i) (by omega) (by omega)) (by rw [hl]; omega)
      rw [hl] at this
      exact this
  · rw [lof_nu hi]
    have fl := hf.lt i (by omega)
    simp only [Lit.wf, Bool.and_eq_true, decide_eq_true_eq]
    have q1 : IntKind.i64.min = -9223372036854775808 := rfl
    have q2 : IntKind.i64.max = 9223372036854775807 := rfl
    omega
  · have hi2 : i < k := by simpa [lof] using hi
    have fl := hf.lt i (by omega)
    refine ⟨?_, ?_, fun j hj => ?_⟩
    · rw [lof_nu hi2]; omega
    · rw [lof_by hi2, hs]; exact shard_length _ _ _ _
    · rw [lof_nu hi2, lof_nu (by omega)]
      intro e
      have := hf.inj j i (by omega) (by omega) (by omega)
      omega
  · rw [lof_by hi, lof_nu hi, ← hs]
    simp
theorem mod_fit (x N : Int) (hN : 0 < N) (hM : N ≤ 140737488351233) : ∃ (t : Int) (i : Nat), Int.tmod x N = t ∧ IntKind.i64.wrap t = t ∧ IntKind.i64.wrap (t + N) = t + N ∧ Int.tmod (t + N) N = (i : Int) ∧ (i : Int) < N ∧ IntKind.i64.wrap (i : Int) = (i : Int) := by
  have h1 : Int.tmod x N < N := by have := Int.tmod_lt_of_pos x hN; omega
  have h2 : -N < Int.tmod x N := by
    have h3 := Int.tmod_lt_of_pos (-x) hN
    rw [Int.neg_tmod] at h3
    omega
  have h4 : 0 ≤ Int.tmod x N + N := by omega
  have h5 : 0 ≤ Int.tmod (Int.tmod x N + N) N := Int.tmod_nonneg _ h4
  have h6 : Int.tmod (Int.tmod x N + N) N < N := Int.tmod_lt_of_pos _ hN
  refine ⟨_, (Int.tmod (Int.tmod x N + N) N).toNat, rfl, ?_, ?_, ?_, ?_, ?_⟩
  · rw [IntKind.wrap_i64]; omega
  · rw [IntKind.wrap_i64]; omega
  · omega
  · omega
  · rw [IntKind.wrap_i64]; omega
/- an append to a list of shards whose run is known -/
theorem wpList_app43 {ops : Array Oper} {rest : List Oper} {o : Oper} {a : Act} {Q : Exit → Act → World → Prop} {w w' : World} {v v1 v2 : Value} (hgd : o.guard = none) (s x : Operand)
    (ho : o.op = .call { callee := .builtin .append, args := #[s, x], argTypes := #[43, 43] }) (hty : o.type = 43) (hs : a.eval s = v1) (hx : a.eval x = v2) (hrun : Hid ((Builtin.append_ #[43, 43] 43 #[v1, v2]).run Tryd.prog w = .ok v w'))
    (h : wpList Tryd.prog ops Q rest (a.put o.dst v) w') : wpList Tryd.prog ops Q (o :: rest) a w := by
  refine wpList_plain hgd fun K hK => ?_
  have hr := hrun.out
  unfold Oper.wp
  simp [execOp, ho, resolve, invoke, builtin, hs, hx, hty, hr, Result.andThen]
  exact hK _ _ h
theorem enc_cell {w w' : World} {g cap k m s : Nat} {bs data : List Nat} (h : Enc w w' g cap k m bs data) (hs : s = sz k data.length) (t : Nat) (ht : t < k + m) : w'.cell? ⟨g, t, none⟩ = some (sv s (bs.getD t 0)) := by
  have hl := h.shs.len
  have ls : (shards k m data).length = k + m := by simp [shards]
  have hi2 : t < bs.length := by omega
  have h3 := h.own.cells (g := g) rfl t (sv (sz k data.length) (bs.getD t 0)) (by
    rw [List.getElem?_map, List.getElem?_eq_getElem hi2]
    simp [List.getD, hi2])
  rw [Addr.add_mid, Nat.zero_add, ← hs] at h3
  exact h3
theorem Own.lt {w : World} {B g cap s i : Nat} {bs : List Nat} (h : Own w B g cap s i bs) : B ≤ g ∧ g < w.heap.size := World.ownsRow.lt h g rfl
theorem Own.capn {w : World} {B g cap s i : Nat} {bs : List Nat} (h : Own w B g cap s i bs) : i ≤ cap ∧ cap ≤ 9223372036854775807 := by
  rcases h.2 with ⟨h1, _⟩ | ⟨g', cap', cur, h1, _, _, h2, h3, _⟩
  · simp at h1
  · simp at h1
    obtain ⟨_, rfl⟩ := h1
    exact ⟨h2, by simpa [maxLen] using h3⟩
/- what the list is, beside what lay there before it -/
structure Ls (W wr : World) (g s N : Nat) (bs : List Nat) : Prop where
  ex : ∃ f, Pc wr g s N bs f ∧ Pf N f
  bel : Below W.heap.size W wr
  new : W.heap.size ≤ g ∧ g < wr.heap.size
theorem Ls.drewN {W wr : World} {g s N : Nat} {bs : List Nat} (h : Ls W wr g s N bs) (q : Nat) : Ls W (wr.drewN q) g s N bs := by
  obtain ⟨f, h1, h2⟩ := h.ex
  exact ⟨⟨f, h1.below (below_drewN (Below.refl _ _) q) h.new.2, h2⟩, below_drewN h.bel q, h.new⟩
theorem wpAny_seq' {lst : List Oper} {fuel k : Nat} {listed : Array Bool} {a : Act} {w : World} {Q : Exit → Act → World → Prop} (hf : fuel = (lst.drop k).length) (hB : Region.seqB .any lst.toArray (lst.drop k).length k listed = true)
    (h : wpList Tryd.prog lst.toArray Q (lst.drop k) a w) : wpAny Tryd.prog .any lst.toArray Q fuel listed a w := by
  subst hf
  exact wpAny_of_seq (md := .any) (lst.drop k) k listed a w (fun j => by simp [List.getElem?_drop]) hB h
theorem one2 (u : Int) (s b : Nat) : (#[.int .i64 u, sv s b] : Array Value).all (fun x => x.oneCell') = true := by simp [Value.oneCell']
theorem wp_st54 {op : Oper} {a : Act} {w : World} {K : Act → World → Prop} {Q : Exit → Act → World → Prop} (x y : Operand) (ho : op.op = .store 54 x y) (b o : Nat) (u : Int) (s c : Nat) (hx : a.eval x = .pointer (some ⟨b, o, none⟩)) (hy : a.eval y = .agg #[.int .i64 u, sv s c])
    (ht : w.there b o 2) (h : K (a.put op.dst undef) (w.setCells b o [.int .i64 u, sv s c])) : op.wp Tryd.prog a w K Q :=
  wp_store_mid 54 x y ho b o #[.int .i64 u, sv s c] hx hy ht size54 (one2 u s c) h
theorem wpList_st54 {ops : Array Oper} {rest : List Oper} {op : Oper} {a : Act} {w : World} {Q : Exit → Act → World → Prop} (hgd : op.guard = none) (x y : Operand) (ho : op.op = .store 54 x y) (b o : Nat) (u : Int) (s c : Nat) (hx : a.eval x = .pointer (some ⟨b, o, none⟩)) (hy : a.eval y = .agg #[.int .i64 u, sv s c])
    (ht : w.there b o 2) (h : wpList Tryd.prog ops Q rest (a.put op.dst undef) (w.setCells b o [.int .i64 u, sv s c])) : wpList Tryd.prog ops Q (op :: rest) a w :=
  wpList_store_mid hgd 54 x y ho b o #[.int .i64 u, sv s c] hx hy ht size54 (one2 u s c) h
/- a []int among the fields -/
def Pks (w : World) (a : Option Addr) (n : Nat) : Prop := n = 0 ∨ ∃ b off, a = some ⟨b, off, none⟩ ∧ ∀ i, i < n → ∃ z : Int, w.cell? ⟨b, off + i, none⟩ = some (.int .i64 z)
theorem Pks.below {w w' : World} {a : Option Addr} {n : Nat} (h : Pks w a n) (hb : Below w.heap.size w w') : Pks w' a n := by
  rcases h with h | ⟨b, off, h1, h2⟩
  · exact .inl h
  · refine .inr ⟨b, off, h1, fun i hi => ?_⟩
    obtain ⟨z, hz⟩ := h2 i hi
    exact ⟨z, (hb.cell (p := ⟨b, off + i, none⟩) (cell_lt' hz)).trans hz⟩
end Go.Proofs.YtokkjdgfhpocdaaDoor
