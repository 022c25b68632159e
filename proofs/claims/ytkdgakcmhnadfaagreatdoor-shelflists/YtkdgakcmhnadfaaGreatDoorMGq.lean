import Derived.Test.YtkdgakcmhnadfaaGreatDoorMGn
import Derived.WalkLawsBesides
/- Gq -/
/- The document's Blocks: a row of rows. -/
namespace Go.Proofs.YtkdgakcmhnadfaaGreatDoor
open Go.ChangeShapes Go.WideShapes Go.ChangeAt Go.RowKit
set_option maxRecDepth 20000
set_option linter.unusedVariables false
set_option linter.unusedSimpArgs false
theorem info26 : (Tryz.prog.info? 33).map (fun i => (i.zero, i.size, i.bytes)) = some (some (.slice none 0 0), 1, 24) := by kernel_rfl
theorem app_rv (w : World) (B g k cap : Nat) (vs : List Value) (v : Value) (own : w.ownsRow B 33 1 (.slice (some ⟨g, 0, none⟩) k cap) k vs) (hv : v.oneCell' = true) (hB : B ≤ w.heap.size) (hk : (k + 1) * 24 ≤ 140737488355328) :
    ∃ g' cap' w', (Builtin.append_ #[87, 87] 87 #[.slice (some ⟨g, 0, none⟩) k cap, .slice (some ⟨w.heap.size, 0, none⟩) 1 1]).run Tryz.prog (w.alloc (.cells #[v] 33)) = .ok (.slice (some ⟨g', 0, none⟩) (k + 1) cap') w' ∧ w'.ownsRow B 33 1 (.slice (some ⟨g', 0, none⟩) (k + 1) cap') (k + 1) (vs ++ [v]) ∧ (w.alloc (.cells #[v] 33)).grownBy w' (some g) := by
  obtain ⟨i, hi, hz0, hz1, hz2⟩ := info_parts info26
  obtain ⟨v', w', hrun, hown, hgr, _⟩ := run_append_own (P := Tryz.prog) (w.alloc (.cells #[v] 33)) B 87 87 33 i (.slice none 0 0) 1 24 Tryz.underlying87 hi hz0 hz1 hz2 rfl (by decide) _ k vs (own.alloc _) ⟨w.heap.size, 0, none⟩ 1 1 [v] rfl (fun j u hu => by
      have hj : j = 0 := by
        have := (List.getElem?_eq_some_iff.1 hu).1
        simp at this; omega
      subst hj
      simp at hu
      subst hu
      simp [Addr.add]) (by intro u hu; simp at hu; rw [hu]; exact hv) (by unfold maxLen; omega) (by omega) (by simp; omega)
  rcases hown.2 with ⟨_, h0⟩ | ⟨g', cap', cur, rfl, _⟩
  · omega
  · exact ⟨g', cap', w', hrun, hown, hgr⟩
theorem wpList_app47 {ops : Array Oper} {rest : List Oper} {o : Oper} {a : Act} {Q : Exit → Act → World → Prop} {w w' : World} {v v1 v2 : Value} (hgd : o.guard = none) (s x : Operand)
    (ho : o.op = .call { callee := .builtin .append, args := #[s, x], argTypes := #[87, 87] }) (hty : o.type = 87) (hs : a.eval s = v1) (hx : a.eval x = v2) (hrun : Hid ((Builtin.append_ #[87, 87] 87 #[v1, v2]).run Tryz.prog w = .ok v w'))
    (h : wpList Tryz.prog ops Q rest (a.put o.dst v) w') : wpList Tryz.prog ops Q (o :: rest) a w := by
  refine wpList_plain hgd fun K hK => ?_
  have hr := hrun.out
  unfold Oper.wp
  simp [execOp, ho, resolve, invoke, builtin, hs, hx, hty, hr, Result.andThen]
  exact hK _ _ h
/- a row of k rows, each of them new, the i-th of which reads as piece i -/
structure Bls (w : World) (B g k cap : Nat) (l : List Nat) (vs : List Value) : Prop where
  own : w.ownsRow B 33 1 (.slice (some ⟨g, 0, none⟩) k cap) k vs
  rows : ∀ i, i < k → ∃ a e c, vs[i]? = some (.slice a e c) ∧ Own w B a e c (pc l i)
theorem Bls.lt {w : World} {B g k cap : Nat} {l : List Nat} {vs : List Value} (h : Bls w B g k cap l vs) : B ≤ g ∧ g < w.heap.size := h.own.lt g rfl
theorem Bls.cellsOf {w : World} {B g k cap : Nat} {l : List Nat} {vs : List Value} (h : Bls w B g k cap l vs) : ∃ cur, w.heap[g]? = some (.cells cur 33 (0, 0)) ∧ cur.toList.take k = vs := by
  rcases h.own.2 with ⟨h1, _⟩ | ⟨g', cap', cur, h1, _, h2, _, _, _, h3⟩
  · cases h1
  · cases h1
    rw [Nat.mul_one] at h3
    exact ⟨cur, h2, h3⟩
theorem Bls.ne {w : World} {B g k cap : Nat} {l : List Nat} {vs : List Value} (h : Bls w B g k cap l vs) {a : Option Addr} {e c : Nat} {L : List Nat} (o : Own w B a e c L) : blkOf a ≠ some g := by
  intro hq
  obtain ⟨cur, h2, _⟩ := h.cellsOf
  rcases o.own.2 with ⟨h1, _⟩ | ⟨g', cap', cur', h1, _, h3, _⟩
  · simp at h1
    rw [h1.1] at hq
    cases hq
  · simp at h1
    rw [h1.1] at hq
    cases hq
    rw [h2] at h3
    cases h3
theorem Bls.cell {w : World} {B g k cap : Nat} {l : List Nat} {vs : List Value} (h : Bls w B g k cap l vs) {i : Nat} (hi : i < k) : ∃ a e c, w.cell? ⟨g, i, none⟩ = some (.slice a e c) ∧ Own w B a e c (pc l i) := by
  obtain ⟨a, e, c, h1, h2⟩ := h.rows i hi
  obtain ⟨cur, h3, h4⟩ := h.cellsOf
  refine ⟨a, e, c, ?_, h2⟩
  rw [← h4, List.getElem?_take_of_lt hi] at h1
  simp only [World.cell?, h3]
  simpa using h1
theorem Bls.below {w w' : World} {B g k cap : Nat} {l : List Nat} {vs : List Value} (h : Bls w B g k cap l vs) (hb : Below w.heap.size w w') : Bls w' B g k cap l vs := by
  refine ⟨?_, fun i hi => ?_⟩
  · obtain ⟨h5, h6⟩ := h.own
    refine ⟨h5, h6.imp id ?_⟩
    rintro ⟨g', cap', cur, e1, e2, e3, e4⟩
    exact ⟨g', cap', cur, e1, e2, (hb.block _ (Array.getElem?_eq_some_iff.1 e3).1).trans e3, e4⟩
  · obtain ⟨a, e, c, h1, h2⟩ := h.rows i hi
    exact ⟨a, e, c, h1, h2.below hb⟩
theorem Bls.snoc {w w4 : World} {B g k cap g' cap' : Nat} {l : List Nat} {vs : List Value} {a : Option Addr} {e c : Nat} (h : Bls w B g k cap l vs) (o : Own w B a e c (pc l k)) (own : w4.ownsRow B 33 1 (.slice (some ⟨g', 0, none⟩) (k + 1) cap') (k + 1) (vs ++ [.slice a e c])) (gr : (w.alloc (.cells #[.slice a e c] 33)).grownBy w4 (some g)) : Bls w4 B g' (k + 1) cap' l (vs ++ [.slice a e c]) := by
  have kp : ∀ {a' : Option Addr} {e' c' : Nat} {L : List Nat}, Own w B a' e' c' L → Own w4 B a' e' c' L := fun o' =>
    o'.block (fun q hq => (gr.block q (by have := (o'.ge q hq).2; simp; omega) (fun e => h.ne o' (by rw [hq]; exact e))).trans (Below.heap_alloc w _ q (o'.ge q hq).2))
  refine ⟨own, fun i hi => ?_⟩
  have hl : vs.length = k := by have := h.own.1; omega
  by_cases hik : i < k
  · obtain ⟨a', e', c', h1, h2⟩ := h.rows i hik
    exact ⟨a', e', c', by rw [List.getElem?_append_left (by omega)]; exact h1, kp h2⟩
  · obtain rfl : i = k := by omega
    exact ⟨a, e, c, by rw [List.getElem?_append_right (by omega), hl]; simp, kp o⟩
def BlsEx (w w' : World) (g k cap : Nat) (l : List Nat) : Prop := ∃ vs, Bls w' w.heap.size g k cap l vs ∧ Below w.heap.size w w'
set_option maxHeartbeats 4000000 in
theorem refBlocks_n {w : World} {a : Option Addr} {n c : Nat} {l : List Nat} (hS : Hid (Sln w a n l)) (hc : Hid (a = none → c = 0)) (hnc : n ≤ c) :
    Calls Tryz.prog 51 #[.slice a n c] w fun e w' => ∃ g cap, e = .returned (.slice (some ⟨g, 0, none⟩) (blks n) cap) ∧ Hid (BlsEx w w' g (blks n) cap l) := by
  have ln : Hid (n = l.length) := hS.out.len
  have nb : n ≤ 140737488352256 := by rw [ln.out]; exact hS.out.sli.2.1
  have B0 : Hid (BlsEx w (w.alloc (.cells #[] 33)) w.heap.size 0 0 l) :=
    ⟨[], ⟨World.ownsRow_made w #[] 0 (Nat.le_refl _) (by unfold maxLen; omega) (by simp), fun i hi => by omega⟩, (Below.refl _ w).alloc (Nat.le_refl _) _⟩
  go_enter Tryz.func51, Tryz.ntmps51
  go_wp2
  go_loopw [3, 4] (fun t i wr => ∃ (k g cap q : Nat), i = .int .i64 (q : Int) ∧ q = 32 * k ∧ k ≤ blks n ∧ t = .slice (some ⟨g, 0, none⟩) k cap ∧ Hid (BlsEx w wr g k cap l)) (fun _ i _ => n + 64 - (intOf i).toNat)
  case atStart => exact ⟨0, w.heap.size, 0, 0, rfl, rfl, by omega, rfl, B0.out⟩
  case round =>
    clear B0
    obtain ⟨k, g, cap, q, rfl, hq, hk, rfl, HK⟩ := hrel
    have hkb : 32 * blks n ≤ n + 31 := by unfold blks; omega
    have hq2 : q ≤ n + 31 := by omega
    by_cases hlt : q < n
    · have i1 : (q : Int) < (n : Int) := by omega
      obtain ⟨vs, hB, hBel⟩ := HK.out
      obtain ⟨e, He⟩ : ∃ e, Hid (min 32 (n - q) = e) := ⟨_, rfl⟩
      have he1 : e ≤ 32 := by have := He.out; omega
      have he2 : q + e ≤ n := by have := He.out; omega
      have em : (if n < q + 32 then (n : Int) else ((q : Int) + 32)) = ((q + e : Nat) : Int) := by have := He.out; split <;> omega
      have em2 : (if (n : Int) < (q : Int) + 32 then (n : Int) else ((q : Int) + 32)) = ((q + e : Nat) : Int) := by have := He.out; split <;> omega
      have lne : l ≠ [] := fun h => by have h2 := ln.out; rw [h] at h2; simp at h2; omega
      obtain ⟨b, off, hab, hbl, _⟩ := hS.out.sli.2.2.resolve_left lne
      have S1 : Sln (wr.alloc (.cells #[] 5)) (some ⟨b, off + q, none⟩) e (pc l k) := by
        have h1 := slice_from hS.out (lo := q) (by omega) hnc
        have h2 := h1.take (k := e) (by omega)
        rw [if_neg (by omega), hab] at h2
        have e4 : (some (⟨b, off, none⟩ : Addr)).map (·.add q) = some ⟨b, off + q, none⟩ := by simp [Addr.add]
        rw [e4] at h2
        have e5 : (l.drop q).take e = pc l k := by
          have h3 := He.out
          have h4 := ln.out
          unfold pc
          rw [← hq]
          by_cases h5 : 32 ≤ n - q
          · have : e = 32 := by omega
            rw [this]
          · rw [List.take_of_length_le (by simp; omega), List.take_of_length_le (by simp; omega)]
        rw [e5] at h2
        exact h2.below (hBel.alloc hBel.size _)
      have bs := hBel.size
      obtain ⟨a2, c2, w2, hrun, own2, gr2, new2⟩ := app_any (c2 := c - q) (own_empty wr) S1 (by simp) (by omega) (by simp)
      rw [Nat.zero_add] at hrun own2
      rw [List.nil_append] at own2
      have AP1 : Hid ((Builtin.append_ #[33, 33] 33 #[.slice (some ⟨wr.heap.size, 0, none⟩) 0 0, .slice (some ⟨b, off + q, none⟩) (q + e - q) (c - q)]).run Tryz.prog (wr.alloc (.cells #[] 5)) = .ok (.slice a2 e c2) w2) := by rw [show q + e - q = e by omega]; exact hrun
      have b2 : Below wr.heap.size wr w2 := ((Below.refl _ wr).alloc (Nat.le_refl _) _).grown gr2 (by simp) (fun k e => by simp [blkOf] at e; omega)
      have hB2 := hB.below b2
      obtain ⟨g4, cap4, w4, hrun4, own4, gr4⟩ := app_rv w2 w.heap.size g k cap vs (.slice a2 e c2) hB2.own rfl (by have := b2.size; omega) (by omega)
      have AP2 : Hid ((Builtin.append_ #[87, 87] 87 #[.slice (some ⟨g, 0, none⟩) k cap, .slice (some ⟨w2.heap.size, 0, none⟩) 1 1]).run Tryz.prog (w2.alloc (.cells #[.slice a2 e c2] 33)) = .ok (.slice (some ⟨g4, 0, none⟩) (k + 1) cap4) w4) := hrun4
      have F4 : Hid (BlsEx w w4 g4 (k + 1) cap4 l) := by
        refine ⟨vs ++ [.slice a2 e c2], hB2.snoc (own2.base bs) own4 gr4, ?_⟩
        exact ((hBel.trans (b2.mono bs)).alloc (by have := b2.size; omega) _).grown gr4 (by have := b2.size; simp; omega) (fun j e => by cases e; exact hB2.lt.1)
      have HE : Hid (q = 32 * k ∧ q < n) := ⟨hq, hlt⟩
      have hcq : ¬ (c = q) := by omega
      have hqe : q + e ≤ c := by omega
      subst hab
      clear hrun own2 gr2 new2 b2 hB2 hrun4 own4 gr4 S1 hB hBel bs lne hbl hq hkb
      go_wp2_with (first
        | (at_builtin; refine wpList_app (by rfl) (.tmp 13) (.tmp 21) (by rfl) (by rfl) (by rfl) (by rfl) AP1 ?_)
        | (at_builtin; refine wpList_app47 (by rfl) (.tmp 12) (.tmp 23) (by rfl) (by rfl) (by rfl) (by rfl) AP2 ?_))
      go_roundw
      case rel => exact ⟨k + 1, g4, cap4, q + 32, by go_num, by have := HE.out.1; omega, by have := HE.out; unfold blks; omega, rfl, F4.out⟩
      case measure => simp [intOf]; omega
    · have hk2 : k = blks n := by unfold blks at hk ⊢; omega
      subst hk2
      go_wp2
      go_ret
      exact ⟨g, cap, rfl, HK.out⟩
end Go.Proofs.YtkdgakcmhnadfaaGreatDoor

/- Gr -/
/- The document's Put, for stamps in form and at most 1024 bytes. -/
namespace Go.Proofs.YtkdgakcmhnadfaaGreatDoor
open Go.ChangeShapes Go.WideShapes Go.ChangeAt Go.RowKit
set_option maxRecDepth 20000
set_option linter.unusedVariables false
set_option linter.unusedSimpArgs false
/- while the head's numbers are put one behind the other -/
structure Rp (w wr : World) (g : Nat) (ns : List Nat) (a : Option Addr) (n c : Nat) (L : List Nat) : Prop where
  own : Own wr w.heap.size a n c L
  arr : Arr .i64 3 wr g ns
  ne : ∀ q, blkOf a = some q → q ≠ g
  ge : w.heap.size ≤ g
  bel : Below w.heap.size w wr
theorem op_app {o : Oper} {a : Act} {K : Act → World → Prop} {Q : Exit → Act → World → Prop} {w w' : World} {v v1 v2 : Value} (s x : Operand)
    (ho : o.op = .call { callee := .builtin .append, args := #[s, x], argTypes := #[33, 33] }) (hty : o.type = 33) (hs : a.eval s = v1) (hx : a.eval x = v2) (hrun : Hid ((Builtin.append_ #[33, 33] 33 #[v1, v2]).run Tryz.prog w = .ok v w'))
    (h : K (a.put o.dst v) w') : o.wp Tryz.prog a w K Q := by
  have hr := hrun.out
  unfold Oper.wp
  simp [execOp, ho, resolve, invoke, builtin, hs, hx, hty, hr, Result.andThen]
  exact h
/- a row of rows whose blocks lie from B up to Z -/
structure Blz (w : World) (B Z g k cap : Nat) (l : List Nat) (vs : List Value) : Prop where
  bls : Bls w B g k cap l vs
  g2 : g < Z
  r2 : ∀ (i : Nat) (a : Option Addr) (e c : Nat), vs[i]? = some (Value.slice a e c) → ∀ q, blkOf a = some q → q < Z
theorem Bls.z {w : World} {B g k cap : Nat} {l : List Nat} {vs : List Value} (h : Bls w B g k cap l vs) : Blz w B w.heap.size g k cap l vs := by
  refine ⟨h, h.lt.2, fun i a e c hi q hq => ?_⟩
  have hl : vs.length = k := by have := h.own.1; omega
  have h1 := (List.getElem?_eq_some_iff.1 hi).1
  obtain ⟨a', e', c', h2, h3⟩ := h.rows i (by omega)
  rw [hi] at h2
  cases h2
  exact (h3.ge q hq).2
theorem Blz.keep {w w' : World} {B Z g k cap : Nat} {l : List Nat} {vs : List Value} (h : Blz w B Z g k cap l vs) (hb : ∀ b, B ≤ b → b < Z → w'.heap[b]? = w.heap[b]?) : Blz w' B Z g k cap l vs := by
  refine ⟨⟨?_, fun i hi => ?_⟩, h.g2, h.r2⟩
  · obtain ⟨h5, h6⟩ := h.bls.own
    refine ⟨h5, h6.imp id ?_⟩
    rintro ⟨g', cap', cur, e1, e2, e3, e4⟩
    cases e1
    exact ⟨g, _, cur, rfl, e2, (hb g e2 h.g2).trans e3, e4⟩
  · obtain ⟨a, e, c, h1, h2⟩ := h.bls.rows i hi
    exact ⟨a, e, c, h1, h2.block (fun q hq => hb q (h2.ge q hq).1 (h.r2 i a e c h1 q hq))⟩
/- while the blocks are put behind the head -/
structure Rb (w wr : World) (B Z g k cap : Nat) (l : List Nat) (vs : List Value) (a : Option Addr) (n c : Nat) (L : List Nat) : Prop where
  own : Own wr w.heap.size a n c L
  blz : Blz wr B Z g k cap l vs
  ne : ∀ q, blkOf a = some q → q < B ∨ Z ≤ q
  bel : Below w.heap.size w wr
  wB : w.heap.size ≤ B
  zz : Z ≤ wr.heap.size
theorem Rb.below {w wr w2 : World} {B Z g k cap : Nat} {l : List Nat} {vs : List Value} {a : Option Addr} {n c : Nat} {L : List Nat} (h : Rb w wr B Z g k cap l vs a n c L) (hb : Below wr.heap.size wr w2) : Rb w w2 B Z g k cap l vs a n c L :=
  ⟨h.own.below hb, h.blz.keep (fun b _ h2 => hb.block b (by have := h.zz; omega)), h.ne, h.bel.trans (hb.mono h.bel.size), h.wB, Nat.le_trans h.zz hb.size⟩
theorem Rb.app {w wr : World} {B Z g k cap : Nat} {l : List Nat} {vs : List Value} {a : Option Addr} {n c : Nat} {L : List Nat} (h : Rb w wr B Z g k cap l vs a n c L) {a2 : Option Addr} {m c2 : Nat} {l2 : List Nat} (hS : Sln wr a2 m l2) (hc : a2 = none → c2 = 0) (hb : n + m ≤ 140737488352256) :
    ∃ a' c' w', Hid ((Builtin.append_ #[33, 33] 33 #[.slice a n c, .slice a2 m c2]).run Tryz.prog wr = .ok (.slice a' (n + m) c') w') ∧ Rb w w' B Z g k cap l vs a' (n + m) c' (L ++ l2) ∧ wr.grownBy w' (blkOf a) := by
  obtain ⟨a', c', w', hrun, own', gr, new⟩ := app_any h.own hS hc hb h.bel.size
  refine ⟨a', c', w', hrun, ⟨own', ?_, ?_, ?_, h.wB, Nat.le_trans h.zz gr.size⟩, gr⟩
  · refine h.blz.keep (fun b h1 h2 => gr.block b (by have := h.zz; omega) (fun e => ?_))
    have := h.ne b e.symm
    omega
  · intro q hq
    rcases new q hq with h1 | h1
    · exact h.ne q h1
    · have := h.zz; omega
  · exact h.bel.grown gr h.bel.size (fun j hj => (h.own.ge j hj).1)
set_option maxHeartbeats 4000000 in
theorem refPut_n {w : World} (a b c d e n k : Nat) (sa : Option Addr) (l : List Nat) (hS : Hid (Sln w sa n l)) (hc : Hid (sa = none → k = 0)) (hnk : n ≤ k) (hok : Hid (okN [1, (a : Int), b, c, d, e, 0] = true)) (hn : n ≤ 1024) :
    Calls Tryz.prog 15 #[.agg #[.int .i64 (a : Int), .int .i64 (b : Int), .int .i64 (c : Int), .int .i64 (d : Int), .int .i64 (e : Int)], .slice sa n k] w fun en w' => ∃ af N cf, en = .returned (.slice af N cf) ∧ Hid (Own w' w.heap.size af N cf (frameL [1, a, b, c, d, e, n] l) ∧ N ≤ 4000 ∧ Below w.heap.size w w') := by
  obtain ⟨ns, HN⟩ : ∃ ns, Hid ([a, b, c, d, e, n] = ns) := ⟨_, rfl⟩
  have NB : Hid (∀ x ∈ ns, x < 9223372036854775808) := by
    have h1 := (okN_iff _ _ _ _ _).1 hok.out
    intro x hx
    rw [← HN.out] at hx
    simp only [List.mem_cons, List.not_mem_nil, or_false] at hx
    omega
  have NL : Hid (ns.length = 6) := by rw [← HN.out]; rfl
  obtain ⟨W1, HW1⟩ : ∃ W1, Hid (((w.alloc (.cells #[.int .i64 (a : Int), .int .i64 (b : Int), .int .i64 (c : Int), .int .i64 (d : Int), .int .i64 (e : Int)] 45)).alloc (.cells #[.int .u8 1] 5)).alloc (.cells #[.int .i64 (a : Int), .int .i64 (b : Int), .int .i64 (c : Int), .int .i64 (d : Int), .int .i64 (e : Int), .int .i64 (n : Int)] 3) = W1) := ⟨_, rfl⟩
  have R1 : Hid (Rp w W1 (w.heap.size + 2) ns (some ⟨w.heap.size + 1, 0, none⟩) 1 1 [1] ∧ W1.heap.size = w.heap.size + 3) := by
    have t3 := three w (.cells #[.int .i64 (a : Int), .int .i64 (b : Int), .int .i64 (c : Int), .int .i64 (d : Int), .int .i64 (e : Int)] 45) (.cells #[.int .u8 1] 5) (.cells #[.int .i64 (a : Int), .int .i64 (b : Int), .int .i64 (c : Int), .int .i64 (d : Int), .int .i64 (e : Int), .int .i64 (n : Int)] 3)
    have bl := below3 w (.cells #[.int .i64 (a : Int), .int .i64 (b : Int), .int .i64 (c : Int), .int .i64 (d : Int), .int .i64 (e : Int)] 45) (.cells #[.int .u8 1] 5) (.cells #[.int .i64 (a : Int), .int .i64 (b : Int), .int .i64 (c : Int), .int .i64 (d : Int), .int .i64 (e : Int), .int .i64 (n : Int)] 3)
    rw [HW1.out] at t3 bl
    have k1 : Blk W1 (w.heap.size + 1) [1] := t3.2.1
    refine ⟨⟨k1.own (by omega) rfl (by simp) (by omega), ?_, fun q hq => by cases hq; show w.heap.size + 1 ≠ w.heap.size + 2; omega, by omega, bl⟩, by rw [← HW1.out]; simp⟩
    rw [← HN.out]
    exact t3.2.2
  go_enter Tryz.func15, Tryz.ntmps15
  go_wp2
  obtain ⟨g, HG⟩ : ∃ g, Hid (w.heap.size + 1 + 1 = g) := ⟨_, rfl⟩
  rw [HG.out]
  refine (show _ = W1 from HW1.out) ▸ ?_
  have R2 : Hid (Rp w W1 g ns (some ⟨w.heap.size + 1, 0, none⟩) 1 1 ([1] ++ encs (ns.take 0))) := by rw [← HG.out]; exact R1.out.1
  clear R1 HW1
  go_loopw [5, 30] (fun t i wr => ∃ (j : Nat) (ah : Option Addr) (nh ch : Nat), j ≤ 6 ∧ i = .int .i64 j ∧ t = .slice ah nh ch ∧ Hid (Rp w wr g ns ah nh ch ([1] ++ encs (ns.take j)))) (fun _ i _ => 6 - (intOf i).toNat)
  case atStart => exact ⟨0, _, 1, 1, by omega, rfl, rfl, R2.out⟩
  case round =>
    clear R2
    obtain ⟨j, ah, nh, ch, hj, rfl, rfl, HJ⟩ := hrel
    have nhb : nh ≤ 55 := by
      have h1 := HJ.out.own.len
      have h2 := encs_len (l := ns.take j) (fun x hx => NB.out x (List.mem_of_mem_take hx))
      have h3 := NL.out
      simp at h1 h2
      omega
    by_cases hlt : j < 6
    · have i1 : (j : Int) < 6 := by omega
      have jl : j < ns.length := by have := NL.out; omega
      have ca := HJ.out.arr.cell jl
      obtain ⟨x, Hx⟩ : ∃ x, Hid (ns.getD j 0 = x) := ⟨_, rfl⟩
      rw [Hx.out] at ca
      have xb : x < 9223372036854775808 := by
        rw [← Hx.out]
        exact NB.out _ (by simp [List.getD, jl])
      have HJL : Hid (j < ns.length) := jl
      clear jl
      go_wp2_with (first
        | (go_at_call 48; refine (refnum_n xb).mono ?_; rintro en w1 ⟨a1, n1, c1, rfl, H1⟩
           have x9 := enc_nine xb
           have n1l := H1.out.1.len
           obtain ⟨a2, c2, w2, hrun, own2, gr2, new2⟩ := app_any (c2 := c1) (HJ.out.own.below H1.out.2) (H1.out.1.sln (by omega)) H1.out.1.cap0 (by omega) (Nat.le_trans HJ.out.bel.size H1.out.2.size)
           have AP : Hid ((Builtin.append_ #[33, 33] 33 #[.slice ah nh ch, .slice a1 n1 c1]).run Tryz.prog w1 = .ok (.slice a2 (nh + n1) c2) w2) := hrun
           have R3 : Hid (Rp w w2 g ns a2 (nh + n1) c2 ([1] ++ encs (ns.take (j + 1)))) := by
             have gl := HJ.out.arr.lt
             have A1 := HJ.out.arr.below H1.out.2 gl
             refine ⟨?_, (gr2.block g A1.lt (fun e => HJ.out.ne g e.symm rfl)).trans A1, fun q hq => ?_, HJ.out.ge, ?_⟩
             · rw [encs_take HJL.out, Hx.out, ← List.append_assoc]; exact own2
             · rcases new2 q hq with h | h
               · exact HJ.out.ne q h
               · have := A1.lt; omega
             · exact (HJ.out.bel.trans (H1.out.2.mono HJ.out.bel.size)).grown gr2 (Nat.le_trans HJ.out.bel.size H1.out.2.size) (fun q hq => (HJ.out.own.ge q hq).1)
           clear hrun own2 gr2 new2 x9 n1l)
        | (at_builtin; refine wpList_app (by rfl) (.tmp 34) (.tmp 36) (by rfl) (by rfl) (by rfl) (by rfl) AP ?_))
      go_roundw
      case rel => exact ⟨j + 1, a2, nh + n1, c2, by omega, by go_num, rfl, R3.out⟩
      case measure => simp [intOf]; omega
    · obtain rfl : j = 6 := by omega
      have TK : Hid ([1] ++ encs (ns.take 6) = encs (1 :: ns)) := by
        rw [List.take_of_length_le (by have := NL.out; omega)]
        show _ = enc 1 ++ encs ns
        rw [enc_lt (by omega)]
      rw [TK.out] at HJ
      have S1 : Hid (Sln wr ah nh (encs (1 :: ns))) := HJ.out.own.sln (by omega)
      have Z1 : Hid (ah = none → ch = 0) := HJ.out.own.cap0
      have NS : Hid (∀ x ∈ 1 :: ns, x < 9223372036854775808) := by
        intro x hx
        rcases List.mem_cons.1 hx with h | h
        · omega
        · exact NB.out x h
      have n4 : nh + 4 ≤ 140737488352256 := by omega
      go_wp2_with (first
        | (go_at_call 50; refine (refseal_n S1 Z1 n4).mono ?_; rintro en w2 ⟨a2, n2, c2, rfl, H2⟩
           have hn2 : n2 ≤ 60 := by have := H2.out.1; omega
           have S2 : Hid (Sln w2 a2 n2 (sealL (encs (1 :: ns)))) := H2.out.2.1.sln (by omega)
           have Z2 : Hid (a2 = none → c2 = 0) := H2.out.2.1.cap0
           have B2 : Hid (Below w.heap.size w w2) := HJ.out.bel.trans (H2.out.2.2.mono HJ.out.bel.size)
           have L2 : Hid (n2 = (sealL (encs (1 :: ns))).length) := H2.out.2.1.len)
        | (go_at_call 49; refine (refbytes_n S2 Z2 (by omega)).mono ?_; rintro en w3 ⟨a3, n3, c3, rfl, H3⟩
           have B3 : Hid (Below w.heap.size w w3) := B2.out.trans (H3.out.2.mono B2.out.size)
           have O3 : Hid (Own w3 w.heap.size a3 n3 c3 (headL (1 :: ns))) := by
             have h1 := H3.out.1.base B2.out.size
             rw [headL, ← L2.out]
             exact h1
           have hn3 : n3 ≤ 80 := by have h1 := H3.out.1.len; have h2 := enc_nine (n := n2) (by omega); rw [List.length_append, ← L2.out] at h1; omega
           have S3 : Hid (Sln w3 sa n l) := hS.out.below B3.out)
        | (go_at_call 51; refine (refBlocks_n S3 hc hnk).mono ?_; rintro en w4 ⟨gb, cb, rfl, H4⟩))
      obtain ⟨vs, hBls, hBel⟩ := H4.out
      obtain ⟨B, HB⟩ : ∃ B, Hid (w3.heap.size = B) := ⟨_, rfl⟩
      obtain ⟨Z, HZ⟩ : ∃ Z, Hid (w4.heap.size = Z) := ⟨_, rfl⟩
      have R4 : Hid (Rb w w4 B Z gb (blks n) cb l vs a3 n3 c3 (headL (1 :: ns) ++ bodyK l 0)) := by
        rw [← HB.out, ← HZ.out]
        refine ⟨?_, hBls.z, fun q hq => .inl (O3.out.ge q hq).2, B3.out.trans (hBel.mono B3.out.size), B3.out.size, Nat.le_refl _⟩
        rw [show bodyK l 0 = [] from rfl, List.append_nil]
        exact O3.out.below hBel
      have kb : blks n ≤ 32 := by unfold blks; omega
      have HL : Hid ((headL (1 :: ns)).length ≤ 80) := by rw [← O3.out.len]; exact hn3
      have LN : Hid (n = l.length) := hS.out.len
      obtain ⟨K, HK⟩ : ∃ K, Hid (blks n = K) := ⟨_, rfl⟩
      rw [HK.out] at R4 kb ⊢
      clear hBls hBel H4 O3 S3 S2 Z2 B2 L2 B3 H3 H2 S1 Z1 HJ
      go_wp2
      go_loopw [8, 45] (fun t i wr => ∃ (j : Nat) (ao : Option Addr) (no co : Nat), j ≤ K ∧ i = .int .i64 j ∧ t = .slice ao no co ∧ Hid (Rb w wr B Z gb K cb l vs ao no co (headL (1 :: ns) ++ bodyK l j))) (fun _ i _ => K - (intOf i).toNat)
      case atStart => exact ⟨0, a3, n3, c3, by omega, rfl, rfl, R4.out⟩
      case round =>
        clear R4
        obtain ⟨j, ao, no, co, hj, rfl, rfl, HJ⟩ := hrel
        have nob : no ≤ 3200 := by
          have h1 := HJ.out.own.len
          have h2 := HL.out
          have h3 : 32 * j ≤ l.length + 31 := by have h4 := HK.out; have h5 := LN.out; unfold blks at h4; omega
          rw [List.length_append, bodyK_len l j h3] at h1
          omega
        by_cases hlt : j < K
        · have i1 : (j : Int) < (K : Int) := by omega
          obtain ⟨ax, ex, cx, cA, oA⟩ := HJ.out.blz.bls.cell hlt
          have ex32 : ex ≤ 32 := by rw [oA.len, pc_len]; omega
          have SA : Hid (Sln wr ax ex (pc l j)) := oA.sln (by omega)
          have ZA : Hid (ax = none → cx = 0) := oA.cap0
          obtain ⟨P, HP⟩ : ∃ P, Hid (pc l j = P) := ⟨_, rfl⟩
          rw [HP.out] at SA
          have HLT : Hid (j < K) := hlt
          clear oA hlt
          go_wp2_with (first
            | (go_at_call 52; refine (shrefsum_n _ ax ex cx P SA ZA).mono ?_; rintro en w5 ⟨dg, rfl, H5⟩
               have A5 : Hid (Arr .u8 89 (w5.alloc (.cells (cs .u8 Zb32) 89)) w5.heap.size Zb32) := Arr.new _ _ _ _
               have L5 : Hid (dg.length = 32 ∧ (∀ y ∈ dg, y < 256) ∧ dg = Gs.sum P) := by rw [H5.out.1]; exact ⟨sum_len _, sum_bytes _, rfl⟩
               obtain ⟨W6, HW6⟩ : ∃ W6, Hid ((w5.alloc (.cells (cs .u8 Zb32) 89)).setRow w5.heap.size (cs .u8 dg) = W6) := ⟨_, rfl⟩
               have A6 : Hid (Arr .u8 89 W6 w5.heap.size dg) := by rw [← HW6.out]; exact A5.out.setRow dg
               have b6 : Below wr.heap.size wr W6 := by rw [← HW6.out]; exact H5.out.2.trans ((below_arr w5 _ _ _ _).mono H5.out.2.size)
               have R6 : Hid (Rb w W6 B Z gb K cb l vs ao no co (headL (1 :: ns) ++ bodyK l j)) := HJ.out.below b6
               have S6 : Hid (Sln W6 ax ex P) := SA.out.below b6
               have G6 : Hid (wr.heap.size ≤ w5.heap.size) := H5.out.2.size
               clear b6)
            | (refine wpList_st0 (t := 89) (l := Zb32) (l2 := dg) (by rfl) (by rfl) 89 (.tmp 11) (.tmp 50) (by rfl) (by rfl) (by rfl) A5 (by rw [L5.out.1]; exact sz25) (by rw [L5.out.1]; rfl) ?_; refine (show _ = W6 from HW6.out) ▸ ?_))
          have bdr : Below W6.heap.size W6 W6.drew := (Below.refl _ _).drew
          obtain ⟨a7, c7, W7, AP1, R7, gr7⟩ := (R6.out.below bdr).app (S6.out.below bdr) ZA.out (by omega)
          have A7 : Arr .u8 89 W7 w5.heap.size dg := (gr7.block _ A6.out.lt (fun h => by
            have h1 := (HJ.out.own.ge _ h.symm).2
            have := G6.out
            omega)).trans A6.out
          obtain ⟨a8, c8, W8, AP2, R8, gr8⟩ := R7.app (c2 := 32) (arr_sln A7 L5.out.1.symm L5.out.2.1 (by omega)) (by simp) (by omega)
          have F8 : Hid (Rb w W8 B Z gb K cb l vs a8 (no + ex + 32) c8 (headL (1 :: ns) ++ bodyK l (j + 1))) := by
            have e1 : headL (1 :: ns) ++ bodyK l (j + 1) = headL (1 :: ns) ++ bodyK l j ++ P ++ dg := by rw [bodyK, HP.out, L5.out.2.2]; simp only [List.append_assoc]
            rw [e1]
            exact R8
          obtain ⟨gd, HGD⟩ : ∃ gd, Hid (w5.heap.size = gd) := ⟨_, rfl⟩
          rw [HGD.out] at AP2 ⊢
          clear R7 gr7 A7 R8 gr8 A6 R6 S6 G6 bdr A5 HW6
          refine wp_region_any (by kernel_rfl) ?_
          change wpAny _ _ _ _ _ _ _ (World.drew W6)
          refine wpAny_take (i := 0) (v := .slice ao no co) rfl (by kernel_rfl) (by kernel_rfl) (by kernel_rfl) (fun _ _ _ h => h) (Or.inl ⟨by rfl, fun w => by go_simp⟩) ?_
          simp only [List.getElem_toArray, List.getElem_cons_zero, List.getElem_cons_succ, Act.put, List.setIfInBounds_toArray, List.set_cons_zero, List.set_cons_succ]
          refine wpAny_take (i := 1) (v := .slice ax ex cx) rfl (by kernel_rfl) (by kernel_rfl) (by kernel_rfl) (fun _ _ _ h => h) (Or.inl ⟨by rfl, fun w => by go_simp⟩) ?_
          simp only [List.getElem_toArray, List.getElem_cons_zero, List.getElem_cons_succ, Act.put, List.setIfInBounds_toArray, List.set_cons_zero, List.set_cons_succ]
          refine wpAny_take (i := 3) (v := .slice (some ⟨gd, 0, none⟩) 32 32) rfl (by kernel_rfl) (by kernel_rfl) (by kernel_rfl) (fun _ _ _ h => h) (Or.inl ⟨by rfl, fun w => by go_simp⟩) ?_
          simp only [List.getElem_toArray, List.getElem_cons_zero, List.getElem_cons_succ, Act.put, List.setIfInBounds_toArray, List.set_cons_zero, List.set_cons_succ]
          refine wpAny_ready (rs := [2]) (by kernel_rfl) (by simp) (AllReady.cons rfl (fun K' hK' => ?_) AllReady.nil)
          simp only [List.getElem_toArray, List.getElem_cons_zero, List.getElem_cons_succ]
          rw [if_pos (by rfl)]
          refine op_app (.tmp 51) (.tmp 52) (by rfl) (by rfl) (by rfl) (by rfl) AP1 (hK' _ _ ?_)
          clear hK' K'
          try simp only [List.getElem_toArray, List.getElem_cons_zero, List.getElem_cons_succ, Act.put, List.setIfInBounds_toArray, List.set_cons_zero, List.set_cons_succ]
          refine wpAny_ready (rs := [4]) (by kernel_rfl) (by simp) (AllReady.cons rfl (fun K' hK' => ?_) AllReady.nil)
          simp only [List.getElem_toArray, List.getElem_cons_zero, List.getElem_cons_succ]
          rw [if_pos (by rfl)]
          refine op_app (.tmp 53) (.tmp 54) (by rfl) (by rfl) (by rfl) (by rfl) AP2 (hK' _ _ ?_)
          clear hK' K'
          try simp only [List.getElem_toArray, List.getElem_cons_zero, List.getElem_cons_succ, Act.put, List.setIfInBounds_toArray, List.set_cons_zero, List.set_cons_succ]
          refine wpAny_ready (rs := [5]) (by kernel_rfl) (by simp) (AllReady.cons rfl (fun K' hK' => ?_) AllReady.nil)
          simp only [List.getElem_toArray, List.getElem_cons_zero, List.getElem_cons_succ]
          rw [if_pos (by rfl)]
          go_simp
          refine hK' _ _ ?_
          clear hK' K'
          refine wpAny_done (by kernel_rfl) ?_ _
          go_wp2
          go_roundw
          case rel => exact ⟨j + 1, a8, no + ex + 32, c8, by have := HLT.out; omega, by go_num, rfl, F8.out⟩
          case measure => have := HLT.out; simp [intOf]; omega
        · obtain rfl : j = K := by omega
          have FIN : Hid (Own wr w.heap.size ao no co (frameL [1, a, b, c, d, e, n] l) ∧ no ≤ 4000 ∧ Below w.heap.size w wr) := by
            refine ⟨?_, by omega, HJ.out.bel⟩
            have h1 := HJ.out.own
            rw [← HK.out, ← HN.out, LN.out] at h1
            unfold frameL bodyL
            rw [LN.out]
            exact h1
          go_wp2
          go_ret
          exact ⟨ao, no, co, rfl, FIN.out⟩
end Go.Proofs.YtkdgakcmhnadfaaGreatDoor
