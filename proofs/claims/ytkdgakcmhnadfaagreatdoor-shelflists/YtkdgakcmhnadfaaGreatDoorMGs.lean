import Derived.Test.YtkdgakcmhnadfaaGreatDoorMGq
/- Gs -/
/- The document's Head: what it reads, on plain numbers; rows of ints. -/
namespace Go.Proofs.YtkdgakcmhnadfaaGreatDoor
open Go.ChangeShapes Go.WideShapes Go.ChangeAt Go.RowKit
set_option maxRecDepth 20000
set_option linter.unusedVariables false
set_option linter.unusedSimpArgs false
def bigL : List Int := [1099511627776, 1099511627776, 1099511627776, 1099511627776, 1099511627776, 1099511627776, 1099511627776]
theorem rdN_le {l : List Nat} {p : Nat} {z z' : Int} (hz : z ≤ z') : (rdN l p z).2.1 = 0 → rdN l p z' = rdN l p z := by
  intro h
  unfold rdN at h ⊢
  by_cases h1 : (nat 9 (l.drop p) 0 0).2.2 = true ∧ ((nat 9 (l.drop p) 0 0).1 : Int) ≤ z
  · rw [if_pos h1, if_pos ⟨h1.1, by omega⟩]
  · rw [if_neg h1] at h; cases h
theorem rdN_ge {l : List Nat} {p : Nat} {z z' : Int} (h : (rdN l p z').2.1 = 0) (h1 : ((rdN l p z').1 : Int) ≤ z) : rdN l p z = rdN l p z' := by
  unfold rdN at h h1 ⊢
  by_cases h2 : (nat 9 (l.drop p) 0 0).2.2 = true ∧ ((nat 9 (l.drop p) 0 0).1 : Int) ≤ z'
  · rw [if_pos h2] at h1 ⊢
    rw [if_pos ⟨h2.1, h1⟩]
  · rw [if_neg h2] at h; cases h
theorem most_big : ∀ i, i < 7 → mostL.getD i 0 ≤ bigL.getD i 0 := by decide
theorem rdS_big {l : List Nat} : ∀ {k p : Nat} {ns : List Nat}, k ≤ 7 → rdS l mostL k = some (ns, p) → rdS l bigL k = some (ns, p)
  | 0, p, ns, _, h => h
  | k + 1, p, ns, hk, h => by
    simp only [rdS] at h
    cases hs : rdS l mostL k with
    | none => rw [hs] at h; cases h
    | some r =>
      obtain ⟨ns', p'⟩ := r
      rw [hs] at h
      dsimp only at h
      split at h
      · rename_i h0
        have e := rdN_le (l := l) (p := p') (most_big k (by omega)) h0
        rw [rdS_ok (rdS_big (by omega) hs) (by rw [e]; exact h0), e]
        exact h
      · cases h
theorem rdS_most {l : List Nat} : ∀ {k p : Nat} {ns : List Nat}, k ≤ 7 → rdS l bigL k = some (ns, p) → (∀ i, i < k → ((ns.getD i 0 : Nat) : Int) ≤ mostL.getD i 0) → rdS l mostL k = some (ns, p)
  | 0, p, ns, _, h, _ => h
  | k + 1, p, ns, hk, h, hm => by
    simp only [rdS] at h
    cases hs : rdS l bigL k with
    | none => rw [hs] at h; cases h
    | some r =>
      obtain ⟨ns', p'⟩ := r
      rw [hs] at h
      dsimp only at h
      split at h
      · rename_i h0
        simp only [Option.some.injEq, Prod.mk.injEq] at h
        have hl := rdS_len hs
        have ih := rdS_most (by omega) hs (fun i hi => by
          have h2 := hm i (by omega)
          rw [← h.1] at h2
          have e1 : (ns' ++ [(rdN l p' (bigL.getD k 0)).1]).getD i 0 = ns'.getD i 0 := by
            simp only [List.getD]
            rw [List.getElem?_append_left (by omega)]
          rw [e1] at h2
          exact h2)
        have h3 := hm k (by omega)
        rw [← h.1] at h3
        have e1 : (ns' ++ [(rdN l p' (bigL.getD k 0)).1]).getD k 0 = (rdN l p' (bigL.getD k 0)).1 := by
          rw [← hl]
          simp [List.getD]
        rw [e1] at h3
        have e2 := rdN_ge h0 h3
        rw [rdS_ok ih (by rw [e2]; exact h0), e2, h.1, h.2]
      · cases h
/- what the document's Head asks of the seven numbers -/
def docN (x0 x1 x2 x3 x4 x5 x6 : Nat) : Prop := x0 = 1 ∧ okN [1, (x1 : Int), x2, x3, x4, x5, 0] = true ∧ x6 ≤ 1024
theorem hdN_doc {l : List Nat} {p x0 x1 x2 x3 x4 x5 x6 : Nat} (h : rdS l bigL 7 = some ([x0, x1, x2, x3, x4, x5, x6], p)) (hd : docN x0 x1 x2 x3 x4 x5 x6) (hp : p = l.length) : hdN l = some [x0, x1, x2, x3, x4, x5, x6] := by
  obtain ⟨h1, h2, h3⟩ := hd
  rw [okN_iff] at h2
  refine hdN_ok (rdS_most (by omega) h ?_) h1 hp
  intro i hi
  have : i = 0 ∨ i = 1 ∨ i = 2 ∨ i = 3 ∨ i = 4 ∨ i = 5 ∨ i = 6 := by omega
  rcases this with rfl | rfl | rfl | rfl | rfl | rfl | rfl <;> simp [mostL] <;> omega
theorem hdN_nodoc {l : List Nat} {p x0 x1 x2 x3 x4 x5 x6 : Nat} (h : rdS l bigL 7 = some ([x0, x1, x2, x3, x4, x5, x6], p)) (hd : ¬ (docN x0 x1 x2 x3 x4 x5 x6 ∧ p = l.length)) : hdN l = none := by
  cases hk : rdS l mostL 7 with
  | none => exact hdN_none hk
  | some r =>
    obtain ⟨ns', p'⟩ := r
    have e := rdS_big (by omega) hk
    rw [h] at e
    simp only [Option.some.injEq, Prod.mk.injEq] at e
    obtain ⟨rfl, rfl⟩ := e
    refine hdN_bad hk (fun h1 => hd ⟨⟨h1.1, ?_, ?_⟩, h1.2⟩)
    · rw [okN_iff]
      have b1 := rdS_bound hk 1 (by omega)
      have b2 := rdS_bound hk 2 (by omega)
      have b3 := rdS_bound hk 3 (by omega)
      have b4 := rdS_bound hk 4 (by omega)
      have b5 := rdS_bound hk 5 (by omega)
      simp [mostL] at b1 b2 b3 b4 b5
      omega
    · have b6 := rdS_bound hk 6 (by omega)
      simp [mostL] at b6
      omega
theorem hdN_bigNone {l : List Nat} (h : rdS l bigL 7 = none) : hdN l = none := by
  cases hk : rdS l mostL 7 with
  | none => exact hdN_none hk
  | some r =>
    obtain ⟨ns', p'⟩ := r
    have e := rdS_big (by omega) hk
    rw [h] at e
    cases e
/- rows of ints of the call's own -/
theorem info3 : (Tryz.prog.info? 3).map (fun i => (i.zero, i.size, i.bytes)) = some (some (.int .i64 0), 1, 8) := by kernel_rfl
def Iow (w : World) (B g k cap : Nat) (ns : List Nat) : Prop := w.ownsRow B 3 1 (.slice (some ⟨g, 0, none⟩) k cap) k (ns.map (wv .i64))
theorem app_int (w : World) (B g k cap x : Nat) (ns : List Nat) (own : Iow w B g k cap ns) (hB : B ≤ w.heap.size) (hk : k ≤ 100) :
    ∃ g' cap' w', Hid ((Builtin.append_ #[85, 85] 85 #[.slice (some ⟨g, 0, none⟩) k cap, .slice (some ⟨w.heap.size, 0, none⟩) 1 1]).run Tryz.prog (w.alloc (.cells #[.int .i64 (x : Int)] 3)) = .ok (.slice (some ⟨g', 0, none⟩) (k + 1) cap') w') ∧ Iow w' B g' (k + 1) cap' (ns ++ [x]) ∧ (w.alloc (.cells #[.int .i64 (x : Int)] 3)).grownBy w' (some g) := by
  obtain ⟨i, hi, hz0, hz1, hz2⟩ := info_parts info3
  obtain ⟨v', w', hrun, hown, hgr, _⟩ := run_append_own (P := Tryz.prog) (w.alloc (.cells #[.int .i64 (x : Int)] 3)) B 85 85 3 i (.int .i64 0) 1 8 Tryz.underlying85 hi hz0 hz1 hz2 rfl (by decide) _ k (ns.map (wv .i64)) (World.ownsRow.alloc own _) ⟨w.heap.size, 0, none⟩ 1 1 [.int .i64 (x : Int)] rfl (fun j u hu => by
      have hj : j = 0 := by
        have := (List.getElem?_eq_some_iff.1 hu).1
        simp at this; omega
      subst hj
      simp at hu
      subst hu
      simp [Addr.add]) (by intro u hu; simp at hu; rw [hu]; rfl) (by unfold maxLen; omega) (by omega) (by simp; omega)
  rcases hown.2 with ⟨_, h0⟩ | ⟨g', cap', cur, rfl, _⟩
  · omega
  · refine ⟨g', cap', w', hrun, ?_, hgr⟩
    unfold Iow
    rw [List.map_append]
    exact hown
theorem Iow.cell {w : World} {B g k cap : Nat} {ns : List Nat} (h : Iow w B g k cap ns) {i : Nat} (hi : i < k) : w.cell? ⟨g, i, none⟩ = some (.int .i64 (ns.getD i 0 : Nat)) := by
  have hl : ns.length = k := by have := h.1; simp at this; omega
  rcases h.2 with ⟨h1, _⟩ | ⟨g', cap', cur, h1, _, h2, _, _, _, h3⟩
  · cases h1
  · cases h1
    rw [Nat.mul_one] at h3
    have h4 : (ns.map (wv .i64))[i]? = some (.int .i64 (ns.getD i 0 : Nat)) := by simp [wv, List.getD, show i < ns.length by omega]
    rw [← h3, List.getElem?_take_of_lt hi] at h4
    simp only [World.cell?, h2]
    simpa using h4
theorem Iow.ge {w : World} {B g k cap : Nat} {ns : List Nat} (h : Iow w B g k cap ns) : B ≤ g ∧ g < w.heap.size := World.ownsRow.lt h g rfl
theorem Iow.block {w w' : World} {B g k cap : Nat} {ns : List Nat} (h : Iow w B g k cap ns) (hb : w'.heap[g]? = w.heap[g]?) : Iow w' B g k cap ns := by
  obtain ⟨h5, h6⟩ := h
  refine ⟨h5, h6.imp id ?_⟩
  rintro ⟨g', cap', cur, e1, e2, e3, e4⟩
  cases e1
  exact ⟨g, _, cur, rfl, e2, hb.trans e3, e4⟩
theorem wpList_app59 {ops : Array Oper} {rest : List Oper} {o : Oper} {a : Act} {Q : Exit → Act → World → Prop} {w w' : World} {v v1 v2 : Value} (hgd : o.guard = none) (s x : Operand)
    (ho : o.op = .call { callee := .builtin .append, args := #[s, x], argTypes := #[85, 85] }) (hty : o.type = 85) (hs : a.eval s = v1) (hx : a.eval x = v2) (hrun : Hid ((Builtin.append_ #[85, 85] 85 #[v1, v2]).run Tryz.prog w = .ok v w'))
    (h : wpList Tryz.prog ops Q rest (a.put o.dst v) w') : wpList Tryz.prog ops Q (o :: rest) a w := by
  refine wpList_plain hgd fun K hK => ?_
  have hr := hrun.out
  unfold Oper.wp
  simp [execOp, ho, resolve, invoke, builtin, hs, hx, hty, hr, Result.andThen]
  exact hK _ _ h
theorem Rrf.keep {w w' : World} {g G : Nat} {a : Option Addr} {n c : Nat} {l : List Nat} {p : Nat} (h : Rrf w g a n c l p) (hb : Below G w w') (hg : g < G) (hd : ∀ b off, l ≠ [] → a = some ⟨b, off, none⟩ → b < G) : Rrf w' g a n c l p :=
  ⟨(hb.block g hg).trans h.blk, sln_block h.sl hb hd, h.nc, h.z, h.ne, h.le⟩
theorem wfr_lt {w w' : World} {g : Nat} (f : Wfr w w' g none) (hg : g ≤ w.heap.size) : Below g w w' := f.below (Below.refl g w) (Nat.le_refl _) (fun q hq => by simp [blkOf] at hq) hg
/- while the document's Head reads the numbers: the result's variable, the two readers, the row of numbers -/
structure Rh (w wr : World) (g1 g2 gi k ci : Nat) (a : Option Addr) (n c : Nat) (F : List Nat) (p1 : Nat) (ao : Option Addr) (no co : Nat) (O : List Nat) (p2 : Nat) (ns : List Nat) : Prop where
  out : Arr .i64 45 wr w.heap.size Z5
  r1 : Rrf wr g1 a n c F p1
  r2 : Rrf wr g2 ao no co O p2
  row : Iow wr (g2 + 1) gi k ci ns
  h1 : w.heap.size < g1
  h2 : g1 < g2
  d1 : ∀ b off, F ≠ [] → a = some ⟨b, off, none⟩ → b < w.heap.size
  d2 : ∀ b off, O ≠ [] → ao = some ⟨b, off, none⟩ → b < g2
  bel : Below w.heap.size w wr
section
variable {w wr w2 : World} {g1 g2 gi k ci : Nat} {a : Option Addr} {n c : Nat} {F : List Nat} {p1 : Nat} {ao : Option Addr} {no co : Nat} {O : List Nat} {p2 : Nat} {ns : List Nat}
theorem Rh.step {q : Nat} (h : Rh w wr g1 g2 gi k ci a n c F p1 ao no co O p2 ns) (r : Rrf w2 g2 ao no co O q) (f : Wfr wr w2 g2 none) : Rh w w2 g1 g2 gi k ci a n c F p1 ao no co O q ns := by
  have e1 := h.h1
  have e2 := h.h2
  have e3 := h.row.ge
  have b := wfr_lt f (by omega)
  exact ⟨h.out.below b (by omega), h.r1.keep b e2 (fun b off h3 h4 => by have := h.d1 b off h3 h4; omega), r, h.row.block (f.block gi e3.2 (by omega) (by simp [blkOf])), e1, e2, h.d1, h.d2, f.below h.bel (by omega) (fun q hq => by simp [blkOf] at hq) h.bel.size⟩
theorem Rh.up {k' ci' gi' : Nat} {ns' : List Nat} (h : Rh w wr g1 g2 gi k ci a n c F p1 ao no co O p2 ns) (b : Below (g2 + 1) wr w2) (hr : Iow w2 (g2 + 1) gi' k' ci' ns') : Rh w w2 g1 g2 gi' k' ci' a n c F p1 ao no co O p2 ns' := by
  have e1 := h.h1
  have e2 := h.h2
  exact ⟨h.out.below b (by omega), h.r1.keep b (by omega) (fun b off h3 h4 => by have := h.d1 b off h3 h4; omega), h.r2.keep b (by omega) (fun b off h3 h4 => by have := h.d2 b off h3 h4; omega), hr, e1, e2, h.d1, h.d2, h.bel.trans (b.mono (by omega))⟩
end
end Go.Proofs.YtkdgakcmhnadfaaGreatDoor

/- Gt -/
/- The document's Head, for all bytes. -/
/- errors turned -/
namespace Go.Proofs.YtkdgakcmhnadfaaGreatDoor
open Go.ChangeShapes Go.WideShapes Go.ChangeAt Go.RowKit
set_option maxRecDepth 20000
set_option linter.unusedVariables false
set_option linter.unusedSimpArgs false
theorem rrb_z {w : World} {g : Nat} {a : Option Addr} {n c : Nat} {l : List Nat} {p : Nat} {z : Int} (hR : Hid (Rrf w g a n c l p)) (h0 : Hid ((rdB l p z).2.1 = 0)) :
    Calls Tryz.prog 106 #[.pointer (some ⟨g, 0, none⟩), .int .i64 z] w fun e w' => ∃ a' m c', e = .returned (.tuple #[.slice a' m c', .int .i64 0]) ∧ Hid (Own w' w.heap.size a' m c' (rdB l p z).1 ∧ Rrf w' g a n c l (rdB l p z).2.2 ∧ Wfr w w' g none) := by
  refine (refrbytes_any hR).mono ?_
  rintro e w' ⟨a', m, c', q, h1, H⟩
  have h2 := H.out.2.1
  rw [h0.out] at h2
  rw [h1, h2]
  exact ⟨a', m, c', rfl, H.out.1, H.out.2.2⟩
theorem rrb_e {w : World} {g : Nat} {a : Option Addr} {n c : Nat} {l : List Nat} {p : Nat} {z : Int} (hR : Hid (Rrf w g a n c l p)) (h0 : Hid ((rdB l p z).2.1 ≠ 0)) :
    Calls Tryz.prog 106 #[.pointer (some ⟨g, 0, none⟩), .int .i64 z] w fun e w' => ∃ a' m c', e = .returned (.tuple #[.slice a' m c', .int .i64 5]) ∧ Hid (Wfr w w' g none) := by
  refine (refrbytes_any hR).mono ?_
  rintro e w' ⟨a', m, c', q, h1, H⟩
  have h2 := H.out.2.1
  rw [rdB_five h0.out] at h2
  rw [h1, h2]
  exact ⟨a', m, c', rfl, H.out.2.2.2⟩
theorem rop_z {w : World} {a : Option Addr} {n c : Nat} {l : List Nat} (h : Hid (Sln w a n l)) (hc : Hid (a = none → c = 0)) (hnc : n ≤ c) (h0 : Hid ((opn l).2 = 0)) :
    Calls Tryz.prog 107 #[.slice a n c] w fun e w' => ∃ a' N c', e = .returned (.tuple #[.slice a' N c', .int .i64 0]) ∧ Hid (Own w' w.heap.size a' N c' (opn l).1 ∧ Below w.heap.size w w') := by
  refine (refopen_any h hc hnc).mono ?_
  rintro e w' ⟨a', m, c', q, h1, H⟩
  have h2 := H.out.1
  rw [h0.out] at h2
  rw [h1, h2]
  exact ⟨a', m, c', rfl, H.out.2⟩
theorem rop_e {w : World} {a : Option Addr} {n c k : Nat} {l : List Nat} (h : Hid (Sln w a n l)) (hc : Hid (a = none → c = 0)) (hnc : n ≤ c) (h0 : Hid ((opn l).2 = k)) :
    Calls Tryz.prog 107 #[.slice a n c] w fun e w' => ∃ a' N c', e = .returned (.tuple #[.slice a' N c', .int .i64 (k : Int)]) ∧ Hid (Below w.heap.size w w') := by
  refine (refopen_any h hc hnc).mono ?_
  rintro e w' ⟨a', m, c', q, h1, H⟩
  have h2 := H.out.1
  rw [h0.out] at h2
  rw [h1, h2]
  exact ⟨a', m, c', rfl, H.out.2.2⟩
theorem rrn_z {w : World} {g : Nat} {a : Option Addr} {n c : Nat} {l : List Nat} {p : Nat} {z : Int} (hR : Hid (Rrf w g a n c l p)) (h0 : Hid ((rdN l p z).2.1 = 0)) :
    Calls Tryz.prog 108 #[.pointer (some ⟨g, 0, none⟩), .int .i64 z] w fun e w' => ∃ x : Nat, e = .returned (.tuple #[.int .i64 (x : Int), .int .i64 0]) ∧ Hid (x = (rdN l p z).1 ∧ Rrf w' g a n c l (rdN l p z).2.2 ∧ Wfr w w' g none) := by
  refine (refrnum_any hR).mono ?_
  rintro e w' ⟨k, q, h1, H⟩
  have h2 := H.out.2.1
  rw [h0.out] at h2
  rw [h1, h2]
  exact ⟨k, rfl, H.out.1, H.out.2.2⟩
theorem rrn_e {w : World} {g : Nat} {a : Option Addr} {n c : Nat} {l : List Nat} {p : Nat} {z : Int} (hR : Hid (Rrf w g a n c l p)) (h0 : Hid ((rdN l p z).2.1 ≠ 0)) :
    Calls Tryz.prog 108 #[.pointer (some ⟨g, 0, none⟩), .int .i64 z] w fun e w' => e = .returned (.tuple #[.int .i64 0, .int .i64 5]) ∧ Hid (Rrf w' g a n c l p ∧ Wfr w w' g none) := by
  refine (refrnum_any hR).mono ?_
  rintro e w' ⟨k, q, h1, H⟩
  have h3 := rdN_five h0.out
  rw [h3] at H
  rw [h1, H.out.2.1, H.out.1]
  exact ⟨rfl, H.out.2.2⟩
def RhEnd (w : World) (F : List Nat) (e : Ending) (w' : World) : Prop := Below w.heap.size w w' ∧
  ((∃ x0 x1 x2 x3 x4 x5 x6 p, hdF F = (0, [x0, x1, x2, x3, x4, x5, x6], p) ∧ e = .returned (.tuple #[.agg (cs .i64 [x1, x2, x3, x4, x5]), .int .i64 (x6 : Int), .int .i64 (p : Int), .int .i64 0])) ∨ (∃ k : Nat, k ≠ 0 ∧ (hdF F).1 = k ∧ e = .returned (.tuple #[.agg (cs .i64 Z5), .int .i64 0, .int .i64 0, .int .i64 (k : Int)])))
theorem rh_bad {w wX : World} {F : List Nat} {k : Nat} (hb : Below w.heap.size w wX) (hk : k ≠ 0) (h : (hdF F).1 = k) : RhEnd w F (.returned (.tuple #[.agg (cs .i64 Z5), .int .i64 0, .int .i64 0, .int .i64 (k : Int)])) (wX.setRow w.heap.size (cs .i64 Z5)) := ⟨(Oth.setRow _).below hb (Nat.le_refl _), .inr ⟨k, hk, h, rfl⟩⟩
theorem sli_lt {w : World} {a : Option Addr} {n : Nat} {l : List Nat} (h : Sln w a n l) : ∀ b off, l ≠ [] → a = some ⟨b, off, none⟩ → b < w.heap.size := by
  intro b off h1 h2
  obtain ⟨b', off', h3, h4, _⟩ := h.sli.2.2.resolve_left h1
  rw [h3] at h2
  cases h2
  exact h4
set_option maxHeartbeats 8000000 in
theorem refHead_n {w : World} {a : Option Addr} {n c : Nat} {F : List Nat} (hS : Hid (Sln w a n F)) (hc : Hid (a = none → c = 0)) (hnc : n ≤ c) :
    Calls Tryz.prog 68 #[.slice a n c] w fun e w' => RhEnd w F e w' := by
  obtain ⟨W1, HW1⟩ : ∃ W1, Hid ((w.alloc (.cells #[.int .i64 0, .int .i64 0, .int .i64 0, .int .i64 0, .int .i64 0] 45)).alloc (.cells #[.slice a n c, .int .i64 0] 162) = W1) := ⟨_, rfl⟩
  have b1 : Hid (Below w.heap.size w W1 ∧ W1.heap.size = w.heap.size + 2) := by rw [← HW1.out]; exact ⟨((Below.refl _ w).alloc (Nat.le_refl _) _).alloc (by simp) _, by simp⟩
  have t2 := two w (.cells #[.int .i64 0, .int .i64 0, .int .i64 0, .int .i64 0, .int .i64 0] 45) (.cells #[.slice a n c, .int .i64 0] 162)
  rw [HW1.out] at t2
  have A1 : Hid (Arr .i64 45 W1 w.heap.size Z5) := t2.1
  have DA : Hid (∀ b off, F ≠ [] → a = some ⟨b, off, none⟩ → b < w.heap.size) := sli_lt hS.out
  have R1 : Hid (Rrf W1 (w.heap.size + 1) a n c F 0) := ⟨t2.2, hS.out.below b1.out.1, hnc, hc.out, fun b off h1 h2 => by have := DA.out b off h1 h2; omega, by omega⟩
  clear t2
  by_cases h1 : (rdB F 0 256).2.1 = 0
  · have H1 : Hid ((rdB F 0 256).2.1 = 0) := h1
    by_cases h2 : (opn (rdB F 0 256).1).2 = 0
    · have H2 : Hid ((opn (rdB F 0 256).1).2 = 0) := h2
      obtain ⟨O, HO⟩ : ∃ O, Hid ((opn (rdB F 0 256).1).1 = O) := ⟨_, rfl⟩
      obtain ⟨p1, HP1⟩ : ∃ p1, Hid ((rdB F 0 256).2.2 = p1) := ⟨_, rfl⟩
      have NO : Hid (hdN O = none → (hdF F).1 = 5) := fun h => by rw [hdF_none h1 h2 (by rw [HO.out]; exact h)]
      have YES : Hid (∀ ns, hdN O = some ns → hdF F = (0, ns, p1)) := fun ns h => by rw [hdF_some h1 h2 (by rw [HO.out]; exact h), HP1.out]
      have OL : Hid (O.length ≤ 140737488352256) := by rw [← HO.out]; exact opn_small F
      clear h1 h2
      go_enter Tryz.func68, Tryz.ntmps68
      go_upto_region 8 with (first
        | (go_at_call 106; rw [HW1.out]; refine (rrb_z R1 H1).mono ?_; rintro e w2 ⟨a2, m2, c2, rfl, G2⟩
           have S2 : Hid (Sln w2 a2 m2 (rdB F 0 256).1) := G2.out.1.sln (by rw [G2.out.1.len]; exact rdB_small F)
           have Z2 : Hid (a2 = none → c2 = 0) := G2.out.1.cap0
           have N2 : m2 ≤ c2 := G2.out.1.cap
           have w1s := b1.out.2
           have A2 : Hid (Arr .i64 45 w2 w.heap.size Z5) := (G2.out.2.2.block _ A1.out.lt (by omega) (by simp [blkOf])).trans A1.out
           have B2 : Hid (Below w.heap.size w w2) := G2.out.2.2.below b1.out.1 (by omega) (fun q hq => by simp [blkOf] at hq) (by omega)
           have R2 : Hid (Rrf w2 (w.heap.size + 1) a n c F p1) := by rw [← HP1.out]; exact G2.out.2.1
           have W12 : Hid (w.heap.size + 2 ≤ w2.heap.size) := by have := G2.out.2.2.size; show _ ≤ _; omega
           clear w1s)
        | (go_at_call 107; refine (rop_z S2 Z2 N2 H2).mono ?_; rintro e w3 ⟨a3, m3, c3, rfl, G3⟩))
      have O3 : Hid (Own w3 w2.heap.size a3 m3 c3 O) := by rw [← HO.out]; exact G3.out.1
      have A3 : Hid (Arr .i64 45 w3 w.heap.size Z5) := A2.out.below G3.out.2 A2.out.lt
      have B3 : Hid (Below w.heap.size w w3) := B2.out.trans (G3.out.2.mono B2.out.size)
      have R3 : Hid (Rrf w3 (w.heap.size + 1) a n c F p1) := R2.out.below G3.out.2
      have W13 : Hid (w.heap.size + 2 ≤ w3.heap.size) := Nat.le_trans W12.out G3.out.2.size
      obtain ⟨g2, HG2⟩ : ∃ g2, Hid (w3.heap.size = g2) := ⟨_, rfl⟩
      obtain ⟨W5, HW5⟩ : ∃ W5, Hid ((w3.alloc (.cells #[.slice a3 m3 c3, .int .i64 0] 162)).alloc (.cells #[] 3) = W5) := ⟨_, rfl⟩
      have R5 : Hid (Rh w W5 (w.heap.size + 1) g2 (g2 + 1) 0 0 a n c F p1 a3 m3 c3 O 0 []) := by
        have b5 : Below w3.heap.size w3 W5 := by rw [← HW5.out]; exact ((Below.refl _ w3).alloc (Nat.le_refl _) _).alloc (by simp) _
        have t5 := two w3 (.cells #[.slice a3 m3 c3, .int .i64 0] 162) (.cells #[] 3)
        rw [HW5.out] at t5
        rw [← HG2.out]
        have s3 := O3.out.sln (by rw [O3.out.len]; exact OL.out)
        refine ⟨A3.out.below b5 A3.out.lt, R3.out.below b5, ⟨t5.1, s3.below b5, O3.out.cap, O3.out.cap0, fun b off h3 h4 => by have := sli_lt s3 b off h3 h4; omega, by omega⟩, ?_, by omega, by have := W13.out; omega, DA.out, sli_lt s3, B3.out.trans (b5.mono B3.out.size)⟩
        rw [← HW5.out]
        have h6 := World.ownsRow_made (base := w3.heap.size + 1) (e := 3) (size := 1) (w3.alloc (.cells #[.slice a3 m3 c3, .int .i64 0] 162)) #[] 0 (by simp) (by unfold maxLen; omega) (by simp)
        rw [World.size_alloc] at h6
        exact h6
      clear S2 Z2 N2 A2 B2 R2 W12 G2 G3 O3 A3 B3 R3 A1 R1
      go_wp2
      rw [HG2.out]
      refine (show _ = W5 from HW5.out) ▸ ?_
      clear HW5 HG2 W13
      go_loopw [11] (fun t wr => ∃ (k gi ci p2 : Nat) (ns : List Nat), k ≤ 7 ∧ t = .slice (some ⟨gi, 0, none⟩) k ci ∧ Hid (rdS O bigL k = some (ns, p2) ∧ Rh w wr (w.heap.size + 1) g2 gi k ci a n c F p1 a3 m3 c3 O p2 ns)) (fun t _ => 7 - slen t)
      case atStart => exact ⟨0, g2 + 1, 0, 0, [], by omega, rfl, rfl, R5.out⟩
      case round =>
        clear R5
        obtain ⟨k, gi, ci, p2, ns, hk, rfl, HK⟩ := hrel
        have RK : Hid (Rrf wr g2 a3 m3 c3 O p2) := HK.out.2.r2
        by_cases hlt : k < 7
        · have i1 : (k : Int) < 7 := by omega
          have HLT : Hid (k < 7) := hlt
          have BG : Hid (bigL.getD k 0 = 1099511627776) := by
            have : ∀ i, i < 7 → bigL.getD i 0 = 1099511627776 := by decide
            exact this k hlt
          by_cases hz : (rdN O p2 1099511627776).2.1 = 0
          · have HZ : Hid ((rdN O p2 1099511627776).2.1 = 0) := hz
            clear hz
            go_wp2_with (first
              | (go_at_call 108; refine (rrn_z RK HZ).mono ?_; rintro e w6 ⟨x, rfl, G6⟩
                 have R6 : Hid (Rh w w6 (w.heap.size + 1) g2 gi k ci a n c F p1 a3 m3 c3 O (rdN O p2 1099511627776).2.2 ns) := HK.out.2.step G6.out.2.1 G6.out.2.2
                 have lg := R6.out.row.ge
                 obtain ⟨g7, c7, w7, AP, row7, gr7⟩ := app_int w6 (g2 + 1) gi k ci x ns R6.out.row (by omega) (by have := HLT.out; omega)
                 have R7 : Hid (Rh w w7 (w.heap.size + 1) g2 g7 (k + 1) c7 a n c F p1 a3 m3 c3 O (rdN O p2 1099511627776).2.2 (ns ++ [x])) := by
                   refine R6.out.up ?_ row7
                   have b6 : Below (g2 + 1) w6 (w6.alloc (.cells #[.int .i64 (x : Int)] 3)) := (Below.refl _ w6).alloc (by omega) _
                   exact b6.grown gr7 (by simp; omega) (fun j e => by cases e; omega)
                 have RS : Hid (rdS O bigL (k + 1) = some (ns ++ [x], (rdN O p2 1099511627776).2.2)) := by
                   have h6 := rdS_ok HK.out.1 (by rw [BG.out]; exact HZ.out)
                   rw [BG.out, ← G6.out.1] at h6
                   exact h6
                 clear lg row7 gr7)
              | (at_builtin; refine wpList_app59 (by rfl) (.tmp 52) (.tmp 54) (by rfl) (by rfl) (by rfl) (by rfl) AP ?_))
            go_roundw
            case rel => exact ⟨k + 1, g7, c7, (rdN O p2 1099511627776).2.2, ns ++ [x], by omega, rfl, RS.out, R7.out⟩
            case measure => simp [slen]; omega
          · have HZ : Hid ((rdN O p2 1099511627776).2.1 ≠ 0) := hz
            have HF : Hid ((hdF F).1 = 5) := by
              refine NO.out (hdN_bigNone ?_)
              have h6 := rdS_none (rdS_bad HK.out.1 (by rw [BG.out]; exact hz)) (7 - (k + 1))
              rw [show k + 1 + (7 - (k + 1)) = 7 by omega] at h6
              exact h6
            clear hz
            go_wp2_with (first
              | (go_at_call 108; refine (rrn_e RK HZ).mono ?_; rintro e w6 ⟨rfl, G6⟩
                 have R6 : Hid (Rh w w6 (w.heap.size + 1) g2 gi k ci a n c F p1 a3 m3 c3 O p2 ns) := HK.out.2.step G6.out.1 G6.out.2
                 have A6 : Hid (Arr .i64 45 w6 w.heap.size Z5) := R6.out.out)
              | (refine wpList_st0 (k := .i64) (t := 45) (l := Z5) (l2 := Z5) (by rfl) (by rfl) 45 (.tmp 2) (.tmp 50) (by rfl) (by rfl) (by rfl) A6 sz25s (by rfl) ?_))
            have FIN := rh_bad (k := 5) R6.out.bel (by omega) HF.out
            refine bodyPost_ret (res_arr4 (by rfl) (by rfl) (A6.out.setRow Z5) und25s sz25s) rfl ?_
            exact FIN
        · obtain rfl : k = 7 := by omega
          obtain ⟨x0, x1, x2, x3, x4, x5, x6, rfl⟩ := seven (rdS_len HK.out.1)
          have RK2 := HK.out.2.row
          have y1 := RK2.cell (i := 1) (by omega)
          have y2 := RK2.cell (i := 2) (by omega)
          have y3 := RK2.cell (i := 3) (by omega)
          have y4 := RK2.cell (i := 4) (by omega)
          have y5 := RK2.cell (i := 5) (by omega)
          have S0 : wr.drew.cell? ⟨gi, 1, none⟩ = some (.int .i64 (x1 : Int)) ∧ wr.drew.cell? ⟨gi, 2, none⟩ = some (.int .i64 (x2 : Int)) ∧ wr.drew.cell? ⟨gi, 3, none⟩ = some (.int .i64 (x3 : Int)) ∧ wr.drew.cell? ⟨gi, 4, none⟩ = some (.int .i64 (x4 : Int)) ∧ wr.drew.cell? ⟨gi, 5, none⟩ = some (.int .i64 (x5 : Int)) := ⟨y1, y2, y3, y4, y5⟩
          have gg := RK2.ge
          have SA : (wr.alloc (.cells (cs .i64 Z5) 45)).drew.cell? ⟨gi, 1, none⟩ = some (.int .i64 (x1 : Int)) ∧ (wr.alloc (.cells (cs .i64 Z5) 45)).drew.cell? ⟨gi, 2, none⟩ = some (.int .i64 (x2 : Int)) ∧ (wr.alloc (.cells (cs .i64 Z5) 45)).drew.cell? ⟨gi, 3, none⟩ = some (.int .i64 (x3 : Int)) ∧ (wr.alloc (.cells (cs .i64 Z5) 45)).drew.cell? ⟨gi, 4, none⟩ = some (.int .i64 (x4 : Int)) ∧ (wr.alloc (.cells (cs .i64 Z5) 45)).drew.cell? ⟨gi, 5, none⟩ = some (.int .i64 (x5 : Int)) := by
            have b8 : Below wr.heap.size wr (wr.alloc (.cells (cs .i64 Z5) 45)).drew := ((Below.refl _ _).alloc (Nat.le_refl _) _).drew
            exact ⟨(b8.cell (p := ⟨gi, 1, none⟩) gg.2).trans y1, (b8.cell (p := ⟨gi, 2, none⟩) gg.2).trans y2, (b8.cell (p := ⟨gi, 3, none⟩) gg.2).trans y3, (b8.cell (p := ⟨gi, 4, none⟩) gg.2).trans y4, (b8.cell (p := ⟨gi, 5, none⟩) gg.2).trans y5⟩
          obtain ⟨W6, HW6⟩ : ∃ W6, Hid ((wr.alloc (.cells (cs .i64 Z5) 45)).drew.setRow wr.heap.size (cs .i64 [x1, x2, x3, x4, x5]) = W6) := ⟨_, rfl⟩
          have b9 : Below wr.heap.size wr W6 := by rw [← HW6.out]; exact (Oth.setRow _).below (((Below.refl _ wr).alloc (Nat.le_refl _) _).drew) (Nat.le_refl _)
          have SB : W6.cell? ⟨gi, 1, none⟩ = some (.int .i64 (x1 : Int)) ∧ W6.cell? ⟨gi, 2, none⟩ = some (.int .i64 (x2 : Int)) ∧ W6.cell? ⟨gi, 3, none⟩ = some (.int .i64 (x3 : Int)) ∧ W6.cell? ⟨gi, 4, none⟩ = some (.int .i64 (x4 : Int)) ∧ W6.cell? ⟨gi, 5, none⟩ = some (.int .i64 (x5 : Int)) := ⟨(b9.cell (p := ⟨gi, 1, none⟩) gg.2).trans y1, (b9.cell (p := ⟨gi, 2, none⟩) gg.2).trans y2, (b9.cell (p := ⟨gi, 3, none⟩) gg.2).trans y3, (b9.cell (p := ⟨gi, 4, none⟩) gg.2).trans y4, (b9.cell (p := ⟨gi, 5, none⟩) gg.2).trans y5⟩
          have R6 : Hid (Rh w W6 (w.heap.size + 1) g2 gi 7 ci a n c F p1 a3 m3 c3 O p2 [x0, x1, x2, x3, x4, x5, x6]) := HK.out.2.up (b9.mono (by omega)) (RK2.block (b9.block gi gg.2))
          have AN : Arr .i64 45 (wr.alloc (.cells (cs .i64 Z5) 45)).drew wr.heap.size Z5 := Arr.new wr .i64 45 Z5
          have AS0 : Hid (Arr .i64 45 W6 wr.heap.size [x1, x2, x3, x4, x5]) := by rw [← HW6.out]; exact AN.setRow _
          have GL : Hid (gi < wr.heap.size) := gg.2
          have GG : Hid (g2 + 1 ≤ W6.heap.size) := by have h6 := b9.size; show _ ≤ _; omega
          have RS : Hid (rdS O bigL 7 = some ([x0, x1, x2, x3, x4, x5, x6], p2)) := HK.out.1
          have ML : Hid (m3 = O.length) := HK.out.2.r2.sl.len
          rw [← HW6.out] at SB
          clear RK2 y1 y2 y3 y4 y5 b9 gg RK HK
          go_wp2
          refine wp_region_till (S := fun L W => W.cell? ⟨gi, 1, none⟩ = some (.int .i64 (x1 : Int)) ∧ W.cell? ⟨gi, 2, none⟩ = some (.int .i64 (x2 : Int)) ∧ W.cell? ⟨gi, 3, none⟩ = some (.int .i64 (x3 : Int)) ∧ W.cell? ⟨gi, 4, none⟩ = some (.int .i64 (x4 : Int)) ∧ W.cell? ⟨gi, 5, none⟩ = some (.int .i64 (x5 : Int))) (by kernel_rfl) S0 (fun hS => ?_)
          clear S0
          refine till_take (i := 0) (v := .slice (some ⟨gi, 0, none⟩) 7 ci) rfl (by kernel_rfl) (by kernel_rfl) (by kernel_rfl) (fun _ _ _ h => h) (fun L w => Iff.rfl) (Or.inl ⟨by rfl, fun w => by go_simp⟩) hS (fun hSb => ?_)
          simp only [List.getElem_toArray, List.getElem_cons_zero, List.getElem_cons_succ, Act.put, List.setIfInBounds_toArray, List.set_cons_zero, List.set_cons_succ]
          clear hS
          refine till_take (i := 1) (v := .pointer (some ⟨gi, 1, none⟩)) rfl (by kernel_rfl) (by kernel_rfl) (by kernel_rfl) (fun _ _ _ h => h) (fun L w => Iff.rfl) (Or.inl ⟨by rfl, fun w => by go_simp⟩) hSb (fun hS => ?_)
          simp only [List.getElem_toArray, List.getElem_cons_zero, List.getElem_cons_succ, Act.put, List.setIfInBounds_toArray, List.set_cons_zero, List.set_cons_succ]
          clear hSb
          refine till_take (i := 3) (v := .slice (some ⟨gi, 0, none⟩) 7 ci) rfl (by kernel_rfl) (by kernel_rfl) (by kernel_rfl) (fun _ _ _ h => h) (fun L w => Iff.rfl) (Or.inl ⟨by rfl, fun w => by go_simp⟩) hS (fun hSb => ?_)
          simp only [List.getElem_toArray, List.getElem_cons_zero, List.getElem_cons_succ, Act.put, List.setIfInBounds_toArray, List.set_cons_zero, List.set_cons_succ]
          clear hS
          refine till_take (i := 4) (v := .pointer (some ⟨gi, 2, none⟩)) rfl (by kernel_rfl) (by kernel_rfl) (by kernel_rfl) (fun _ _ _ h => h) (fun L w => Iff.rfl) (Or.inl ⟨by rfl, fun w => by go_simp⟩) hSb (fun hS => ?_)
          simp only [List.getElem_toArray, List.getElem_cons_zero, List.getElem_cons_succ, Act.put, List.setIfInBounds_toArray, List.set_cons_zero, List.set_cons_succ]
          clear hSb
          refine till_take (i := 6) (v := .slice (some ⟨gi, 0, none⟩) 7 ci) rfl (by kernel_rfl) (by kernel_rfl) (by kernel_rfl) (fun _ _ _ h => h) (fun L w => Iff.rfl) (Or.inl ⟨by rfl, fun w => by go_simp⟩) hS (fun hSb => ?_)
          simp only [List.getElem_toArray, List.getElem_cons_zero, List.getElem_cons_succ, Act.put, List.setIfInBounds_toArray, List.set_cons_zero, List.set_cons_succ]
          clear hS
          refine till_take (i := 7) (v := .pointer (some ⟨gi, 3, none⟩)) rfl (by kernel_rfl) (by kernel_rfl) (by kernel_rfl) (fun _ _ _ h => h) (fun L w => Iff.rfl) (Or.inl ⟨by rfl, fun w => by go_simp⟩) hSb (fun hS => ?_)
          simp only [List.getElem_toArray, List.getElem_cons_zero, List.getElem_cons_succ, Act.put, List.setIfInBounds_toArray, List.set_cons_zero, List.set_cons_succ]
          clear hSb
          refine till_take (i := 10) (v := .slice (some ⟨gi, 0, none⟩) 7 ci) rfl (by kernel_rfl) (by kernel_rfl) (by kernel_rfl) (fun _ _ _ h => h) (fun L w => Iff.rfl) (Or.inl ⟨by rfl, fun w => by go_simp⟩) hS (fun hSb => ?_)
          simp only [List.getElem_toArray, List.getElem_cons_zero, List.getElem_cons_succ, Act.put, List.setIfInBounds_toArray, List.set_cons_zero, List.set_cons_succ]
          clear hS
          refine till_take (i := 11) (v := .pointer (some ⟨gi, 4, none⟩)) rfl (by kernel_rfl) (by kernel_rfl) (by kernel_rfl) (fun _ _ _ h => h) (fun L w => Iff.rfl) (Or.inl ⟨by rfl, fun w => by go_simp⟩) hSb (fun hS => ?_)
          simp only [List.getElem_toArray, List.getElem_cons_zero, List.getElem_cons_succ, Act.put, List.setIfInBounds_toArray, List.set_cons_zero, List.set_cons_succ]
          clear hSb
          refine till_take (i := 13) (v := .slice (some ⟨gi, 0, none⟩) 7 ci) rfl (by kernel_rfl) (by kernel_rfl) (by kernel_rfl) (fun _ _ _ h => h) (fun L w => Iff.rfl) (Or.inl ⟨by rfl, fun w => by go_simp⟩) hS (fun hSb => ?_)
          simp only [List.getElem_toArray, List.getElem_cons_zero, List.getElem_cons_succ, Act.put, List.setIfInBounds_toArray, List.set_cons_zero, List.set_cons_succ]
          clear hS
          refine till_take (i := 14) (v := .pointer (some ⟨gi, 5, none⟩)) rfl (by kernel_rfl) (by kernel_rfl) (by kernel_rfl) (fun _ _ _ h => h) (fun L w => Iff.rfl) (Or.inl ⟨by rfl, fun w => by go_simp⟩) hSb (fun hS => ?_)
          simp only [List.getElem_toArray, List.getElem_cons_zero, List.getElem_cons_succ, Act.put, List.setIfInBounds_toArray, List.set_cons_zero, List.set_cons_succ]
          clear hSb
          refine till_read (i := 2) (c := 9) (v := .int .i64 (x1 : Int)) (T := fun W => W.cell? ⟨gi, 1, none⟩ = some (.int .i64 (x1 : Int))) rfl rfl (by kernel_rfl) (by kernel_rfl) (by kernel_rfl) (by kernel_rfl) (by kernel_rfl) (fun _ _ _ h => h) (fun L w => Iff.rfl) (fun L w h1 h2 => h2.1) (Or.inl ⟨by rfl, fun w hSw => by go_simp⟩) hS (fun hSb => ?_)
          simp only [List.getElem_toArray, List.getElem_cons_zero, List.getElem_cons_succ, Act.put, List.setIfInBounds_toArray, List.set_cons_zero, List.set_cons_succ]
          clear hS
          refine till_read (i := 5) (c := 9) (v := .int .i64 (x2 : Int)) (T := fun W => W.cell? ⟨gi, 2, none⟩ = some (.int .i64 (x2 : Int))) rfl rfl (by kernel_rfl) (by kernel_rfl) (by kernel_rfl) (by kernel_rfl) (by kernel_rfl) (fun _ _ _ h => h) (fun L w => Iff.rfl) (fun L w h1 h2 => h2.2.1) (Or.inl ⟨by rfl, fun w hSw => by go_simp⟩) hSb (fun hS => ?_)
          simp only [List.getElem_toArray, List.getElem_cons_zero, List.getElem_cons_succ, Act.put, List.setIfInBounds_toArray, List.set_cons_zero, List.set_cons_succ]
          clear hSb
          refine till_read (i := 8) (c := 9) (v := .int .i64 (x3 : Int)) (T := fun W => W.cell? ⟨gi, 3, none⟩ = some (.int .i64 (x3 : Int))) rfl rfl (by kernel_rfl) (by kernel_rfl) (by kernel_rfl) (by kernel_rfl) (by kernel_rfl) (fun _ _ _ h => h) (fun L w => Iff.rfl) (fun L w h1 h2 => h2.2.2.1) (Or.inl ⟨by rfl, fun w hSw => by go_simp⟩) hS (fun hSb => ?_)
          simp only [List.getElem_toArray, List.getElem_cons_zero, List.getElem_cons_succ, Act.put, List.setIfInBounds_toArray, List.set_cons_zero, List.set_cons_succ]
          clear hS
          refine till_read (i := 12) (c := 16) (v := .int .i64 (x4 : Int)) (T := fun W => W.cell? ⟨gi, 4, none⟩ = some (.int .i64 (x4 : Int))) rfl rfl (by kernel_rfl) (by kernel_rfl) (by kernel_rfl) (by kernel_rfl) (by kernel_rfl) (fun _ _ _ h => h) (fun L w => Iff.rfl) (fun L w h1 h2 => h2.2.2.2.1) (Or.inl ⟨by rfl, fun w hSw => by go_simp⟩) hSb (fun hS => ?_)
          simp only [List.getElem_toArray, List.getElem_cons_zero, List.getElem_cons_succ, Act.put, List.setIfInBounds_toArray, List.set_cons_zero, List.set_cons_succ]
          clear hSb
          refine till_read (i := 15) (c := 16) (v := .int .i64 (x5 : Int)) (T := fun W => W.cell? ⟨gi, 5, none⟩ = some (.int .i64 (x5 : Int))) rfl rfl (by kernel_rfl) (by kernel_rfl) (by kernel_rfl) (by kernel_rfl) (by kernel_rfl) (fun _ _ _ h => h) (fun L w => Iff.rfl) (fun L w h1 h2 => h2.2.2.2.2) (Or.inl ⟨by rfl, fun w hSw => by go_simp⟩) hS (fun hSb => ?_)
          simp only [List.getElem_toArray, List.getElem_cons_zero, List.getElem_cons_succ, Act.put, List.setIfInBounds_toArray, List.set_cons_zero, List.set_cons_succ]
          clear hS
          refine till_take (i := 9) (v := .agg #[.int .i64 (x1 : Int), .int .i64 (x2 : Int), .int .i64 (x3 : Int)]) rfl (by kernel_rfl) (by kernel_rfl) (by kernel_rfl) (fun _ _ _ h => h) (fun L w => Iff.rfl) (Or.inl ⟨by rfl, fun w => by go_simp⟩) hSb (fun hS => ?_)
          simp only [List.getElem_toArray, List.getElem_cons_zero, List.getElem_cons_succ, Act.put, List.setIfInBounds_toArray, List.set_cons_zero, List.set_cons_succ]
          clear hSb
          refine till_take (i := 16) (v := .agg #[.int .i64 (x1 : Int), .int .i64 (x2 : Int), .int .i64 (x3 : Int), .int .i64 (x4 : Int), .int .i64 (x5 : Int)]) rfl (by kernel_rfl) (by kernel_rfl) (by kernel_rfl) (fun _ _ _ h => h) (fun L w => Iff.rfl) (Or.inl ⟨by rfl, fun w => by go_simp⟩) hS (fun hSb => ?_)
          simp only [List.getElem_toArray, List.getElem_cons_zero, List.getElem_cons_succ, Act.put, List.setIfInBounds_toArray, List.set_cons_zero, List.set_cons_succ]
          clear hS
          refine till_one (i := 17) (by kernel_rfl) rfl (fun K hK => ?_)
          simp only [List.getElem_toArray, List.getElem_cons_zero, List.getElem_cons_succ]
          rw [if_pos (by rfl)]
          go_simp
          refine hK.out _ _ (SA) (fun hS => ?_)
          clear hK K
          try simp only [List.getElem_toArray, List.getElem_cons_zero, List.getElem_cons_succ, Act.put, List.setIfInBounds_toArray, List.set_cons_zero, List.set_cons_succ]
          clear hSb
          refine till_one (i := 18) (by kernel_rfl) rfl (fun K hK => ?_)
          simp only [List.getElem_toArray, List.getElem_cons_zero, List.getElem_cons_succ]
          rw [if_pos (by rfl)]
          refine wp_st (k := .i64) (t := 45) (l := Z5) (l2 := [x1, x2, x3, x4, x5]) (by rfl) 45 (.tmp 14) (.tmp 72) (by rfl) (by rfl) (by rfl) AN sz25s (by rfl) ?_
          refine hK.out _ _ (SB) (fun hSb => ?_)
          clear hK K
          try simp only [List.getElem_toArray, List.getElem_cons_zero, List.getElem_cons_succ, Act.put, List.setIfInBounds_toArray, List.set_cons_zero, List.set_cons_succ]
          clear hS
          refine till_done (by kernel_rfl) ?_ _
          clear hSb
          refine (show _ = W6 from HW6.out) ▸ ?_
          obtain ⟨gs, HGS⟩ : ∃ gs, Hid (wr.heap.size = gs) := ⟨_, rfl⟩
          rw [HGS.out]
          rw [HGS.out] at AS0
          have AS : Hid (Arr .i64 45 W6 gs [x1, x2, x3, x4, x5]) := AS0.out
          have GNE : Hid (gs ≠ w.heap.size ∧ gi ≠ w.heap.size) := by have h6 := R6.out.h1; have h7 := R6.out.h2; have h8 := R6.out.row.ge; have h9 := GL.out; have h10 := HGS.out; exact ⟨by omega, by omega⟩
          clear SA SB HW6 AS0 HGS AN
          have z0 := R6.out.row.cell (i := 0) (by omega)
          have v1 := R6.out.r2.c1
          have q0 := AS.out.cell (i := 0) (by simp)
          have q1 := AS.out.cell (i := 1) (by simp)
          have q2 := AS.out.cell (i := 2) (by simp)
          have q3 := AS.out.cell (i := 3) (by simp)
          have q4 := AS.out.cell (i := 4) (by simp)
          have A6 : Hid (Arr .i64 45 W6 w.heap.size Z5) := R6.out.out
          simp only [List.getD_cons_zero, List.getD_cons_succ] at z0 q0 q1 q2 q3 q4
          by_cases c1 : x0 = 1
          · have i1 : ((x0 : Int) == 1) = true := by simp; omega
            have i2 : ((x0 : Int) != 1) = false := by simp; omega
            by_cases c2 : p2 = m3
            · have i3 : ((p2 : Int) == (m3 : Int)) = true := by simp; omega
              have i4 : ((p2 : Int) != (m3 : Int)) = false := by simp; omega
              obtain ⟨ob, OKB⟩ : ∃ ob, Hid (okN [1, (x1 : Int), x2, x3, x4, x5, 0] = ob) := ⟨_, rfl⟩
              have C12 : Hid (x0 = 1 ∧ p2 = m3) := ⟨c1, c2⟩
              clear c1 c2
              cases ob with
              | false =>
                have HF : Hid ((hdF F).1 = 5) := NO.out (hdN_nodoc RS.out (fun h => by rw [h.1.2.1] at OKB; cases OKB.out))
                go_wp2_with (first
                  | (go_at_call 109; refine (refInForm_n (x1 : Int) x2 x3 x4 x5 _).mono ?_; rintro e w7 ⟨rfl, G7⟩
                     rw [OKB.out]
                     have R7 : Hid (Rh w w7 (w.heap.size + 1) g2 gi 7 ci a n c F p1 a3 m3 c3 O p2 [x0, x1, x2, x3, x4, x5, x6]) := R6.out.up (G7.out.mono GG.out) (R6.out.row.block (G7.out.block gi R6.out.row.ge.2))
                     have A7 : Hid (Arr .i64 45 w7 w.heap.size Z5) := R7.out.out
                     have y6 := R7.out.row.cell (i := 6) (by omega)
                     have AS7 : Hid (Arr .i64 45 w7 gs [x1, x2, x3, x4, x5]) := AS.out.below G7.out AS.out.lt)
                  | (refine wpList_st0 (k := .i64) (t := 45) (l := Z5) (l2 := Z5) (by rfl) (by rfl) 45 (.tmp 2) (.tmp 97) (by rfl) (by rfl) (by rfl) A7 sz25s (by rfl) ?_))
                have FIN := rh_bad (k := 5) R7.out.bel (by omega) HF.out
                refine bodyPost_ret (res_arr4 (by rfl) (by rfl) (A7.out.setRow Z5) und25s sz25s) rfl ?_
                exact FIN
              | true =>
                by_cases d6 : x6 ≤ 1024
                · have i5 : ¬ ((1024 : Int) < (x6 : Int)) := by omega
                  have HF : Hid (hdF F = (0, [x0, x1, x2, x3, x4, x5, x6], p1)) := YES.out _ (hdN_doc RS.out ⟨C12.out.1, OKB.out, d6⟩ (by rw [C12.out.2]; exact ML.out))
                  go_wp2_with (go_at_call 109; refine (refInForm_n (x1 : Int) x2 x3 x4 x5 _).mono ?_; rintro e w7 ⟨rfl, G7⟩
                               rw [OKB.out]
                               have R7 : Hid (Rh w w7 (w.heap.size + 1) g2 gi 7 ci a n c F p1 a3 m3 c3 O p2 [x0, x1, x2, x3, x4, x5, x6]) := R6.out.up (G7.out.mono GG.out) (R6.out.row.block (G7.out.block gi R6.out.row.ge.2))
                               have A7 : Hid (Arr .i64 45 w7 w.heap.size Z5) := R7.out.out
                               have y6 := R7.out.row.cell (i := 6) (by omega)
                               have AS7 : Hid (Arr .i64 45 w7 gs [x1, x2, x3, x4, x5]) := AS.out.below G7.out AS.out.lt)
                  have gne : Hid (gs ≠ w.heap.size ∧ gi ≠ w.heap.size) := GNE.out
                  have c6 : w7.drew.cell? ⟨gi, 6, none⟩ = some (.int .i64 (x6 : Int)) := y6
                  have cp : w7.drew.cell? ⟨w.heap.size + 1, 1, none⟩ = some (.int .i64 (p1 : Int)) := R7.out.r1.c1
                  have AW : Hid (Arr .i64 45 w7.drew w.heap.size Z5) := A7.out
                  have BW : Hid (Below w.heap.size w w7.drew) := R7.out.bel.drew
                  have SC : Rng .i64 w7.drew gs 0 [x1, x2, x3, x4, x5] ∧ w7.drew.cell? ⟨gi, 6, none⟩ = some (.int .i64 (x6 : Int)) ∧ w7.drew.cell? ⟨w.heap.size + 1, 1, none⟩ = some (.int .i64 (p1 : Int)) := ⟨AS7.out.rng, c6, cp⟩
                  have SD : Rng .i64 (w7.drew.setRow w.heap.size (cs .i64 [x1, x2, x3, x4, x5])) gs 0 [x1, x2, x3, x4, x5] ∧ (w7.drew.setRow w.heap.size (cs .i64 [x1, x2, x3, x4, x5])).cell? ⟨gi, 6, none⟩ = some (.int .i64 (x6 : Int)) ∧ (w7.drew.setRow w.heap.size (cs .i64 [x1, x2, x3, x4, x5])).cell? ⟨w.heap.size + 1, 1, none⟩ = some (.int .i64 (p1 : Int)) :=
                    ⟨(Arr.setRow_ne (w := w7.drew) AS7.out _ gne.out.1).rng, (World.cell?_of_block (setRow_other w7.drew w.heap.size gi _ gne.out.2)).trans c6, (World.cell?_of_block (setRow_other w7.drew w.heap.size (w.heap.size + 1) _ (by omega))).trans cp⟩
                  refine wp_region_till (S := fun L W => Rng .i64 W gs 0 [x1, x2, x3, x4, x5] ∧ W.cell? ⟨gi, 6, none⟩ = some (.int .i64 (x6 : Int)) ∧ W.cell? ⟨w.heap.size + 1, 1, none⟩ = some (.int .i64 (p1 : Int))) (by kernel_rfl) SC (fun hS => ?_)
                  clear SC c6 cp y6
                  refine till_take (i := 1) (v := .slice (some ⟨gi, 0, none⟩) 7 ci) rfl (by kernel_rfl) (by kernel_rfl) (by kernel_rfl) (fun _ _ _ h => h) (fun L w => Iff.rfl) (Or.inl ⟨by rfl, fun w => by go_simp⟩) hS (fun hSb => ?_)
                  simp only [List.getElem_toArray, List.getElem_cons_zero, List.getElem_cons_succ, Act.put, List.setIfInBounds_toArray, List.set_cons_zero, List.set_cons_succ]
                  clear hS
                  refine till_take (i := 2) (v := .pointer (some ⟨gi, 6, none⟩)) rfl (by kernel_rfl) (by kernel_rfl) (by kernel_rfl) (fun _ _ _ h => h) (fun L w => Iff.rfl) (Or.inl ⟨by rfl, fun w => by go_simp⟩) hSb (fun hS => ?_)
                  simp only [List.getElem_toArray, List.getElem_cons_zero, List.getElem_cons_succ, Act.put, List.setIfInBounds_toArray, List.set_cons_zero, List.set_cons_succ]
                  clear hSb
                  refine till_take (i := 4) (v := .pointer (some ⟨w.heap.size + 1, 0, none⟩)) rfl (by kernel_rfl) (by kernel_rfl) (by kernel_rfl) (fun _ _ _ h => h) (fun L w => Iff.rfl) (Or.inl ⟨by rfl, fun w => by go_simp⟩) hS (fun hSb => ?_)
                  simp only [List.getElem_toArray, List.getElem_cons_zero, List.getElem_cons_succ, Act.put, List.setIfInBounds_toArray, List.set_cons_zero, List.set_cons_succ]
                  clear hS
                  refine till_take (i := 5) (v := .pointer (some ⟨w.heap.size + 1, 0, none⟩)) rfl (by kernel_rfl) (by kernel_rfl) (by kernel_rfl) (fun _ _ _ h => h) (fun L w => Iff.rfl) (Or.inl ⟨by rfl, fun w => by go_simp⟩) hSb (fun hS => ?_)
                  simp only [List.getElem_toArray, List.getElem_cons_zero, List.getElem_cons_succ, Act.put, List.setIfInBounds_toArray, List.set_cons_zero, List.set_cons_succ]
                  clear hSb
                  refine till_take (i := 6) (v := .pointer (some ⟨w.heap.size + 1, 1, none⟩)) rfl (by kernel_rfl) (by kernel_rfl) (by kernel_rfl) (fun _ _ _ h => h) (fun L w => Iff.rfl) (Or.inl ⟨by rfl, fun w => by go_simp⟩) hS (fun hSb => ?_)
                  simp only [List.getElem_toArray, List.getElem_cons_zero, List.getElem_cons_succ, Act.put, List.setIfInBounds_toArray, List.set_cons_zero, List.set_cons_succ]
                  clear hS
                  refine till_read (i := 0) (c := 8) (v := .agg (cs .i64 [x1, x2, x3, x4, x5])) (T := fun W => Rng .i64 W gs 0 [x1, x2, x3, x4, x5]) rfl rfl (by kernel_rfl) (by kernel_rfl) (by kernel_rfl) (by kernel_rfl) (by kernel_rfl) (fun _ _ _ h => h) (fun L w => Iff.rfl) (fun L w h1 h2 => h2.1) (yieldsIf_ld (by rfl) 45 (.tmp 14) (by rfl) (by rfl) (fun w h => h) und25s sz25s) hSb (fun hS => ?_)
                  simp only [List.getElem_toArray, List.getElem_cons_zero, List.getElem_cons_succ, Act.put, List.setIfInBounds_toArray, List.set_cons_zero, List.set_cons_succ]
                  clear hSb
                  refine till_read (i := 3) (c := 9) (v := .int .i64 (x6 : Int)) (T := fun W => W.cell? ⟨gi, 6, none⟩ = some (.int .i64 (x6 : Int))) rfl rfl (by kernel_rfl) (by kernel_rfl) (by kernel_rfl) (by kernel_rfl) (by kernel_rfl) (fun _ _ _ h => h) (fun L w => Iff.rfl) (fun L w h1 h2 => h2.2.1) (Or.inl ⟨by rfl, fun w hSw => by go_simp⟩) hS (fun hSb => ?_)
                  simp only [List.getElem_toArray, List.getElem_cons_zero, List.getElem_cons_succ, Act.put, List.setIfInBounds_toArray, List.set_cons_zero, List.set_cons_succ]
                  clear hS
                  refine till_read (i := 7) (c := 10) (v := .int .i64 (p1 : Int)) (T := fun W => W.cell? ⟨w.heap.size + 1, 1, none⟩ = some (.int .i64 (p1 : Int))) rfl rfl (by kernel_rfl) (by kernel_rfl) (by kernel_rfl) (by kernel_rfl) (by kernel_rfl) (fun _ _ _ h => h) (fun L w => Iff.rfl) (fun L w h1 h2 => h2.2.2) (Or.inl ⟨by rfl, fun w hSw => by go_simp⟩) hSb (fun hS => ?_)
                  simp only [List.getElem_toArray, List.getElem_cons_zero, List.getElem_cons_succ, Act.put, List.setIfInBounds_toArray, List.set_cons_zero, List.set_cons_succ]
                  clear hSb
                  refine till_one (i := 8) (by kernel_rfl) rfl (fun K hK => ?_)
                  simp only [List.getElem_toArray, List.getElem_cons_zero, List.getElem_cons_succ]
                  rw [if_pos (by rfl)]
                  refine wp_st (k := .i64) (t := 45) (l := Z5) (l2 := [x1, x2, x3, x4, x5]) (by rfl) 45 (.tmp 2) (.tmp 98) (by rfl) (by rfl) (by rfl) AW.out sz25s (by rfl) ?_
                  refine hK.out _ _ (SD) (fun hSb => ?_)
                  clear hK K
                  try simp only [List.getElem_toArray, List.getElem_cons_zero, List.getElem_cons_succ, Act.put, List.setIfInBounds_toArray, List.set_cons_zero, List.set_cons_succ]
                  clear hS
                  refine till_one (i := 9) (by kernel_rfl) rfl (fun K hK => ?_)
                  simp only [List.getElem_toArray, List.getElem_cons_zero, List.getElem_cons_succ]
                  rw [if_pos (by rfl)]
                  go_simp
                  refine hK.out _ _ (hSb) (fun hS => ?_)
                  clear hK K
                  try simp only [List.getElem_toArray, List.getElem_cons_zero, List.getElem_cons_succ, Act.put, List.setIfInBounds_toArray, List.set_cons_zero, List.set_cons_succ]
                  clear hSb
                  refine till_one (i := 10) (by kernel_rfl) rfl (fun K hK => ?_)
                  simp only [List.getElem_toArray, List.getElem_cons_zero, List.getElem_cons_succ]
                  rw [if_pos (by rfl)]
                  go_simp
                  refine hK.out _ _ (hS) (fun hSb => ?_)
                  clear hK K
                  try simp only [List.getElem_toArray, List.getElem_cons_zero, List.getElem_cons_succ, Act.put, List.setIfInBounds_toArray, List.set_cons_zero, List.set_cons_succ]
                  clear hS
                  refine till_one (i := 11) (by kernel_rfl) rfl (fun K hK => ?_)
                  simp only [List.getElem_toArray, List.getElem_cons_zero, List.getElem_cons_succ]
                  rw [if_pos (by rfl)]
                  go_simp
                  refine hK.out _ _ (hSb) (fun hS => ?_)
                  clear hK K
                  try simp only [List.getElem_toArray, List.getElem_cons_zero, List.getElem_cons_succ, Act.put, List.setIfInBounds_toArray, List.set_cons_zero, List.set_cons_succ]
                  clear hSb
                  refine till_done (by kernel_rfl) ?_ _
                  clear hS
                  go_wp2
                  have FIN : RhEnd w F (.returned (.tuple #[.agg (cs .i64 [x1, x2, x3, x4, x5]), .int .i64 (x6 : Int), .int .i64 (p1 : Int), .int .i64 0])) (w7.drew.setRow w.heap.size (cs .i64 [x1, x2, x3, x4, x5])) := ⟨(Oth.setRow _).below BW.out (Nat.le_refl _), .inl ⟨x0, x1, x2, x3, x4, x5, x6, p1, HF.out, rfl⟩⟩
                  refine bodyPost_ret (res_arr4 (by rfl) (by rfl) (AW.out.setRow [x1, x2, x3, x4, x5]) und25s sz25s) rfl ?_
                  exact FIN
                · have i5 : (1024 : Int) < (x6 : Int) := by omega
                  have HF : Hid ((hdF F).1 = 5) := NO.out (hdN_nodoc RS.out (fun h => d6 h.1.2.2))
                  clear d6
                  go_wp2_with (first
                    | (go_at_call 109; refine (refInForm_n (x1 : Int) x2 x3 x4 x5 _).mono ?_; rintro e w7 ⟨rfl, G7⟩
                       rw [OKB.out]
                       have R7 : Hid (Rh w w7 (w.heap.size + 1) g2 gi 7 ci a n c F p1 a3 m3 c3 O p2 [x0, x1, x2, x3, x4, x5, x6]) := R6.out.up (G7.out.mono GG.out) (R6.out.row.block (G7.out.block gi R6.out.row.ge.2))
                       have A7 : Hid (Arr .i64 45 w7 w.heap.size Z5) := R7.out.out
                       have y6 := R7.out.row.cell (i := 6) (by omega)
                       have AS7 : Hid (Arr .i64 45 w7 gs [x1, x2, x3, x4, x5]) := AS.out.below G7.out AS.out.lt)
                    | (refine wpList_st0 (k := .i64) (t := 45) (l := Z5) (l2 := Z5) (by rfl) (by rfl) 45 (.tmp 2) (.tmp 97) (by rfl) (by rfl) (by rfl) A7 sz25s (by rfl) ?_))
                  have FIN := rh_bad (k := 5) R7.out.bel (by omega) HF.out
                  refine bodyPost_ret (res_arr4 (by rfl) (by rfl) (A7.out.setRow Z5) und25s sz25s) rfl ?_
                  exact FIN
            · have i3 : ((p2 : Int) == (m3 : Int)) = false := by simp; omega
              have i4 : ((p2 : Int) != (m3 : Int)) = true := by simp; omega
              have HF : Hid ((hdF F).1 = 5) := NO.out (hdN_nodoc RS.out (fun h => c2 (by rw [ML.out]; exact h.2)))
              clear c1 c2
              go_wp2_with (refine wpList_st0 (k := .i64) (t := 45) (l := Z5) (l2 := Z5) (by rfl) (by rfl) 45 (.tmp 2) (.tmp 97) (by rfl) (by rfl) (by rfl) A6 sz25s (by rfl) ?_)
              have FIN := rh_bad (k := 5) R6.out.bel (by omega) HF.out
              refine bodyPost_ret (res_arr4 (by rfl) (by rfl) (A6.out.setRow Z5) und25s sz25s) rfl ?_
              exact FIN
          · have i1 : ((x0 : Int) == 1) = false := by simp; omega
            have i2 : ((x0 : Int) != 1) = true := by simp; omega
            have HF : Hid ((hdF F).1 = 5) := NO.out (hdN_nodoc RS.out (fun h => c1 h.1.1))
            clear c1
            go_wp2_with (refine wpList_st0 (k := .i64) (t := 45) (l := Z5) (l2 := Z5) (by rfl) (by rfl) 45 (.tmp 2) (.tmp 97) (by rfl) (by rfl) (by rfl) A6 sz25s (by rfl) ?_)
            have FIN := rh_bad (k := 5) R6.out.bel (by omega) HF.out
            refine bodyPost_ret (res_arr4 (by rfl) (by rfl) (A6.out.setRow Z5) und25s sz25s) rfl ?_
            exact FIN
    · obtain ⟨kk, HKK⟩ : ∃ kk, Hid ((opn (rdB F 0 256).1).2 = kk) := ⟨_, rfl⟩
      have HF : Hid ((hdF F).1 = kk) := by rw [hdF_open h1 h2]; exact HKK.out
      have k0 : kk ≠ 0 := by rw [← HKK.out]; exact h2
      have i1 : ((kk : Int) == 0) = false := by simp; exact k0
      have i2 : ((kk : Int) != 0) = true := by simp; exact k0
      have K0 : Hid (kk ≠ 0) := k0
      clear h1 h2 k0
      go_enter Tryz.func68, Tryz.ntmps68
      go_wp2_with (first
        | (go_at_call 106; rw [HW1.out]; refine (rrb_z R1 H1).mono ?_; rintro e w2 ⟨a2, m2, c2, rfl, G2⟩
           have S2 : Hid (Sln w2 a2 m2 (rdB F 0 256).1) := G2.out.1.sln (by rw [G2.out.1.len]; exact rdB_small F)
           have Z2 : Hid (a2 = none → c2 = 0) := G2.out.1.cap0
           have N2 : m2 ≤ c2 := G2.out.1.cap
           have w1s := b1.out.2
           have A2 : Hid (Arr .i64 45 w2 w.heap.size Z5) := (G2.out.2.2.block _ A1.out.lt (by omega) (by simp [blkOf])).trans A1.out
           have B2 : Hid (Below w.heap.size w w2) := G2.out.2.2.below b1.out.1 (by omega) (fun q hq => by simp [blkOf] at hq) (by omega)
           clear w1s)
        | (go_at_call 107; refine (rop_e S2 Z2 N2 HKK).mono ?_; rintro e w3 ⟨a3, m3, c3, rfl, G3⟩
           have A3 : Hid (Arr .i64 45 w3 w.heap.size Z5) := A2.out.below G3.out A2.out.lt
           have B3 : Hid (Below w.heap.size w w3) := B2.out.trans (G3.out.mono B2.out.size))
        | (refine wpList_st0 (k := .i64) (t := 45) (l := Z5) (l2 := Z5) (by rfl) (by rfl) 45 (.tmp 2) (.tmp 34) (by rfl) (by rfl) (by rfl) A3 sz25s (by rfl) ?_))
      have FIN := rh_bad B3.out K0.out HF.out
      refine bodyPost_ret (res_arr4 (by rfl) (by rfl) (A3.out.setRow Z5) und25s sz25s) rfl ?_
      exact FIN
  · have H1 : Hid ((rdB F 0 256).2.1 ≠ 0) := h1
    have HF : Hid ((hdF F).1 = 5) := by rw [hdF_list h1]; exact rfl
    clear h1
    go_enter Tryz.func68, Tryz.ntmps68
    go_wp2_with (first
      | (go_at_call 106; rw [HW1.out]; refine (rrb_e R1 H1).mono ?_; rintro e w2 ⟨a2, m2, c2, rfl, G2⟩
         have w1s := b1.out.2
         have A2 : Hid (Arr .i64 45 w2 w.heap.size Z5) := (G2.out.block _ A1.out.lt (by omega) (by simp [blkOf])).trans A1.out
         have B2 : Hid (Below w.heap.size w w2) := G2.out.below b1.out.1 (by omega) (fun q hq => by simp [blkOf] at hq) (by omega)
         clear w1s)
      | (refine wpList_st0 (k := .i64) (t := 45) (l := Z5) (l2 := Z5) (by rfl) (by rfl) 45 (.tmp 2) (.tmp 25) (by rfl) (by rfl) (by rfl) A2 sz25s (by rfl) ?_))
    have FIN := rh_bad (k := 5) B2.out (by omega) HF.out
    refine bodyPost_ret (res_arr4 (by rfl) (by rfl) (A2.out.setRow Z5) und25s sz25s) rfl ?_
    exact FIN
end Go.Proofs.YtkdgakcmhnadfaaGreatDoor
