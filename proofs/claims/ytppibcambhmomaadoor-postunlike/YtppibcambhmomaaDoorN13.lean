import Derived.Test.YtppibcambhmomaaDoorNp
import Derived.Test.YtppibcambhmomaaDoorN06
namespace Go.Proofs.YtppibcambhmomaaDoor
open Go.ChangeShapes Go.WideShapes Go.ChangeAt Go.RowKit
set_option maxRecDepth 20000
set_option linter.unusedVariables false
set_option linter.unusedSimpArgs false
theorem info3 : (Tryd.prog.info? 3).map (fun i => (i.zero, i.size, i.bytes)) = some (some (.int .i64 0), 1, 8) := by kernel_rfl
theorem info81 : (Tryd.prog.info? 60).map (fun i => (i.zero, i.size, i.bytes)) = some (some (.agg #[.int .i64 0,.int .i64 0,.int .i64 0,.int .i64 0,.string ⟨#[]⟩,.string ⟨#[]⟩,.int .i64 0,.int .i64 0,.int .i64 0,.int .i64 0,.int .i64 0,.int .i64 0,.int .i64 0,.string ⟨#[]⟩,.int .i64 0,.slice none 0 0,.int .i64 0,.int .i64 0]), 18, 184) := by kernel_rfl
theorem wpList_appt {ops : Array Oper} {rest : List Oper} {o : Oper} {a : Act} {Q : Exit -> Act -> World -> Prop} {w w' : World} {v v1 v2 : Value} {t : TypeId} (hgd : o.guard = none) (s x : Operand)
  (ho : o.op = .call { callee := .builtin .append, args := #[s, x], argTypes := #[t, t] }) (hty : o.type = t) (hs : a.eval s = v1) (hx : a.eval x = v2) (hrun : Hid ((Builtin.append_ #[t, t] t #[v1, v2]).run Tryd.prog w = .ok v w'))
  (h : wpList Tryd.prog ops Q rest (a.put o.dst v) w') : wpList Tryd.prog ops Q (o :: rest) a w := by
 refine wpList_plain hgd fun K hK => ?_
 have hr := hrun.out
 unfold Oper.wp
 simp [execOp, ho, resolve, invoke, builtin, hs, hx, hty, hr, Result.andThen]
 exact hK _ _ h
theorem iv_one (l : List Int) : ∀ u ∈ l.map iv, u.oneCell' = true := by
 intro v hv
 obtain ⟨x, _, rfl⟩ := List.mem_map.1 hv
 rfl
theorem app_int {w : World} {B lo : Nat} {v : Value} {m : Nat} {l0 : List Int} {a : Option Addr} {n c : Nat} {l : List Int} (own : w.ownsRow B 3 1 v m (l0.map iv)) (h : Irow w lo a n l) (hz : a = none -> c = 0) (hb : (m + n) * 8 <= 140737488355328) (hB : B <= w.heap.size) :
  ∃ a' c' w', (Builtin.append_ #[55, 55] 55 #[v,.slice a n c]).run Tryd.prog w = .ok (.slice a' (m + n) c') w' /\ w'.ownsRow B 3 1 (.slice a' (m + n) c') (m + n) ((l0 ++ l).map iv) /\ w.grownBy w' v.ownBlock := by
 obtain ⟨i, hi, hz0, hz1, hz2⟩ := info_parts info3
 rcases ha : a with _ | ad
 . have hn : n = 0 := by
    rcases h.row with h0 | ⟨b, off, h1, _⟩
    . exact h0
    . rw [ha] at h1; cases h1
   have c0 := hz ha
   have hl : l = [] := List.length_eq_zero_iff.1 (by have := h.len; omega)
   subst hn c0 hl
   have hr := run_append_owned_none (P := Tryd.prog) w B 55 55 3 i 1 Tryd.underlying55 hi v m _ own
   obtain ⟨a', c', rfl⟩ := rown_slice own
   refine ⟨a', c', w, by simpa using hr, by simpa using own, World.grownBy.refl _ _⟩
 . have hc : ∀ j u, (l.map iv)[j]? = some u -> w.cell? (ad.add j) = some u := by
    intro j u hu
    have hj : j < l.length := by simpa using (List.getElem?_eq_some_iff.1 hu).1
    rcases h.row with h0 | ⟨b, off, h1, _, _, h4⟩
    . have := h.len; omega
    . rw [ha] at h1
      cases h1
      rw [Addr.add_mid, h4 j (by have := h.len; omega), <- hu]
      simp [iv, List.getD, hj]
   obtain ⟨v', w', hrun, hown, hgr, _⟩ := run_append_own (P := Tryd.prog) w B 55 55 3 i (.int .i64 0) 1 8 Tryd.underlying55 hi hz0 hz1 hz2 rfl (by decide) v m (l0.map iv) own ad n c (l.map iv) (by simp; exact h.len.symm) hc (iv_one _) (by unfold maxLen; omega) hb hB
   obtain ⟨a', c', rfl⟩ := rown_slice hown
   exact ⟨a', c', w', hrun, by rw [List.map_append]; exact hown, hgr⟩
theorem app_cm {w : World} {B : Nat} {v : Value} {m : Nat} {X0 : List Cx} {a : Option Addr} {n c : Nat} {X : List Cx} (own : w.ownsRow B 60 18 v m (flat X0)) (hn : n = X.length) (hr : n = 0 ∨ ∃ b off, a = some ⟨b, off, none⟩ /\ w.rangeAt b off (flat X)) (hz : a = none -> c = 0) (hb : (m + n) * 184 <= 140737488355328) (hB : B <= w.heap.size) :
  ∃ a' c' w', (Builtin.append_ #[26, 26] 26 #[v,.slice a n c]).run Tryd.prog w = .ok (.slice a' (m + n) c') w' /\ w'.ownsRow B 60 18 (.slice a' (m + n) c') (m + n) (flat (X0 ++ X)) /\ w.grownBy w' v.ownBlock := by
 obtain ⟨i, hi, hz0, hz1, hz2⟩ := info_parts info81
 rcases ha : a with _ | ad
 . have hn0 : n = 0 := by
    rcases hr with h0 | ⟨b, off, h1, _⟩
    . exact h0
    . rw [ha] at h1; cases h1
   have c0 := hz ha
   have hl : X = [] := List.length_eq_zero_iff.1 (by omega)
   subst hn0 c0 hl
   have hr := run_append_owned_none (P := Tryd.prog) w B 26 26 60 i 18 Tryd.underlying26 hi v m _ own
   obtain ⟨a', c', rfl⟩ := rown_slice own
   refine ⟨a', c', w, by simpa using hr, by simpa using own, World.grownBy.refl _ _⟩
 . have hc : ∀ j u, (flat X)[j]? = some u -> w.cell? (ad.add j) = some u := by
    intro j u hu
    rcases hr with h0 | ⟨b, off, h1, h4⟩
    . have hl : X = [] := List.length_eq_zero_iff.1 (by omega)
      subst hl
      simp [flat] at hu
    . rw [ha] at h1
      cases h1
      rw [Addr.add_mid]
      exact h4 j u hu
   obtain ⟨v', w', hrun, hown, hgr, _⟩ := run_append_own (P := Tryd.prog) w B 26 26 60 i _ 18 184 Tryd.underlying26 hi hz0 hz1 hz2 rfl (by decide) v m (flat X0) own ad n c (flat X) (by rw [flat_len, hn]) hc (flat_one _) (by unfold maxLen; omega) hb hB
   obtain ⟨a', c', rfl⟩ := rown_slice hown
   exact ⟨a', c', w', hrun, by rw [flat_app]; exact hown, hgr⟩
structure Oc (w : World) (lo : Nat) (a : Option Addr) (n c : Nat) (X : List Cx) : Prop where
 row : w.ownsRow lo 60 18 (.slice a n c) n (flat X)
 sz : n <= 764877654082
 ps : ∀ x ∈ X, w.ownsRow lo 3 1 (.slice x.pa x.pn x.pc) x.pn (x.cm.ps.map iv) /\ x.pn <= 17592186043904
 st : ∀ x ∈ X, x.cm.bu.size <= 281474976710656 /\ x.cm.ke.size <= 281474976710656 /\ x.cm.et.size <= 281474976710656
theorem Oc.len {w : World} {lo : Nat} {a : Option Addr} {n c : Nat} {X : List Cx} (h : Oc w lo a n c X) : n = X.length := by
 have := h.row.1
 rw [flat_len] at this
 omega
theorem Oc.cms {w : World} {lo : Nat} {a : Option Addr} {n c : Nat} {X : List Cx} (h : Oc w lo a n c X) : Cms w lo a n X := by
 refine ⟨h.len, h.sz, ?_, fun x hx => ⟨irow_own (h.ps x hx).1 (h.ps x hx).2, rown_cap0 (h.ps x hx).1⟩, h.st⟩
 by_cases h0 : n = 0
 . exact .inl h0
 . obtain ⟨g, rfl, h2, h3, _⟩ := rown_at h.row (by omega)
   refine .inr ⟨g, 0, rfl, h2, h3, fun j v hv => ?_⟩
   have hj := (List.getElem?_eq_some_iff.1 hv).1
   rw [flat_len, <- h.len] at hj
   rw [Nat.zero_add, h.row.cellAt j hj]
   exact hv
theorem Oc.keep {w w' : World} {lo : Nat} {a : Option Addr} {n c : Nat} {X : List Cx} (h : Oc w lo a n c X) (hb : ∀ q, lo <= q -> q < w.heap.size -> w'.heap[q]? = w.heap[q]?) : Oc w' lo a n c X :=
 ⟨rown_bel h.row (fun q e => hb q (h.row.lt q e).1 (h.row.lt q e).2), h.sz, fun x hx => ⟨rown_bel (h.ps x hx).1 (fun q e => hb q ((h.ps x hx).1.lt q e).1 ((h.ps x hx).1.lt q e).2), (h.ps x hx).2⟩, h.st⟩
theorem Oc.below {w w' : World} {lo : Nat} {a : Option Addr} {n c : Nat} {X : List Cx} (h : Oc w lo a n c X) (hb : Below w.heap.size w w') : Oc w' lo a n c X := h.keep fun q _ hq => hb.block q hq
theorem Oc.mono {w : World} {lo lo' : Nat} {a : Option Addr} {n c : Nat} {X : List Cx} (h : Oc w lo a n c X) (hl : lo' <= lo) : Oc w lo' a n c X :=
 ⟨rown_mono h.row hl, h.sz, fun x hx => ⟨rown_mono (h.ps x hx).1 hl, (h.ps x hx).2⟩, h.st⟩
theorem Oc.cap0 {w : World} {lo : Nat} {a : Option Addr} {n c : Nat} {X : List Cx} (h : Oc w lo a n c X) : a = none -> c = 0 := rown_cap0 h.row
def fp (a : Option Addr) (X : List Cx) (q : Nat) : Prop := blkOf a = some q ∨ ∃ x ∈ X, blkOf x.pa = some q
theorem grown_below {w w' : World} {B : Nat} {row : Option Nat} (h : w.grownBy w' row) (hB : B <= w.heap.size) (hr : ∀ q, row = some q -> B <= q) : Below B w w' := (Below.refl B w).grown h hB hr
theorem rown_ne {w : World} {B B' : Nat} {t t' : TypeId} {z z' : Nat} {v v' : Value} {n n' : Nat} {xs xs' : List Value} {q : Nat} (h : w.ownsRow B t z v n xs) (h' : w.ownsRow B' t' z' v' n' xs') (ht : t ≠ t') (e : v.ownBlock = some q) (e' : v'.ownBlock = some q) : False := by
 rcases h.2 with ⟨h1, _⟩ | ⟨g, cap, cur, h1, h2, h3, _⟩
 . rw [h1] at e; cases e
 . rcases h'.2 with ⟨k1, _⟩ | ⟨g', cap', cur', k1, k2, k3, _⟩
   . rw [k1] at e'; cases e'
   . subst h1 k1
     cases e
     cases e'
     rw [h3] at k3
     simp only [Option.some.injEq, Obj.cells.injEq] at k3
     exact ht k3.2.1
theorem Oc.grown {w w' : World} {lo : Nat} {a : Option Addr} {n c : Nat} {X : List Cx} (h : Oc w lo a n c X) (g : w.grownBy w' (blkOf a)) : ∀ x ∈ X, w'.ownsRow lo 3 1 (.slice x.pa x.pn x.pc) x.pn (x.cm.ps.map iv) /\ x.pn <= 17592186043904 := fun x hx => by
 obtain ⟨h1, h2⟩ := h.ps x hx
 refine ⟨rown_bel h1 (fun q e => g.block q (h1.lt q e).2 (fun e2 => ?_)), h2⟩
 exact rown_ne h1 h.row (by decide) e (by rw [ownBlock_slice]; exact e2.symm)
theorem range_blk {w : World} {g : Nat} {cs : List Value} {t : TypeId} {fr : Nat × Nat} (h : w.heap[g]? = some (.cells cs.toArray t fr)) : w.rangeAt g 0 cs := fun j v hv => by
 rw [Nat.zero_add]
 simp [World.cell?, h, hv]
end Go.Proofs.YtppibcambhmomaaDoor
