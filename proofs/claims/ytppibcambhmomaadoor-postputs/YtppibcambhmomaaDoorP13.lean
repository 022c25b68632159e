import Derived.Test.YtppibcambhmomaaDoorPp
import Derived.Test.YtppibcambhmomaaDoorP06
namespace Go.Proofs.YtppibcambhmomaaDoor
open Go.ChangeShapes Go.WideShapes Go.ChangeAt Go.RowKit
set_option maxRecDepth 20000
set_option linter.unusedVariables false
set_option linter.unusedSimpArgs false
theorem info3 : (Tryd.prog.info? 3).map (fun i => (i.zero, i.size, i.bytes)) = some (some (.int .i64 0), 1, 8) := by kernel_rfl
theorem info81 : (Tryd.prog.info? 60).map (fun i => (i.zero, i.size, i.bytes)) = some (some (.agg #[.int .i64 0,.int .i64 0,.int .i64 0,.int .i64 0,.string ⟨#[]⟩,.string ⟨#[]⟩,.int .i64 0,.int .i64 0,.int .i64 0,.int .i64 0,.int .i64 0,.int .i64 0,.int .i64 0,.string ⟨#[]⟩,.int .i64 0,.slice none 0 0,.int .i64 0,.int .i64 0]), 18, 184) := by kernel_rfl
theorem wpList_appt {ops : Array Oper} {rest : List Oper} {o : Oper} {a : Act} {Q : Exit -> Act -> World -> Prop} {w w' : World} {v v1 v2 : Value} {t : TypeId} (hgd : o.guard = none) (s x : Operand)
  (ho : o.op = .call { callee := .builtin .append, args := #[s, x], argTypes := #[t, t] }) (hty : o.type = t) (hs : a.eval s = v1) (hx : a.eval x = v2) (hrun : Hid ((Builtin.append_ #[t, t] t #[v1, v2]).run Tryd.prog w = .ok v w'))
  (h : wpList Tryd.prog ops Q rest (a.put o.dst v) w') : wpList Tryd.prog ops Q (o :: rest) a w := by
 refine wpList_plain hgd fun K hK => ?_
 have hr := hrun.out
 unfold Oper.wp
 simp [execOp, ho, resolve, invoke, builtin, hs, hx, hty, hr, Result.andThen]
 exact hK _ _ h
theorem iv_one (l : List Int) : ∀ u ∈ l.map iv, u.oneCell' = true := by
 intro v hv
 obtain ⟨x, _, rfl⟩ := List.mem_map.1 hv
 rfl
theorem app_int {w : World} {B lo : Nat} {v : Value} {m : Nat} {l0 : List Int} {a : Option Addr} {n c : Nat} {l : List Int} (own : w.ownsRow B 3 1 v m (l0.map iv)) (h : Irow w lo a n l) (hz : a = none -> c = 0) (hb : (m + n) * 8 <= 140737488355328) (hB : B <= w.heap.size) :
  ∃ a' c' w', (Builtin.append_ #[55, 55] 55 #[v,.slice a n c]).run Tryd.prog w = .ok (.slice a' (m + n) c') w' /\ w'.ownsRow B 3 1 (.slice a' (m + n) c') (m + n) ((l0 ++ l).map iv) /\ w.grownBy w' v.ownBlock := by
 obtain ⟨i, hi, hz0, hz1, hz2⟩ := info_parts info3
 rcases ha : a with _ | ad
 . have hn : n = 0 := by
    rcases h.row with h0 | ⟨b, off, h1, _⟩
    . exact h0
    . rw [ha] at h1; cases h1
   have c0 := hz ha
   have hl : l = [] := List.length_eq_zero_iff.1 (by have := h.len; omega)
   subst hn c0 hl
   have hr := run_append_owned_none (P := Tryd.prog) w B 55 55 3 i 1 Tryd.underlying55 hi v m _ own
   obtain ⟨a', c', rfl⟩ := rown_slice own
   refine ⟨a', c', w, by simpa using hr, by simpa using own, World.grownBy.refl _ _⟩
 . have hc : ∀ j u, (l.map iv)[j]? = some u -> w.cell? (ad.add j) = some u := by
    intro j u hu
    have hj : j < l.length := by simpa using (List.getElem?_eq_some_iff.1 hu).1
    rcases h.row with h0 | ⟨b, off, h1, _, _, h4⟩
    . have := h.len; omega
    . rw [ha] at h1
      cases h1
      rw [Addr.add_mid, h4 j (by have := h.len; omega), <- hu]
      simp [iv, List.getD, hj]
   obtain ⟨v', w', hrun, hown, hgr, _⟩ := run_append_own (P := Tryd.prog) w B 55 55 3 i (.int .i64 0) 1 8 Tryd.underlying55 hi hz0 hz1 hz2 rfl (by decide) v m (l0.map iv) own ad n c (l.map iv) (by simp; exact h.len.symm) hc (iv_one _) (by unfold maxLen; omega) hb hB
   obtain ⟨a', c', rfl⟩ := rown_slice hown
   exact ⟨a', c', w', hrun, by rw [List.map_append]; exact hown, hgr⟩
theorem app_cm {w : World} {B : Nat} {v : Value} {m : Nat} {X0 : List Cx} {a : Option Addr} {n c : Nat} {X : List Cx} (own : w.ownsRow B 60 18 v m (flat X0)) (hn : n = X.length) (hr : n = 0 ∨ ∃ b off, a = some ⟨b, off, none⟩ /\ w.rangeAt b off (flat X)) (hz : a = none -> c = 0) (hb : (m + n) * 184 <= 140737488355328) (hB : B <= w.heap.size) :
  ∃ a' c' w', (Builtin.append_ #[26, 26] 26 #[v,.slice a n c]).run Tryd.prog w = .ok (.slice a' (m + n) c') w' /\ w'.ownsRow B 60 18 (.slice a' (m + n) c') (m + n) (flat (X0 ++ X)) /\ w.grownBy w' v.ownBlock := by
 obtain ⟨i, hi, hz0, hz1, hz2⟩ := info_parts info81
 rcases ha : a with _ | ad
 . have hn0 : n = 0 := by
    rcases hr with h0 | ⟨b, off, h1, _⟩
    . exact h0
    . rw [ha] at h1; cases h1
   have c0 := hz ha
   have hl : X = [] := List.length_eq_zero_iff.1 (by omega)
   subst hn0 c0 hl
   have hr := run_append_owned_none (P := Tryd.prog) w B 26 26 60 i 18 Tryd.underlying26 hi v m _ own
   obtain ⟨a', c', rfl⟩ := rown_slice own
   refine ⟨a', c', w, by simpa using hr, by simpa using own, World.grownBy.refl _ _⟩
 . have hc : ∀ j u, (flat X)[j]? = some u -> w.cell? (ad.add j) = some u := by
    intro j u hu
    rcases hr with h0 | ⟨b, off, h1, h4⟩
    . have hl : X = [] := List.length_eq_zero_iff.1 (by omega)
      subst hl
      simp [flat] at hu
    . rw [ha] at h1
      cases h1
      rw [Addr.add_mid]
      exact h4 j u hu
   obtain ⟨v', w', hrun, hown, hgr, _⟩ := run_append_own (P := Tryd.prog) w B 26 26 60 i _ 18 184 Tryd.underlying26 hi hz0 hz1 hz2 rfl (by decide) v m (flat X0) own ad n c (flat X) (by rw [flat_len, hn]) hc (flat_one _) (by unfold maxLen; omega) hb hB
   obtain ⟨a', c', rfl⟩ := rown_slice hown
   exact ⟨a', c', w', hrun, by rw [flat_app]; exact hown, hgr⟩
structure Oc (w : World) (lo : Nat) (a : Option Addr) (n c : Nat) (X : List Cx) : Prop where
 row : w.ownsRow lo 60 18 (.slice a n c) n (flat X)
 sz : n <= 764877654082
 ps : ∀ x ∈ X, w.ownsRow lo 3 1 (.slice x.pa x.pn x.pc) x.pn (x.cm.ps.map iv) /\ x.pn <= 17592186043904
 st : ∀ x ∈ X, x.cm.bu.size <= 281474976710656 /\ x.cm.ke.size <= 281474976710656 /\ x.cm.et.size <= 281474976710656
theorem Oc.len {w : World} {lo : Nat} {a : Option Addr} {n c : Nat} {X : List Cx} (h : Oc w lo a n c X) : n = X.length := by
 have := h.row.1
 rw [flat_len] at this
 omega
theorem Oc.cms {w : World} {lo : Nat} {a : Option Addr} {n c : Nat} {X : List Cx} (h : Oc w lo a n c X) : Cms w lo a n X := by
 refine ⟨h.len, h.sz, ?_, fun x hx => ⟨irow_own (h.ps x hx).1 (h.ps x hx).2, rown_cap0 (h.ps x hx).1⟩, h.st⟩
 by_cases h0 : n = 0
 . exact .inl h0
 . obtain ⟨g, rfl, h2, h3, _⟩ := rown_at h.row (by omega)
   refine .inr ⟨g, 0, rfl, h2, h3, fun j v hv => ?_⟩
   have hj := (List.getElem?_eq_some_iff.1 hv).1
   rw [flat_len, <- h.len] at hj
   rw [Nat.zero_add, h.row.cellAt j hj]
   exact hv
theorem Oc.keep {w w' : World} {lo : Nat} {a : Option Addr} {n c : Nat} {X : List Cx} (h : Oc w lo a n c X) (hb : ∀ q, lo <= q -> q < w.heap.size -> w'.heap[q]? = w.heap[q]?) : Oc w' lo a n c X :=
 ⟨rown_bel h.row (fun q e => hb q (h.row.lt q e).1 (h.row.lt q e).2), h.sz, fun x hx => ⟨rown_bel (h.ps x hx).1 (fun q e => hb q ((h.ps x hx).1.lt q e).1 ((h.ps x hx).1.lt q e).2), (h.ps x hx).2⟩, h.st⟩
theorem Oc.below {w w' : World} {lo : Nat} {a : Option Addr} {n c : Nat} {X : List Cx} (h : Oc w lo a n c X) (hb : Below w.heap.size w w') : Oc w' lo a n c X := h.keep fun q _ hq => hb.block q hq
theorem Oc.mono {w : World} {lo lo' : Nat} {a : Option Addr} {n c : Nat} {X : List Cx} (h : Oc w lo a n c X) (hl : lo' <= lo) : Oc w lo' a n c X :=
 ⟨rown_mono h.row hl, h.sz, fun x hx => ⟨rown_mono (h.ps x hx).1 hl, (h.ps x hx).2⟩, h.st⟩
theorem Oc.cap0 {w : World} {lo : Nat} {a : Option Addr} {n c : Nat} {X : List Cx} (h : Oc w lo a n c X) : a = none -> c = 0 := rown_cap0 h.row
def fp (a : Option Addr) (X : List Cx) (q : Nat) : Prop := blkOf a = some q ∨ ∃ x ∈ X, blkOf x.pa = some q
theorem grown_below {w w' : World} {B : Nat} {row : Option Nat} (h : w.grownBy w' row) (hB : B <= w.heap.size) (hr : ∀ q, row = some q -> B <= q) : Below B w w' := (Below.refl B w).grown h hB hr
theorem rown_ne {w : World} {B B' : Nat} {t t' : TypeId} {z z' : Nat} {v v' : Value} {n n' : Nat} {xs xs' : List Value} {q : Nat} (h : w.ownsRow B t z v n xs) (h' : w.ownsRow B' t' z' v' n' xs') (ht : t ≠ t') (e : v.ownBlock = some q) (e' : v'.ownBlock = some q) : False := by
 rcases h.2 with ⟨h1, _⟩ | ⟨g, cap, cur, h1, h2, h3, _⟩
 . rw [h1] at e; cases e
 . rcases h'.2 with ⟨k1, _⟩ | ⟨g', cap', cur', k1, k2, k3, _⟩
   . rw [k1] at e'; cases e'
   . subst h1 k1
     cases e
     cases e'
     rw [h3] at k3
     simp only [Option.some.injEq, Obj.cells.injEq] at k3
     exact ht k3.2.1
theorem Oc.grown {w w' : World} {lo : Nat} {a : Option Addr} {n c : Nat} {X : List Cx} (h : Oc w lo a n c X) (g : w.grownBy w' (blkOf a)) : ∀ x ∈ X, w'.ownsRow lo 3 1 (.slice x.pa x.pn x.pc) x.pn (x.cm.ps.map iv) /\ x.pn <= 17592186043904 := fun x hx => by
 obtain ⟨h1, h2⟩ := h.ps x hx
 refine ⟨rown_bel h1 (fun q e => g.block q (h1.lt q e).2 (fun e2 => ?_)), h2⟩
 exact rown_ne h1 h.row (by decide) e (by rw [ownBlock_slice]; exact e2.symm)
theorem range_blk {w : World} {g : Nat} {cs : List Value} {t : TypeId} {fr : Nat × Nat} (h : w.heap[g]? = some (.cells cs.toArray t fr)) : w.rangeAt g 0 cs := fun j v hv => by
 rw [Nat.zero_add]
 simp [World.cell?, h, hv]
theorem set15 (x : Cx) (a : Option Addr) (c : Nat) : (encX x).toArray.setIfInBounds 15 (.slice a x.pn c) = (encX { x with pa := a, pc := c }).toArray := rfl
theorem led_snoc {X : List Cx} {i : Nat} {x : Cx} (h : X[i]? = some x) : led (X.take (i + 1)) = led (X.take i) ++ [x.cm] := by
 obtain ⟨h1, h2⟩ := List.getElem?_eq_some_iff.1 h
 unfold led
 rw [List.take_succ_eq_append_getElem h1, List.map_append, h2]
 rfl
set_option maxHeartbeats 4000000 in
theorem copy_n {w : World} {lo : Nat} {a : Option Addr} {n c : Nat} {X : List Cx} (hA : Hid (Cms w lo a n X)) (hz : Hid (a = none -> c = 0)) :
  Calls Tryd.prog 14 #[.slice a n c] w fun e w' => ∃ a' c', e = .returned (.slice a' n c') /\ Hid (∃ Y, led Y = led X /\ Oc w' w.heap.size a' n c' Y /\ Below w.heap.size w w') := by
 have hn : n <= 764877654082 := hA.out.sz
 have LX : Hid (n = X.length) := hA.out.len
 have O0 : Hid (Oc (w.alloc (.cells #[] 60)) w.heap.size (some ⟨w.heap.size, 0, none⟩) 0 0 []) := ⟨World.ownsRow_made (size := 18) w #[] 0 (Nat.le_refl _) (by unfold maxLen; omega) rfl, by omega, fun x hx => (by cases hx), fun x hx => (by cases hx)⟩
 have B0 : Hid (Below w.heap.size w (w.alloc (.cells #[] 60))) := alloc1 w _
 go_enter Tryd.func14, Tryd.ntmps14
 go_wp2
 go_loopw [3, 9] (fun t3 t9 wr => ∃ (i : Nat) (a' : Option Addr) (c' : Nat), i <= n /\ t9 = .int .i64 i /\ t3 = .slice a' i c' /\ Hid (∃ Y, led Y = led (X.take i) /\ Oc wr w.heap.size a' i c' Y /\ Below w.heap.size w wr)) (fun _ t9 _ => n - (intOf t9).toNat)
 case atStart => exact ⟨0, _, 0, by omega, rfl, rfl, [], rfl, O0.out, B0.out⟩
 case round =>
  obtain ⟨i, a', c', hi, rfl, rfl, HC⟩ := hrel
  by_cases hlt : i < n
  . obtain ⟨Y, HL0, HY0, HB0⟩ := HC.out
    clear HC
    have HL : Hid (led Y = led (X.take i)) := HL0
    have HY : Hid (Oc wr w.heap.size a' i c' Y) := HY0
    have HB : Hid (Below w.heap.size w wr) := HB0
    clear HL0 HY0 HB0
    have i3 : (i : Int) < (n : Int) := by omega
    have iX : i < X.length := by rw [<- LX.out]; exact hlt
    obtain ⟨b, off, rfl, e1⟩ := (hA.out.below HB.out).at_ iX
    obtain ⟨x, Hx⟩ := nm (X[i])
    rw [Hx.out] at e1
    have EX : Hid (X[i]? = some x) := by show _ = _; rw [<- Hx.out]; exact List.getElem?_eq_getElem iX
    have MX : x ∈ X := List.mem_of_getElem? EX.out
    have PX : Hid (Irow w lo x.pa x.pn x.cm.ps /\ (x.pa = none -> x.pc = 0)) := hA.out.ps x MX
    have ST : Hid (x.cm.bu.size <= 281474976710656 /\ x.cm.ke.size <= 281474976710656 /\ x.cm.et.size <= 281474976710656) := hA.out.st x MX
    clear MX
    -- the local copy, an empty row of ints, the append of the Parts
    obtain ⟨g1, Hg1⟩ := nm (wr.heap.size)
    obtain ⟨w2, Hw2⟩ := nm ((wr.alloc (.cells (encX x).toArray 60)).alloc (.cells #[] 3))
    have B2 : Hid (Below wr.heap.size wr w2) := by rw [<- Hw2.out]; exact alloc2 wr _ _
    have s2 : w2.heap.size = g1 + 2 := by rw [<- Hw2.out, <- Hg1.out]; simp
    have k1 : w2.heap[g1]? = some (.cells (encX x).toArray 60 (0, 0)) := by
     rw [<- Hw2.out, <- Hg1.out, (alloc1 (wr.alloc (.cells (encX x).toArray 60)) (.cells #[] 3)).block wr.heap.size (by simp)]
     exact heap_alloc_new wr _
    have own2 : w2.ownsRow (g1 + 1) 3 1 (.slice (some ⟨g1 + 1, 0, none⟩) 0 0) 0 (([] : List Int).map iv) := by
     rw [<- Hw2.out, <- Hg1.out]
     have h := World.ownsRow_made (size := 1) (e := 3) (base := wr.heap.size + 1) (wr.alloc (.cells (encX x).toArray 60)) #[] 0 (by simp) (by unfold maxLen; omega) rfl
     simpa using h
    have P2 : Irow w2 lo x.pa x.pn x.cm.ps := (PX.out.1.below HB.out).below B2.out
    obtain ⟨a3, c3, w3, AQ0, OQ0, GQ0⟩ := app_int (l0 := []) own2 P2 PX.out.2 (by have := P2.sz; omega) (by omega)
    rw [Nat.zero_add] at AQ0 OQ0
    rw [List.nil_append] at OQ0
    have AQ : Hid ((Builtin.append_ #[55, 55] 55 #[.slice (some ⟨g1 + 1, 0, none⟩) 0 0,.slice x.pa x.pn x.pc]).run Tryd.prog w2 = .ok (.slice a3 x.pn c3) w3) := AQ0
    have B3 : Hid (Below (g1 + 1) w2 w3) := grown_below GQ0 (by omega) (fun q e => by cases e; exact Nat.le_refl _)
    have k3 : w3.heap[g1]? = some (.cells (encX x).toArray 60 (0, 0)) := (B3.out.block g1 (by omega)).trans k1
    obtain ⟨W4, HW4⟩ := nm (w3.setCell ⟨g1, 15, none⟩ (.slice a3 x.pn c3))
    have k4 : W4.heap[g1]? = some (.cells (encX { x with pa := a3, pc := c3 }).toArray 60 (0, 0)) := by rw [<- HW4.out, set_blkf k3, set15]
    have o4 : ∀ k, k ≠ g1 -> W4.heap[k]? = w3.heap[k]? := fun k hk => by rw [<- HW4.out]; exact Below.heap_setCell _ _ _ _ hk
    have OP4 : W4.ownsRow (g1 + 1) 3 1 (.slice a3 x.pn c3) x.pn (x.cm.ps.map iv) := rown_bel OQ0 (fun q e => o4 q (by have := (OQ0.lt q e).1; omega))
    have s4 : W4.heap.size = w3.heap.size := by rw [<- HW4.out]; simp [World.setCell]
    have s3 : g1 + 2 <= w3.heap.size := by have := B3.out.size; omega
    have b4 : ∀ k, k < g1 -> W4.heap[k]? = wr.heap[k]? := fun k hk => by rw [o4 k (by omega), B3.out.block k (by omega), B2.out.block k (by have := Hg1.out; omega)]
    obtain ⟨g5, Hg5⟩ := nm (W4.heap.size)
    obtain ⟨W5, HW5⟩ := nm (W4.alloc (.cells (encX { x with pa := a3, pc := c3 }).toArray 60))
    have b5 : Below W4.heap.size W4 W5 := by rw [<- HW5.out]; exact alloc1 W4 _
    have k5 : W5.heap[g5]? = some (.cells (encX { x with pa := a3, pc := c3 }).toArray 60 (0, 0)) := by rw [<- HW5.out, <- Hg5.out]; exact heap_alloc_new W4 _
    have Y5 : Oc W5 w.heap.size a' i c' Y := HY.out.keep (fun k _ hk => by
     have h1 : k < W4.heap.size := by have := Hg1.out; omega
     rw [b5.block k h1]
     exact b4 k (by have := Hg1.out; omega))
    have OP5 : W5.ownsRow (g1 + 1) 3 1 (.slice a3 x.pn c3) x.pn (x.cm.ps.map iv) := rown_bel OP4 (fun q e => b5.block q (OP4.lt q e).2)
    have hBw : w.heap.size <= g1 := by rw [<- Hg1.out]; exact HB.out.size
    obtain ⟨a6, c6, w6, AR0, OR0, GR0⟩ := app_cm (c := 1) (X := [{ x with pa := a3, pc := c3 }]) (a := some ⟨g5, 0, none⟩) (n := 1) Y5.row rfl (.inr ⟨g5, 0, rfl, by have := range_blk k5; simpa [flat] using this⟩) (by simp) (by omega) (by have := b5.size; omega)
    have AR : Hid ((Builtin.append_ #[26, 26] 26 #[.slice a' i c',.slice (some ⟨g5, 0, none⟩) 1 1]).run Tryd.prog W5 = .ok (.slice a6 (i + 1) c6) w6) := AR0
    have FIN : Hid (∃ Y, led Y = led (X.take (i + 1)) /\ Oc w6 w.heap.size a6 (i + 1) c6 Y /\ Below w.heap.size w w6) := by
     rw [ownBlock_slice] at GR0
     refine ⟨Y ++ [{ x with pa := a3, pc := c3 }], ?_, ⟨OR0, by omega, fun y hy => ?_, fun y hy => ?_⟩, ?_⟩
     . rw [led_snoc EX.out, <- HL.out]
       simp [led]
     . rcases List.mem_append.1 hy with h | h
       . exact Y5.grown GR0 y h
       . obtain rfl := List.mem_singleton.1 h
         refine ⟨rown_mono (rown_bel OP5 (fun q e => GR0.block q (OP5.lt q e).2 (fun e2 => ?_))) (by omega), P2.sz⟩
         exact rown_ne OP5 Y5.row (by decide) e (by rw [ownBlock_slice]; exact e2.symm)
     . rcases List.mem_append.1 hy with h | h
       . exact HY.out.st y h
       . obtain rfl := List.mem_singleton.1 h
         exact ST.out
     . have bb : Below w.heap.size wr W5 := by
        have os4 : W4.os = w3.os := by rw [<- HW4.out]; rfl
        have ta4 : W4.tape = w3.tape := by rw [<- HW4.out]; rfl
        have ou4 : W4.output = w3.output := by rw [<- HW4.out]; rfl
        refine ⟨b5.os.trans (os4.trans (B3.out.os.trans B2.out.os)), b5.tape.trans (ta4.trans (B3.out.tape.trans B2.out.tape)), b5.output.trans (ou4.trans (B3.out.output.trans B2.out.output)), ?_, fun k hk => ?_⟩
        . have := b5.size; have := Hg1.out; omega
        . rw [b5.block k (by omega)]
          exact b4 k (by omega)
       refine (HB.out.trans bb).trans (grown_below GR0 (by have := bb.size; have := Hg1.out; omega) (fun q e => (Y5.row.lt q (by rw [ownBlock_slice]; exact e)).1))
    have fz3 : w3.frozen? ⟨g1, 15, none⟩ = false := by simp [World.frozen?, k3]
    have cl3 : w3.cell? ⟨g1, 15, none⟩ = some (.slice x.pa x.pn x.pc) := by simp [World.cell?, k3, encX]
    have cl2 : w2.cell? ⟨g1, 15, none⟩ = some (.slice x.pa x.pn x.pc) := by simp [World.cell?, k1, encX]
    have e4 := range_blk k4
    clear AQ0 OQ0 GQ0 AR0 OR0 GR0 OP4 OP5 Y5 b4 o4 k1 k3 k4 k5 b5 own2 P2 s2 s3 s4 hBw
    obtain ⟨⟨k, i0, i1, i2, bu, ke, u0, u1, u2, b0, b1, b2, sz, et, pt, ps, tm, dy⟩, pa, pn, pc⟩ := x
    simp only [encX] at *
    go_upto_region 5 with (refine wpList_load_mid (by rfl) 60 (.tmp 11) (by rfl) b (off + i * 18) (by rfl) _ _ e1 Tryd.underlying60 rfl (by kernel_rfl) ?_)
    clear e1
    go_upto_region 6 with (at_builtin; rw [Hw2.out, Hg1.out]; refine wpList_appt (by rfl) (.tmp 13) (.tmp 15) (by rfl) (by rfl) (by rfl) (by rfl) AQ ?_)
    rw [HW4.out]
    clear cl2 cl3 fz3 AQ
    go_wp2_with (first
     | (refine wpList_load_mid (by rfl) 60 (.tmp 5) (by rfl) g1 0 (by rfl) _ _ e4 Tryd.underlying60 rfl (by kernel_rfl) ?_)
     | (at_builtin; rw [HW5.out, Hg5.out]; refine wpList_appt (by rfl) (.tmp 18) (.tmp 20) (by rfl) (by rfl) (by rfl) (by rfl) AR ?_))
    go_roundw
    case rel => exact ⟨i + 1, a6, c6, by omega, by go_num, rfl, FIN.out⟩
    case measure => simp [intOf]; omega
  . have ein : i = n := by omega
    subst ein
    go_wp2
    go_ret
    obtain ⟨Y, h1, h2, h3⟩ := HC.out
    exact ⟨a', c', rfl, Y, by rw [h1, List.take_of_length_le (by have := LX.out; omega)], h2, h3⟩
end Go.Proofs.YtppibcambhmomaaDoor
