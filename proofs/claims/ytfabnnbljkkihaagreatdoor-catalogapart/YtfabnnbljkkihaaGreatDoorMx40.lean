import Derived.Test.YtfabnnbljkkihaaGreatDoorMxp
import Derived.Test.YtfabnnbljkkihaaGreatDoorMx30
import Derived.Deep.MidRow
namespace Go.Proofs.YtfabnnbljkkihaaGreatDoor
open Go.ChangeShapes Go.WideShapes Go.ChangeAt Go.RowKit
set_option maxRecDepth 20000
set_option linter.unusedVariables false
set_option linter.unusedSimpArgs false
noncomputable def eqb {α : Type} (a b : α) : Bool := @decide (a = b) (Classical.propDecidable _)
theorem eqb_yes {α : Type} {a b : α} (h : a = b) : eqb a b = true := by unfold eqb; exact @decide_eq_true _ (Classical.propDecidable _) h
theorem eqb_no {α : Type} {a b : α} (h : ¬ a = b) : eqb a b = false := by unfold eqb; exact @decide_eq_false _ (Classical.propDecidable _) h
theorem eqPcK (a b c s : Int) (t : ByteArray) (a' b' c' s' : Int) (t' : ByteArray) (w : World) : (Op.equalIn 9999 26 (.agg #[.int .i64 a,.int .i64 b,.int .i64 c,.int .i64 s,.string t]) (.agg #[.int .i64 a',.int .i64 b',.int .i64 c',.int .i64 s',.string t'])).run Tryz.prog w = .ok (decide ((a = a' /\ b = b' /\ c = c') /\ s = s' /\ t = t')) w := by
 rw [run_equalIn_struct w 9998 26 _ _ (by kernel_rfl) (by kernel_rfl)]
 simp only [Program.fieldsOf, Tryz.underlying26]
 rw [fstep (by decide) (partId _ a b c rfl rfl rfl w) (partId _ a' b' c' rfl rfl rfl w) (eqId a b c a' b' c' 9996 w) (fstep (by decide) (partI _ _ s rfl w) (partI _ _ s' rfl w) (eqI _ s s' w) (fstep (by decide) (partS _ _ t rfl w) (partS _ _ t' rfl w) (eqS _ t t' w) (fend _ _ _ w)))]
 congr 1
 simp
theorem partPc (n a b c s : Int) (t : ByteArray) (w : World) : (part 26 #[.int .i64 n,.int .i64 a,.int .i64 b,.int .i64 c,.int .i64 s,.string t] 1).run Tryz.prog w = .ok (.agg #[.int .i64 a,.int .i64 b,.int .i64 c,.int .i64 s,.string t]) w := by
 simp [part, go_sem]
theorem eqPt (n a b c s : Int) (t : ByteArray) (n' a' b' c' s' : Int) (t' : ByteArray) (w : World) : (Op.equalIn 10000 108 (.agg #[.int .i64 n,.int .i64 a,.int .i64 b,.int .i64 c,.int .i64 s,.string t]) (.agg #[.int .i64 n',.int .i64 a',.int .i64 b',.int .i64 c',.int .i64 s',.string t'])).run Tryz.prog w = .ok (decide (n = n' /\ (a = a' /\ b = b' /\ c = c') /\ s = s' /\ t = t')) w := by
 have h1 : (Op.equalIn 9999 3 (.int .i64 n) (.int .i64 n')).run Tryz.prog w = .ok (decide (n = n')) w := eqI 9998 n n' w
 have h2 := eqPcK a b c s t a' b' c' s' t' w
 rw [run_equalIn_struct w 9999 108 _ _ (by kernel_rfl) (by kernel_rfl)]
 simp only [Program.fieldsOf, Tryz.underlying108]
 have e : decide (n = n' /\ (a = a' /\ b = b' /\ c = c') /\ s = s' /\ t = t') = (decide (n = n') && (decide ((a = a' /\ b = b' /\ c = c') /\ s = s' /\ t = t') && true)) := by simp
 rw [e]
 refine fstep ?_ (partI _ _ n rfl w) (partI _ _ n' rfl w) h1 ?_
 . decide
 refine fstep ?_ (partPc n a b c s t w) (partPc n' a' b' c' s' t' w) ?_ (fend _ _ _ w)
 . decide
 exact h2
set_option maxHeartbeats 8000000 in
theorem sameOb_n {w : World} {A B : Array Value} {x y : Obx} {K K' lo hi lo' hi' : Nat} (hK : K <= 1048576) (hA : Hid (A = (EOb.e x).toArray)) (hB : Hid (B = (EOb.e y).toArray)) (hx : Hid (ObO K w lo hi x)) (hy : Hid (ObO K' w lo' hi' y)) :
  Calls Tryz.prog 30 #[.agg A, .agg B] w fun e w' => e = .returned (.bool (eqb x.ob y.ob)) /\ Hid (Below w.heap.size w w') := by
 obtain ⟨w1, Hw1⟩ := nm ((w.alloc (.cells A 71)).alloc (.cells B 71))
 obtain ⟨g, Hg⟩ := nm (w.heap.size)
 have B1 : Hid (Below w.heap.size w w1) := by rw [<- Hw1.out]; exact alloc2 w _ _
 have ka : Hid (w1.heap[g]? = some (.cells A 71 (0, 0))) := by
  rw [<- Hw1.out, <- Hg.out]
  exact ((alloc1 (w.alloc (.cells A 71)) _).block w.heap.size (by simp)).trans (heap_alloc_new w _)
 have kb : Hid (w1.heap[g + 1]? = some (.cells B 71 (0, 0))) := by
  rw [<- Hw1.out, <- Hg.out]
  have e : (w.alloc (.cells A 71)).heap.size = w.heap.size + 1 := by simp
  rw [<- e]
  exact heap_alloc_new _ _
 have RX : Hid (Rw w1 lo hi 26 EPc x.a x.n x.c x.ob.pcs) := hx.out.r.below B1.out
 have RY : Hid (Rw w1 lo' hi' 26 EPc y.a y.n y.c y.ob.pcs) := hy.out.r.below B1.out
 have LX : Hid (x.n = x.ob.pcs.length) := hx.out.r.len
 have LY : Hid (y.n = y.ob.pcs.length) := hy.out.r.len
 have hnK : x.n <= 1048576 := Nat.le_trans hx.out.k hK
 have qa0 : w1.cell? ⟨g, 0, none⟩ = some (.string x.ob.key) := cell_arr ka.out (by rw [hA.out]; rfl)
 have qb0 : w1.cell? ⟨g + 1, 0, none⟩ = some (.string y.ob.key) := cell_arr kb.out (by rw [hB.out]; rfl)
 have qa1 : w1.cell? ⟨g, 1, none⟩ = some (.int .i64 x.ob.size) := cell_arr ka.out (by rw [hA.out]; rfl)
 have qb1 : w1.cell? ⟨g + 1, 1, none⟩ = some (.int .i64 y.ob.size) := cell_arr kb.out (by rw [hB.out]; rfl)
 have qa2 : w1.cell? ⟨g, 2, none⟩ = some (.string x.ob.etag) := cell_arr ka.out (by rw [hA.out]; rfl)
 have qb2 : w1.cell? ⟨g + 1, 2, none⟩ = some (.string y.ob.etag) := cell_arr kb.out (by rw [hB.out]; rfl)
 have qa3 : w1.cell? ⟨g, 3, none⟩ = some (.int .i64 x.ob.time) := cell_arr ka.out (by rw [hA.out]; rfl)
 have qb3 : w1.cell? ⟨g + 1, 3, none⟩ = some (.int .i64 y.ob.time) := cell_arr kb.out (by rw [hB.out]; rfl)
 have qa4 : w1.cell? ⟨g, 4, none⟩ = some (.slice x.a x.n x.c) := cell_arr ka.out (by rw [hA.out]; rfl)
 have qb4 : w1.cell? ⟨g + 1, 4, none⟩ = some (.slice y.a y.n y.c) := cell_arr kb.out (by rw [hB.out]; rfl)
 go_enter Tryz.func30, Tryz.ntmps30
 go_upto_region 1 with (fail)
 rw [Hw1.out, Hg.out]
 clear Hw1
 by_cases h0 : x.ob.key = y.ob.key
 rotate_left
 . have NE : Hid (¬ x.ob.key = y.ob.key) := h0
   have s1 : (x.ob.key.toList == y.ob.key.toList) = false := by rw [strBx, decide_eq_false h0]
   clear h0
   go_wp2
   go_ret
   exact ⟨by rw [eqb_no (fun e => NE.out (by rw [e]))]; rfl, B1.out⟩
 have H0 : Hid (x.ob.key = y.ob.key) := h0
 rw [<- h0] at qb0
 clear h0
 by_cases h1 : x.ob.size = y.ob.size
 rotate_left
 . have NE : Hid (¬ x.ob.size = y.ob.size) := h1
   go_wp2
   go_ret
   exact ⟨by rw [eqb_no (fun e => NE.out (by rw [e]))]; rfl, B1.out⟩
 have H1 : Hid (x.ob.size = y.ob.size) := h1
 rw [<- h1] at qb1
 clear h1
 by_cases h2 : x.ob.etag = y.ob.etag
 rotate_left
 . have NE : Hid (¬ x.ob.etag = y.ob.etag) := h2
   have s1 : (x.ob.etag.toList == y.ob.etag.toList) = false := by rw [strBx, decide_eq_false h2]
   clear h2
   go_wp2
   go_ret
   exact ⟨by rw [eqb_no (fun e => NE.out (by rw [e]))]; rfl, B1.out⟩
 have H2 : Hid (x.ob.etag = y.ob.etag) := h2
 rw [<- h2] at qb2
 clear h2
 by_cases h3 : x.ob.time = y.ob.time
 rotate_left
 . have NE : Hid (¬ x.ob.time = y.ob.time) := h3
   go_wp2
   go_ret
   exact ⟨by rw [eqb_no (fun e => NE.out (by rw [e]))]; rfl, B1.out⟩
 have H3 : Hid (x.ob.time = y.ob.time) := h3
 rw [<- h3] at qb3
 clear h3
 by_cases hl : x.n = y.n
 rotate_left
 . have NE : Hid (¬ x.n = y.n) := hl
   have i1 : ¬ ((x.n : Int) = (y.n : Int)) := by omega
   clear hl
   go_wp2
   go_ret
   exact ⟨by rw [eqb_no (fun e => NE.out (by rw [LX.out, LY.out, e]))]; rfl, B1.out⟩
 have HL : Hid (x.n = y.n) := hl
 rw [<- hl] at qb4
 clear hl
 go_wp2
 clear qa0 qb0 qa1 qb1 qa2 qb2 qa3 qb3 qa4 qb4
 go_loopw [44] (fun tc wr => ∃ i : Nat, i <= x.n /\ tc = .int .i64 i /\ Hid (x.ob.pcs.take i = y.ob.pcs.take i /\ Below w1.heap.size w1 wr)) (fun tc _ => x.n - (intOf tc).toNat)
 case atStart => exact ⟨0, by omega, rfl, by simp, Below.refl _ _⟩
 case round =>
  obtain ⟨i, hin, rfl, HP⟩ := hrel
  have BW : Hid (Below w1.heap.size w1 wr) := HP.out.2
  have kar := sh BW ka
  have kbr := sh BW kb
  by_cases hlt : i < x.n
  . have i3 : (i : Int) < (x.n : Int) := by omega
    have kx : i < x.ob.pcs.length := by rw [<- LX.out]; exact hlt
    have ky : i < y.ob.pcs.length := by rw [<- LY.out, <- HL.out]; exact hlt
    have qa : ∀ j, (wr.drewN j).cell? ⟨g, 4, none⟩ = some (.slice x.a x.n x.c) := fun j => cell_arr (W := wr) kar.out (by rw [hA.out]; rfl)
    have qb : ∀ j, (wr.drewN j).cell? ⟨g + 1, 4, none⟩ = some (.slice y.a x.n y.c) := fun j => cell_arr (W := wr) kbr.out (by rw [hB.out, HL.out]; rfl)
    obtain ⟨b1, e1, _, _, r1⟩ := (RX.out.below BW.out).at_ kx
    obtain ⟨b2, e2, _, _, r2⟩ := (RY.out.below BW.out).at_ ky
    rw [e1] at qa
    rw [e2] at qb
    obtain ⟨p, Hp⟩ := nm (x.ob.pcs[i])
    obtain ⟨q, Hq⟩ := nm (y.ob.pcs[i])
    rw [Hp.out] at r1
    rw [Hq.out] at r2
    have c0 : ∀ j, (wr.drewN j).cell? ⟨b1, i * 5, none⟩ = some (.int .i64 p.b0) := fun j => r1 0 _ rfl
    have d0 : ∀ j, (wr.drewN j).cell? ⟨b2, i * 5, none⟩ = some (.int .i64 q.b0) := fun j => r2 0 _ rfl
    have c1 : ∀ j, (wr.drewN j).cell? ⟨b1, i * 5 + 1, none⟩ = some (.int .i64 p.b1) := fun j => r1 1 _ rfl
    have d1 : ∀ j, (wr.drewN j).cell? ⟨b2, i * 5 + 1, none⟩ = some (.int .i64 q.b1) := fun j => r2 1 _ rfl
    have c2 : ∀ j, (wr.drewN j).cell? ⟨b1, i * 5 + 2, none⟩ = some (.int .i64 p.b2) := fun j => r1 2 _ rfl
    have d2 : ∀ j, (wr.drewN j).cell? ⟨b2, i * 5 + 2, none⟩ = some (.int .i64 q.b2) := fun j => r2 2 _ rfl
    have c3 : ∀ j, (wr.drewN j).cell? ⟨b1, i * 5 + 3, none⟩ = some (.int .i64 p.sz) := fun j => r1 3 _ rfl
    have d3 : ∀ j, (wr.drewN j).cell? ⟨b2, i * 5 + 3, none⟩ = some (.int .i64 q.sz) := fun j => r2 3 _ rfl
    have c4 : ∀ j, (wr.drewN j).cell? ⟨b1, i * 5 + 4, none⟩ = some (.string p.et) := fun j => r1 4 _ rfl
    have d4 : ∀ j, (wr.drewN j).cell? ⟨b2, i * 5 + 4, none⟩ = some (.string q.et) := fun j => r2 4 _ rfl
    have TX : Hid (x.ob.pcs.take (i + 1) = x.ob.pcs.take i ++ [p]) := by show _ = _; rw [List.take_add_one, List.getElem?_eq_getElem kx, Hp.out]; rfl
    have TY : Hid (y.ob.pcs.take (i + 1) = y.ob.pcs.take i ++ [q]) := by show _ = _; rw [List.take_add_one, List.getElem?_eq_getElem ky, Hq.out]; rfl
    clear e1 e2 r1 r2 kx ky Hp Hq
    by_cases hpq : p = q
    . have EQ : ∀ w, (Op.equalIn 10000 26 (.agg #[.int .i64 p.b0,.int .i64 p.b1,.int .i64 p.b2,.int .i64 p.sz,.string p.et]) (.agg #[.int .i64 q.b0,.int .i64 q.b1,.int .i64 q.b2,.int .i64 q.sz,.string q.et])).run Tryz.prog w = .ok true w := fun w => by rw [eqPc]; rw [hpq]; simp
      have HE : Hid (p = q) := hpq
      clear hpq
      go_upto_region 6 with (fail)
      go_quiet (fail)
      have NX : Hid (x.ob.pcs.take (i + 1) = y.ob.pcs.take (i + 1) /\ Below w1.heap.size w1 (wr.drewN nq)) := ⟨by rw [TX.out, TY.out, HP.out.1, HE.out], below_drewN BW.out _⟩
      clear qa qb c0 d0 c1 d1 c2 d2 c3 d3 c4 d4 EQ
      go_wp2
      go_roundw
      case rel => exact ⟨i + 1, by omega, by go_num, NX⟩
      case measure => simp [intOf]; omega
    . have EQ : ∀ w, (Op.equalIn 10000 26 (.agg #[.int .i64 p.b0,.int .i64 p.b1,.int .i64 p.b2,.int .i64 p.sz,.string p.et]) (.agg #[.int .i64 q.b0,.int .i64 q.b1,.int .i64 q.b2,.int .i64 q.sz,.string q.et])).run Tryz.prog w = .ok false w := fun w => by rw [eqPc, decide_eq_false]; intro h; exact hpq (by cases p; cases q; simp_all)
      have NE : Hid (¬ p = q) := hpq
      clear hpq
      go_upto_region 6 with (fail)
      go_quiet (fail)
      go_wp2
      go_ret
      exact ⟨by rw [eqb_no (fun e => NE.out (by have h : x.ob.pcs.take (i + 1) = y.ob.pcs.take (i + 1) := (by rw [e]); rw [TX.out, TY.out, HP.out.1] at h; simpa using h))]; rfl, B1.out.trans ((below_drewN BW.out _).mono B1.out.size)⟩
  . have ein : i = x.n := by omega
    subst ein
    have HE : Hid (x.ob = y.ob) := by
     have h := HP.out.1
     rw [List.take_of_length_le (by have := LX.out; omega), List.take_of_length_le (by have := LY.out; have := HL.out; omega)] at h
     have h0 := H0.out
     have h1 := H1.out
     have h2 := H2.out
     have h3 := H3.out
     obtain ⟨⟨k1, k2, k3, k4, k5⟩, _, _, _⟩ := x
     obtain ⟨⟨m1, m2, m3, m4, m5⟩, _, _, _⟩ := y
     simp only at h h0 h1 h2 h3
     show Obd.mk _ _ _ _ _ = Obd.mk _ _ _ _ _
     rw [h, h0, h1, h2, h3]
    clear HP
    go_wp2
    go_ret
    exact ⟨by rw [eqb_yes HE.out]; rfl, B1.out.trans (BW.out.mono B1.out.size)⟩
set_option maxHeartbeats 8000000 in
theorem sameUl_n {w : World} {A B : Array Value} {x y : Ulx} {K K' lo hi lo' hi' : Nat} (hK : K <= 1048576) (hA : Hid (A = (EUl.e x).toArray)) (hB : Hid (B = (EUl.e y).toArray)) (hx : Hid (UlO K w lo hi x)) (hy : Hid (UlO K' w lo' hi' y)) :
  Calls Tryz.prog 32 #[.agg A, .agg B] w fun e w' => e = .returned (.bool (eqb x.ul y.ul)) /\ Hid (Below w.heap.size w w') := by
 obtain ⟨w1, Hw1⟩ := nm ((w.alloc (.cells A 77)).alloc (.cells B 77))
 obtain ⟨g, Hg⟩ := nm (w.heap.size)
 have B1 : Hid (Below w.heap.size w w1) := by rw [<- Hw1.out]; exact alloc2 w _ _
 have ka : Hid (w1.heap[g]? = some (.cells A 77 (0, 0))) := by
  rw [<- Hw1.out, <- Hg.out]
  exact ((alloc1 (w.alloc (.cells A 77)) _).block w.heap.size (by simp)).trans (heap_alloc_new w _)
 have kb : Hid (w1.heap[g + 1]? = some (.cells B 77 (0, 0))) := by
  rw [<- Hw1.out, <- Hg.out]
  have e : (w.alloc (.cells A 77)).heap.size = w.heap.size + 1 := by simp
  rw [<- e]
  exact heap_alloc_new _ _
 have RX : Hid (Rw w1 lo hi 108 EPt x.a x.n x.c x.ul.pts) := hx.out.r.below B1.out
 have RY : Hid (Rw w1 lo' hi' 108 EPt y.a y.n y.c y.ul.pts) := hy.out.r.below B1.out
 have LX : Hid (x.n = x.ul.pts.length) := hx.out.r.len
 have LY : Hid (y.n = y.ul.pts.length) := hy.out.r.len
 have hnK : x.n <= 1048576 := Nat.le_trans hx.out.k hK
 have qa0 : w1.cell? ⟨g, 0, none⟩ = some (.int .i64 x.ul.i0) := cell_arr ka.out (by rw [hA.out]; rfl)
 have qb0 : w1.cell? ⟨g + 1, 0, none⟩ = some (.int .i64 y.ul.i0) := cell_arr kb.out (by rw [hB.out]; rfl)
 have qa1 : w1.cell? ⟨g, 1, none⟩ = some (.int .i64 x.ul.i1) := cell_arr ka.out (by rw [hA.out]; rfl)
 have qb1 : w1.cell? ⟨g + 1, 1, none⟩ = some (.int .i64 y.ul.i1) := cell_arr kb.out (by rw [hB.out]; rfl)
 have qa2 : w1.cell? ⟨g, 2, none⟩ = some (.int .i64 x.ul.i2) := cell_arr ka.out (by rw [hA.out]; rfl)
 have qb2 : w1.cell? ⟨g + 1, 2, none⟩ = some (.int .i64 y.ul.i2) := cell_arr kb.out (by rw [hB.out]; rfl)
 have qa3 : w1.cell? ⟨g, 3, none⟩ = some (.string x.ul.key) := cell_arr ka.out (by rw [hA.out]; rfl)
 have qb3 : w1.cell? ⟨g + 1, 3, none⟩ = some (.string y.ul.key) := cell_arr kb.out (by rw [hB.out]; rfl)
 have qa4 : w1.cell? ⟨g, 4, none⟩ = some (.slice x.a x.n x.c) := cell_arr ka.out (by rw [hA.out]; rfl)
 have qb4 : w1.cell? ⟨g + 1, 4, none⟩ = some (.slice y.a y.n y.c) := cell_arr kb.out (by rw [hB.out]; rfl)
 go_enter Tryz.func32, Tryz.ntmps32
 go_upto_region 1 with (fail)
 rw [Hw1.out, Hg.out]
 clear Hw1
 by_cases hid : x.ul.i0 = y.ul.i0 /\ x.ul.i1 = y.ul.i1 /\ x.ul.i2 = y.ul.i2
 rotate_left
 . have NE : Hid (¬ (x.ul.i0 = y.ul.i0 /\ x.ul.i1 = y.ul.i1 /\ x.ul.i2 = y.ul.i2)) := hid
   have EQ : ∀ w, (Op.equalIn 10000 24 (.agg #[.int .i64 x.ul.i0,.int .i64 x.ul.i1,.int .i64 x.ul.i2]) (.agg #[.int .i64 y.ul.i0,.int .i64 y.ul.i1,.int .i64 y.ul.i2])).run Tryz.prog w = .ok false w := fun w => by rw [eqId _ _ _ _ _ _ 9998 w, decide_eq_false hid]
   clear hid
   go_wp2
   go_ret
   exact ⟨by rw [eqb_no (fun e => NE.out (by rw [e]; exact ⟨rfl, rfl, rfl⟩))]; rfl, B1.out⟩
 have HI : Hid (x.ul.i0 = y.ul.i0 /\ x.ul.i1 = y.ul.i1 /\ x.ul.i2 = y.ul.i2) := hid
 rw [<- hid.1] at qb0
 rw [<- hid.2.1] at qb1
 rw [<- hid.2.2] at qb2
 clear hid
 have EI : ∀ w, (Op.equalIn 10000 24 (.agg #[.int .i64 x.ul.i0,.int .i64 x.ul.i1,.int .i64 x.ul.i2]) (.agg #[.int .i64 x.ul.i0,.int .i64 x.ul.i1,.int .i64 x.ul.i2])).run Tryz.prog w = .ok true w := fun w => by rw [eqId _ _ _ _ _ _ 9998 w, decide_eq_true ⟨rfl, rfl, rfl⟩]
 by_cases h3 : x.ul.key = y.ul.key
 rotate_left
 . have NE : Hid (¬ x.ul.key = y.ul.key) := h3
   have s1 : (x.ul.key.toList == y.ul.key.toList) = false := by rw [strBx, decide_eq_false h3]
   clear h3
   go_wp2
   go_ret
   exact ⟨by rw [eqb_no (fun e => NE.out (by rw [e]))]; rfl, B1.out⟩
 have H3 : Hid (x.ul.key = y.ul.key) := h3
 rw [<- h3] at qb3
 clear h3
 by_cases hl : x.n = y.n
 rotate_left
 . have NE : Hid (¬ x.n = y.n) := hl
   have i1 : ¬ ((x.n : Int) = (y.n : Int)) := by omega
   clear hl
   go_wp2
   go_ret
   exact ⟨by rw [eqb_no (fun e => NE.out (by rw [LX.out, LY.out, e]))]; rfl, B1.out⟩
 have HL : Hid (x.n = y.n) := hl
 rw [<- hl] at qb4
 clear hl
 go_wp2
 clear qa0 qb0 qa1 qb1 qa2 qb2 qa3 qb3 qa4 qb4
 go_loopw [30] (fun tc wr => ∃ i : Nat, i <= x.n /\ tc = .int .i64 i /\ Hid (x.ul.pts.take i = y.ul.pts.take i /\ Below w1.heap.size w1 wr)) (fun tc _ => x.n - (intOf tc).toNat)
 case atStart => exact ⟨0, by omega, rfl, by simp, Below.refl _ _⟩
 case round =>
  obtain ⟨i, hin, rfl, HP⟩ := hrel
  have BW : Hid (Below w1.heap.size w1 wr) := HP.out.2
  have kar := sh BW ka
  have kbr := sh BW kb
  by_cases hlt : i < x.n
  . have i3 : (i : Int) < (x.n : Int) := by omega
    have kx : i < x.ul.pts.length := by rw [<- LX.out]; exact hlt
    have ky : i < y.ul.pts.length := by rw [<- LY.out, <- HL.out]; exact hlt
    have qa : ∀ j, (wr.drewN j).cell? ⟨g, 4, none⟩ = some (.slice x.a x.n x.c) := fun j => cell_arr (W := wr) kar.out (by rw [hA.out]; rfl)
    have qb : ∀ j, (wr.drewN j).cell? ⟨g + 1, 4, none⟩ = some (.slice y.a x.n y.c) := fun j => cell_arr (W := wr) kbr.out (by rw [hB.out, HL.out]; rfl)
    obtain ⟨b1, e1, _, _, r1⟩ := (RX.out.below BW.out).at_ kx
    obtain ⟨b2, e2, _, _, r2⟩ := (RY.out.below BW.out).at_ ky
    rw [e1] at qa
    rw [e2] at qb
    obtain ⟨p, Hp⟩ := nm (x.ul.pts[i])
    obtain ⟨q, Hq⟩ := nm (y.ul.pts[i])
    rw [Hp.out] at r1
    rw [Hq.out] at r2
    have c0 : ∀ j, (wr.drewN j).cell? ⟨b1, i * 6, none⟩ = some (.int .i64 p.no) := fun j => r1 0 _ rfl
    have d0 : ∀ j, (wr.drewN j).cell? ⟨b2, i * 6, none⟩ = some (.int .i64 q.no) := fun j => r2 0 _ rfl
    have c1 : ∀ j, (wr.drewN j).cell? ⟨b1, i * 6 + 1, none⟩ = some (.int .i64 p.pc.b0) := fun j => r1 1 _ rfl
    have d1 : ∀ j, (wr.drewN j).cell? ⟨b2, i * 6 + 1, none⟩ = some (.int .i64 q.pc.b0) := fun j => r2 1 _ rfl
    have c2 : ∀ j, (wr.drewN j).cell? ⟨b1, i * 6 + 2, none⟩ = some (.int .i64 p.pc.b1) := fun j => r1 2 _ rfl
    have d2 : ∀ j, (wr.drewN j).cell? ⟨b2, i * 6 + 2, none⟩ = some (.int .i64 q.pc.b1) := fun j => r2 2 _ rfl
    have c3 : ∀ j, (wr.drewN j).cell? ⟨b1, i * 6 + 3, none⟩ = some (.int .i64 p.pc.b2) := fun j => r1 3 _ rfl
    have d3 : ∀ j, (wr.drewN j).cell? ⟨b2, i * 6 + 3, none⟩ = some (.int .i64 q.pc.b2) := fun j => r2 3 _ rfl
    have c4 : ∀ j, (wr.drewN j).cell? ⟨b1, i * 6 + 4, none⟩ = some (.int .i64 p.pc.sz) := fun j => r1 4 _ rfl
    have d4 : ∀ j, (wr.drewN j).cell? ⟨b2, i * 6 + 4, none⟩ = some (.int .i64 q.pc.sz) := fun j => r2 4 _ rfl
    have c5 : ∀ j, (wr.drewN j).cell? ⟨b1, i * 6 + 5, none⟩ = some (.string p.pc.et) := fun j => r1 5 _ rfl
    have d5 : ∀ j, (wr.drewN j).cell? ⟨b2, i * 6 + 5, none⟩ = some (.string q.pc.et) := fun j => r2 5 _ rfl
    have TX : Hid (x.ul.pts.take (i + 1) = x.ul.pts.take i ++ [p]) := by show _ = _; rw [List.take_add_one, List.getElem?_eq_getElem kx, Hp.out]; rfl
    have TY : Hid (y.ul.pts.take (i + 1) = y.ul.pts.take i ++ [q]) := by show _ = _; rw [List.take_add_one, List.getElem?_eq_getElem ky, Hq.out]; rfl
    clear e1 e2 r1 r2 kx ky Hp Hq
    by_cases hpq : p = q
    . have EQ : ∀ w, (Op.equalIn 10000 108 (.agg #[.int .i64 p.no,.int .i64 p.pc.b0,.int .i64 p.pc.b1,.int .i64 p.pc.b2,.int .i64 p.pc.sz,.string p.pc.et]) (.agg #[.int .i64 q.no,.int .i64 q.pc.b0,.int .i64 q.pc.b1,.int .i64 q.pc.b2,.int .i64 q.pc.sz,.string q.pc.et])).run Tryz.prog w = .ok true w := fun w => by rw [eqPt]; rw [hpq]; simp
      have HE : Hid (p = q) := hpq
      clear hpq
      go_upto_region 6 with (fail)
      go_quiet (fail)
      have NX : Hid (x.ul.pts.take (i + 1) = y.ul.pts.take (i + 1) /\ Below w1.heap.size w1 (wr.drewN nq)) := ⟨by rw [TX.out, TY.out, HP.out.1, HE.out], below_drewN BW.out _⟩
      clear qa qb c0 d0 c1 d1 c2 d2 c3 d3 c4 d4 c5 d5 EQ
      go_wp2
      go_roundw
      case rel => exact ⟨i + 1, by omega, by go_num, NX⟩
      case measure => simp [intOf]; omega
    . have EQ : ∀ w, (Op.equalIn 10000 108 (.agg #[.int .i64 p.no,.int .i64 p.pc.b0,.int .i64 p.pc.b1,.int .i64 p.pc.b2,.int .i64 p.pc.sz,.string p.pc.et]) (.agg #[.int .i64 q.no,.int .i64 q.pc.b0,.int .i64 q.pc.b1,.int .i64 q.pc.b2,.int .i64 q.pc.sz,.string q.pc.et])).run Tryz.prog w = .ok false w := fun w => by rw [eqPt, decide_eq_false]; intro h; exact hpq (by obtain ⟨p0, ⟨p1, p2, p3, p4, p5⟩⟩ := p; obtain ⟨q0, ⟨q1, q2, q3, q4, q5⟩⟩ := q; simp_all)
      have NE : Hid (¬ p = q) := hpq
      clear hpq
      go_upto_region 6 with (fail)
      go_quiet (fail)
      go_wp2
      go_ret
      exact ⟨by rw [eqb_no (fun e => NE.out (by have h : x.ul.pts.take (i + 1) = y.ul.pts.take (i + 1) := (by rw [e]); rw [TX.out, TY.out, HP.out.1] at h; simpa using h))]; rfl, B1.out.trans ((below_drewN BW.out _).mono B1.out.size)⟩
  . have ein : i = x.n := by omega
    subst ein
    have HE : Hid (x.ul = y.ul) := by
     have h := HP.out.1
     rw [List.take_of_length_le (by have := LX.out; omega), List.take_of_length_le (by have := LY.out; have := HL.out; omega)] at h
     have h0 := HI.out
     have h3 := H3.out
     obtain ⟨⟨k1, k2, k3, k4, k5⟩, _, _, _⟩ := x
     obtain ⟨⟨m1, m2, m3, m4, m5⟩, _, _, _⟩ := y
     simp only at h h0 h3
     show Uld.mk _ _ _ _ _ = Uld.mk _ _ _ _ _
     rw [h, h0.1, h0.2.1, h0.2.2, h3]
    clear HP
    go_wp2
    go_ret
    exact ⟨by rw [eqb_yes HE.out]; rfl, B1.out.trans (BW.out.mono B1.out.size)⟩
theorem eqb_t {α : Type} {a b : α} (h : eqb a b = true) : a = b := by unfold eqb at h; exact @of_decide_eq_true _ (Classical.propDecidable _) h
theorem eqb_f {α : Type} {a b : α} (h : eqb a b = false) : ¬ a = b := by unfold eqb at h; exact @of_decide_eq_false _ (Classical.propDecidable _) h
structure Tw5 (W : World) (g cell : Nat) (va vb : Value) (b1 b2 o : Nat) (P Q : List Value) : Prop where
 a : W.cell? ⟨g, cell, none⟩ = some va
 b : W.cell? ⟨g + 1, cell, none⟩ = some vb
 p : W.rangeAt b1 o P
 q : W.rangeAt b2 o Q
theorem Tw5.below {W W' : World} {g cell : Nat} {va vb : Value} {b1 b2 o : Nat} {P Q : List Value} (h : Tw5 W g cell va vb b1 b2 o P Q) (hb : Below W.heap.size W W') : Tw5 W' g cell va vb b1 b2 o P Q :=
 ⟨(hb.cell (p := ⟨g, cell, none⟩) (cell_lt h.a)).trans h.a, (hb.cell (p := ⟨g + 1, cell, none⟩) (cell_lt h.b)).trans h.b, Below.range h.p hb, Below.range h.q hb⟩
set_option maxHeartbeats 16000000 in
theorem sameBk_n {w : World} {A B : Array Value} {x y : Bkx} {Kb Kc lo hi lo' hi' : Nat} (hKb : Kb <= 1048576) (hA : Hid (A = (EBk.e x).toArray)) (hB : Hid (B = (EBk.e y).toArray)) (hx : Hid (BkO Kb w lo hi x)) (hy : Hid (BkO Kc w lo' hi' y)) :
  Calls Tryz.prog 28 #[.agg A, .agg B] w fun e w' => e = .returned (.bool (eqb x.bk y.bk)) /\ Hid (Below w.heap.size w w') := by
 obtain ⟨w1, Hw1⟩ := nm ((w.alloc (.cells A 65)).alloc (.cells B 65))
 obtain ⟨g, Hg⟩ := nm (w.heap.size)
 have B1 : Hid (Below w.heap.size w w1) := by rw [<- Hw1.out]; exact alloc2 w _ _
 have ka : Hid (w1.heap[g]? = some (.cells A 65 (0, 0))) := by
  rw [<- Hw1.out, <- Hg.out]
  exact ((alloc1 (w.alloc (.cells A 65)) _).block w.heap.size (by simp)).trans (heap_alloc_new w _)
 have kb : Hid (w1.heap[g + 1]? = some (.cells B 65 (0, 0))) := by
  rw [<- Hw1.out, <- Hg.out]
  have e : (w.alloc (.cells A 65)).heap.size = w.heap.size + 1 := by simp
  rw [<- e]
  exact heap_alloc_new _ _
 have OX : Hid (Rw w1 lo hi 71 EOb x.oa x.on x.oc x.ox) := hx.out.o.below B1.out
 have OY : Hid (Rw w1 lo' hi' 71 EOb y.oa y.on y.oc y.ox) := hy.out.o.below B1.out
 have UX : Hid (Rw w1 lo hi 77 EUl x.ua x.un x.uc x.ux) := hx.out.u.below B1.out
 have UY : Hid (Rw w1 lo' hi' 77 EUl y.ua y.un y.uc y.ux) := hy.out.u.below B1.out
 have OOX : Hid (∀ o ∈ x.ox, ObO Kb w1 lo hi o) := fun o ho => (hx.out.oo o ho).keep (fun q _ _ hq => B1.out.block q hq)
 have OOY : Hid (∀ o ∈ y.ox, ObO Kc w1 lo' hi' o) := fun o ho => (hy.out.oo o ho).keep (fun q _ _ hq => B1.out.block q hq)
 have UUX : Hid (∀ o ∈ x.ux, UlO Kb w1 lo hi o) := fun o ho => (hx.out.uu o ho).keep (fun q _ _ hq => B1.out.block q hq)
 have UUY : Hid (∀ o ∈ y.ux, UlO Kc w1 lo' hi' o) := fun o ho => (hy.out.uu o ho).keep (fun q _ _ hq => B1.out.block q hq)
 have hnK : x.on <= 1048576 := Nat.le_trans hx.out.k.1 hKb
 have huK : x.un <= 1048576 := Nat.le_trans hx.out.k.2 hKb
 have qa0 : w1.cell? ⟨g, 0, none⟩ = some (.string x.nm) := cell_arr ka.out (by rw [hA.out]; rfl)
 have qb0 : w1.cell? ⟨g + 1, 0, none⟩ = some (.string y.nm) := cell_arr kb.out (by rw [hB.out]; rfl)
 have qa1 : w1.cell? ⟨g, 1, none⟩ = some (.int .i64 x.tm) := cell_arr ka.out (by rw [hA.out]; rfl)
 have qb1 : w1.cell? ⟨g + 1, 1, none⟩ = some (.int .i64 y.tm) := cell_arr kb.out (by rw [hB.out]; rfl)
 have qa2 : w1.cell? ⟨g, 2, none⟩ = some (.int .i64 x.dy) := cell_arr ka.out (by rw [hA.out]; rfl)
 have qb2 : w1.cell? ⟨g + 1, 2, none⟩ = some (.int .i64 y.dy) := cell_arr kb.out (by rw [hB.out]; rfl)
 have qa3 : w1.cell? ⟨g, 3, none⟩ = some (.slice x.oa x.on x.oc) := cell_arr ka.out (by rw [hA.out]; rfl)
 have qb3 : w1.cell? ⟨g + 1, 3, none⟩ = some (.slice y.oa y.on y.oc) := cell_arr kb.out (by rw [hB.out]; rfl)
 have qa4 : w1.cell? ⟨g, 4, none⟩ = some (.slice x.ua x.un x.uc) := cell_arr ka.out (by rw [hA.out]; rfl)
 have qb4 : w1.cell? ⟨g + 1, 4, none⟩ = some (.slice y.ua y.un y.uc) := cell_arr kb.out (by rw [hB.out]; rfl)
 go_enter Tryz.func28, Tryz.ntmps28
 go_upto_region 1 with (fail)
 rw [Hw1.out, Hg.out]
 clear Hw1
 by_cases h0 : x.nm = y.nm
 rotate_left
 . have NE : Hid (¬ x.nm = y.nm) := h0
   have s1 : (x.nm.toList == y.nm.toList) = false := by rw [strBx, decide_eq_false h0]
   clear h0
   go_wp2
   go_ret
   exact ⟨by rw [eqb_no (fun e => NE.out (congrArg Bkd.name e))]; rfl, B1.out⟩
 have HL0 : Hid (x.nm = y.nm) := h0
 rw [<- h0] at qb0
 clear h0
 by_cases h1 : x.tm = y.tm
 rotate_left
 . have NE : Hid (¬ x.tm = y.tm) := h1
   go_wp2
   go_ret
   exact ⟨by rw [eqb_no (fun e => NE.out (congrArg Bkd.time e))]; rfl, B1.out⟩
 have HL1 : Hid (x.tm = y.tm) := h1
 rw [<- h1] at qb1
 clear h1
 by_cases h2 : x.dy = y.dy
 rotate_left
 . have NE : Hid (¬ x.dy = y.dy) := h2
   go_wp2
   go_ret
   exact ⟨by rw [eqb_no (fun e => NE.out (congrArg Bkd.days e))]; rfl, B1.out⟩
 have HL2 : Hid (x.dy = y.dy) := h2
 rw [<- h2] at qb2
 clear h2
 by_cases h3 : x.on = y.on
 rotate_left
 . have NE : Hid (¬ x.on = y.on) := h3
   have i1 : ¬ ((x.on : Int) = (y.on : Int)) := by omega
   clear h3
   go_wp2
   go_ret
   exact ⟨by rw [eqb_no (fun e => NE.out (by rw [OX.out.len, OY.out.len]; have h := congrArg (fun z => z.obs.length) e; simpa [Bkx.bk] using h))]; rfl, B1.out⟩
 have HL3 : Hid (x.on = y.on) := h3
 rw [<- h3] at qb3
 clear h3
 by_cases h4 : x.un = y.un
 rotate_left
 . have NE : Hid (¬ x.un = y.un) := h4
   have i1 : ¬ ((x.un : Int) = (y.un : Int)) := by omega
   clear h4
   go_wp2
   go_ret
   exact ⟨by rw [eqb_no (fun e => NE.out (by rw [UX.out.len, UY.out.len]; have h := congrArg (fun z => z.uls.length) e; simpa [Bkx.bk] using h))]; rfl, B1.out⟩
 have HL4 : Hid (x.un = y.un) := h4
 rw [<- h4] at qb4
 clear h4
 go_wp2
 clear qa0 qb0 qa1 qb1 qa2 qb2 qa3 qb3 qa4 qb4
 go_loopw [47] (fun tc wr => ∃ i : Nat, i <= x.on /\ tc = .int .i64 i /\ Hid ((x.ox.take i).map Obx.ob = (y.ox.take i).map Obx.ob /\ Below w1.heap.size w1 wr)) (fun tc _ => x.on - (intOf tc).toNat)
 case atStart => exact ⟨0, by omega, rfl, by simp, Below.refl _ _⟩
 case round =>
  obtain ⟨i, hin, rfl, HP⟩ := hrel
  have BW : Hid (Below w1.heap.size w1 wr) := HP.out.2
  by_cases hlt : i < x.on
  . have i3 : (i : Int) < (x.on : Int) := by omega
    have kx : i < x.ox.length := by rw [<- OX.out.len]; exact hlt
    have ky : i < y.ox.length := by rw [<- OY.out.len, <- HL3.out]; exact hlt
    have qa : wr.drew.cell? ⟨g, 3, none⟩ = some (.slice x.oa x.on x.oc) := cell_arr (W := wr) ((BW.out.block _ (gl ka.out)).trans ka.out) (by rw [hA.out]; rfl)
    have qb : wr.drew.cell? ⟨g + 1, 3, none⟩ = some (.slice y.oa x.on y.oc) := cell_arr (W := wr) ((BW.out.block _ (gl kb.out)).trans kb.out) (by rw [hB.out, HL3.out]; rfl)
    have BD : Hid (Below w1.heap.size w1 wr.drew) := BW.out.drew
    obtain ⟨b1, e1, _, _, r1⟩ := (OX.out.below BD.out).at_ kx
    obtain ⟨b2, e2, _, _, r2⟩ := (OY.out.below BD.out).at_ ky
    rw [e1] at qa
    rw [e2] at qb
    obtain ⟨p, Hp⟩ := nm (x.ox[i])
    obtain ⟨q, Hq⟩ := nm (y.ox[i])
    rw [Hp.out] at r1
    rw [Hq.out] at r2
    have PX : Hid (ObO Kb wr.drew lo hi p) := (OOX.out p (by rw [<- Hp.out]; exact List.getElem_mem kx)).keep (fun q _ _ hq => BD.out.block q hq)
    have PY : Hid (ObO Kc wr.drew lo' hi' q) := (OOY.out q (by rw [<- Hq.out]; exact List.getElem_mem ky)).keep (fun q _ _ hq => BD.out.block q hq)
    have TX : Hid ((x.ox.take (i + 1)).map Obx.ob = (x.ox.take i).map Obx.ob ++ [Obx.ob p]) := by show _ = _; rw [List.take_add_one, List.getElem?_eq_getElem kx, Hp.out, List.map_append]; rfl
    have TY : Hid ((y.ox.take (i + 1)).map Obx.ob = (y.ox.take i).map Obx.ob ++ [Obx.ob q]) := by show _ = _; rw [List.take_add_one, List.getElem?_eq_getElem ky, Hq.out, List.map_append]; rfl
    have K0 : Tw5 wr.drew g 3 (.slice (some ⟨b1, 0, none⟩) x.on x.oc) (.slice (some ⟨b2, 0, none⟩) x.on y.oc) b1 b2 (i * 5) (EOb.e p) (EOb.e q) := ⟨qa, qb, r1, r2⟩
    clear qa qb r1 r2 e1 e2 kx ky Hp Hq
    obtain ⟨Pa, HPa⟩ : ∃ P, Hid (P = (EOb.e p).toArray) := ⟨_, rfl⟩
    obtain ⟨Qa, HQa⟩ : ∃ P, Hid (P = (EOb.e q).toArray) := ⟨_, rfl⟩
    obtain ⟨r, Hr⟩ := nm (eqb (Obx.ob p) (Obx.ob q))
    go_upto_region 6 with (fail)
    refine wp_region_till (S := fun L W => Tw5 W g 3 (.slice (some ⟨b1, 0, none⟩) x.on x.oc) (.slice (some ⟨b2, 0, none⟩) x.on y.oc) b1 b2 (i * 5) (EOb.e p) (EOb.e q)) (by kernel_rfl) K0 (fun hS => ?_)
    clear K0
    refine tkg (i := 0) (v := .pointer (some ⟨g, 3, none⟩)) rfl hS (fun hSb => ?_)
    simp only [pA,pB,pC,Act.put,pD,pE,pF]
    clear hS
    refine trx (i := 1) (c := 3) (v := .slice (some ⟨b1, 0, none⟩) x.on x.oc) rfl rfl (Or.inl ⟨by rfl, fun w h => by have q9 := h.a; go_simp⟩) hSb (fun hS => ?_)
    simp only [pA,pB,pC,Act.put,pD,pE,pF]
    clear hSb
    refine tkg (i := 2) (v := .int .i64 i) rfl hS (fun hSb => ?_)
    simp only [pA,pB,pC,Act.put,pD,pE,pF]
    clear hS
    refine tkg (i := 3) (v := .pointer (some ⟨b1, i * 5, none⟩)) rfl hSb (fun hS => ?_)
    simp only [pA,pB,pC,Act.put,pD,pE,pF]
    clear hSb
    refine trx (i := 4) (c := 10) (v := .agg Pa) rfl rfl (by rw [HPa.out]; exact yieldsIf_load_mid (by rfl) 71 (.tmp 53) (by rfl) b1 (i * 5) (by rfl) (EOb.e p) _ (fun w h => h.p) Tryz.underlying71 rfl (by kernel_rfl)) hS (fun hSb => ?_)
    simp only [pA,pB,pC,Act.put,pD,pE,pF]
    clear hS
    refine tkg (i := 5) (v := .pointer (some ⟨g + 1, 3, none⟩)) rfl hSb (fun hS => ?_)
    simp only [pA,pB,pC,Act.put,pD,pE,pF]
    clear hSb
    refine trx (i := 6) (c := 8) (v := .slice (some ⟨b2, 0, none⟩) x.on y.oc) rfl rfl (Or.inl ⟨by rfl, fun w h => by have q9 := h.b; go_simp⟩) hS (fun hSb => ?_)
    simp only [pA,pB,pC,Act.put,pD,pE,pF]
    clear hS
    refine tkg (i := 7) (v := .int .i64 i) rfl hSb (fun hS => ?_)
    simp only [pA,pB,pC,Act.put,pD,pE,pF]
    clear hSb
    refine tkg (i := 8) (v := .pointer (some ⟨b2, i * 5, none⟩)) rfl hS (fun hSb => ?_)
    simp only [pA,pB,pC,Act.put,pD,pE,pF]
    clear hS
    refine trx (i := 9) (c := 10) (v := .agg Qa) rfl rfl (by rw [HQa.out]; exact yieldsIf_load_mid (by rfl) 71 (.tmp 58) (by rfl) b2 (i * 5) (by rfl) (EOb.e q) _ (fun w h => h.q) Tryz.underlying71 rfl (by kernel_rfl)) hSb (fun hS => ?_)
    simp only [pA,pB,pC,Act.put,pD,pE,pF]
    clear hSb
    refine till_one (i := 10) (by kernel_rfl) rfl (fun K hK => ?_)
    simp only [pA,pB,pC]
    rw [if_pos (by rfl)]
    go_simp
    go_wp2_with (go_at_call 30; refine (sameOb_n (x := p) (y := q) hKb HPa HQa PX PY).mono ?_; rintro e w2 ⟨rfl, H1⟩; rw [Hr.out])
    have Z1 : Tw5 w2 g 3 (.slice (some ⟨b1, 0, none⟩) x.on x.oc) (.slice (some ⟨b2, 0, none⟩) x.on y.oc) b1 b2 (i * 5) (EOb.e p) (EOb.e q) := hS.below H1.out
    refine hK.out _ _ (Z1) (fun hSb => ?_)
    clear hK K
    try simp only [pA,pB,pC,Act.put,pD,pE,pF]
    clear hS
    refine till_one (i := 11) (by kernel_rfl) rfl (fun K hK => ?_)
    simp only [pA,pB,pC]
    rw [if_pos (by rfl)]
    go_simp
    refine hK.out _ _ (hSb) (fun hS => ?_)
    clear hK K
    try simp only [pA,pB,pC,Act.put,pD,pE,pF]
    clear hSb
    refine till_done (by kernel_rfl) ?_ _
    clear hS
    have BN := bt BD H1
    cases r
    . have NE : Hid (¬ Obx.ob p = Obx.ob q) := eqb_f Hr.out
      go_wp2
      go_ret
      exact ⟨by rw [eqb_no (fun e => NE.out (by have h : (x.ox.take (i + 1)).map Obx.ob = (y.ox.take (i + 1)).map Obx.ob := (by rw [List.map_take, show x.ox.map Obx.ob = y.ox.map Obx.ob from congrArg Bkd.obs e, <- List.map_take]); rw [TX.out, TY.out, HP.out.1] at h; simpa using h))]; rfl, B1.out.trans (BN.out.mono B1.out.size)⟩
    . have NX : Hid ((x.ox.take (i + 1)).map Obx.ob = (y.ox.take (i + 1)).map Obx.ob /\ Below w1.heap.size w1 w2) := ⟨by rw [TX.out, TY.out, HP.out.1, eqb_t Hr.out], BN.out⟩
      go_wp2
      go_roundw
      case rel => exact ⟨i + 1, by omega, by go_num, NX⟩
      case measure => simp [intOf]; omega
  . have ein : i = x.on := by omega
    subst ein
    have HM3 : Hid (x.ox.map Obx.ob = y.ox.map Obx.ob) := by
     have h := HP.out.1
     rw [List.take_of_length_le (by rw [<- OX.out.len]; exact Nat.le_refl _), List.take_of_length_le (by rw [<- OY.out.len, <- HL3.out]; exact Nat.le_refl _)] at h
     exact h
    clear HP
    have BE : Hid (Below w1.heap.size w1 wr) := BW.out
    clear BW
    have qa4 : wr.cell? ⟨g, 4, none⟩ = some (.slice x.ua x.un x.uc) := cell_arr ((BE.out.block _ (gl ka.out)).trans ka.out) (by rw [hA.out]; rfl)
    go_wp2
    clear qa4
    go_loopw [66] (fun tc wr => ∃ i : Nat, i <= x.un /\ tc = .int .i64 i /\ Hid ((x.ux.take i).map Ulx.ul = (y.ux.take i).map Ulx.ul /\ Below w1.heap.size w1 wr)) (fun tc _ => x.un - (intOf tc).toNat)
    case atStart => exact ⟨0, by omega, rfl, by simp, BE.out⟩
    case round =>
     obtain ⟨i, hin, rfl, HP⟩ := hrel
     have BW : Hid (Below w1.heap.size w1 wr) := HP.out.2
     by_cases hlt : i < x.un
     . have i3 : (i : Int) < (x.un : Int) := by omega
       have kx : i < x.ux.length := by rw [<- UX.out.len]; exact hlt
       have ky : i < y.ux.length := by rw [<- UY.out.len, <- HL4.out]; exact hlt
       have qa : wr.drew.cell? ⟨g, 4, none⟩ = some (.slice x.ua x.un x.uc) := cell_arr (W := wr) ((BW.out.block _ (gl ka.out)).trans ka.out) (by rw [hA.out]; rfl)
       have qb : wr.drew.cell? ⟨g + 1, 4, none⟩ = some (.slice y.ua x.un y.uc) := cell_arr (W := wr) ((BW.out.block _ (gl kb.out)).trans kb.out) (by rw [hB.out, HL4.out]; rfl)
       have BD : Hid (Below w1.heap.size w1 wr.drew) := BW.out.drew
       obtain ⟨b1, e1, _, _, r1⟩ := (UX.out.below BD.out).at_ kx
       obtain ⟨b2, e2, _, _, r2⟩ := (UY.out.below BD.out).at_ ky
       rw [e1] at qa
       rw [e2] at qb
       obtain ⟨p, Hp⟩ := nm (x.ux[i])
       obtain ⟨q, Hq⟩ := nm (y.ux[i])
       rw [Hp.out] at r1
       rw [Hq.out] at r2
       have PX : Hid (UlO Kb wr.drew lo hi p) := (UUX.out p (by rw [<- Hp.out]; exact List.getElem_mem kx)).keep (fun q _ _ hq => BD.out.block q hq)
       have PY : Hid (UlO Kc wr.drew lo' hi' q) := (UUY.out q (by rw [<- Hq.out]; exact List.getElem_mem ky)).keep (fun q _ _ hq => BD.out.block q hq)
       have TX : Hid ((x.ux.take (i + 1)).map Ulx.ul = (x.ux.take i).map Ulx.ul ++ [Ulx.ul p]) := by show _ = _; rw [List.take_add_one, List.getElem?_eq_getElem kx, Hp.out, List.map_append]; rfl
       have TY : Hid ((y.ux.take (i + 1)).map Ulx.ul = (y.ux.take i).map Ulx.ul ++ [Ulx.ul q]) := by show _ = _; rw [List.take_add_one, List.getElem?_eq_getElem ky, Hq.out, List.map_append]; rfl
       have K0 : Tw5 wr.drew g 4 (.slice (some ⟨b1, 0, none⟩) x.un x.uc) (.slice (some ⟨b2, 0, none⟩) x.un y.uc) b1 b2 (i * 5) (EUl.e p) (EUl.e q) := ⟨qa, qb, r1, r2⟩
       clear qa qb r1 r2 e1 e2 kx ky Hp Hq
       obtain ⟨Pa, HPa⟩ : ∃ P, Hid (P = (EUl.e p).toArray) := ⟨_, rfl⟩
       obtain ⟨Qa, HQa⟩ : ∃ P, Hid (P = (EUl.e q).toArray) := ⟨_, rfl⟩
       obtain ⟨r, Hr⟩ := nm (eqb (Ulx.ul p) (Ulx.ul q))
       go_upto_region 12 with (fail)
       refine wp_region_till (S := fun L W => Tw5 W g 4 (.slice (some ⟨b1, 0, none⟩) x.un x.uc) (.slice (some ⟨b2, 0, none⟩) x.un y.uc) b1 b2 (i * 5) (EUl.e p) (EUl.e q)) (by kernel_rfl) K0 (fun hS => ?_)
       clear K0
       refine tkg (i := 0) (v := .pointer (some ⟨g, 4, none⟩)) rfl hS (fun hSb => ?_)
       simp only [pA,pB,pC,Act.put,pD,pE,pF]
       clear hS
       refine trx (i := 1) (c := 3) (v := .slice (some ⟨b1, 0, none⟩) x.un x.uc) rfl rfl (Or.inl ⟨by rfl, fun w h => by have q9 := h.a; go_simp⟩) hSb (fun hS => ?_)
       simp only [pA,pB,pC,Act.put,pD,pE,pF]
       clear hSb
       refine tkg (i := 2) (v := .int .i64 i) rfl hS (fun hSb => ?_)
       simp only [pA,pB,pC,Act.put,pD,pE,pF]
       clear hS
       refine tkg (i := 3) (v := .pointer (some ⟨b1, i * 5, none⟩)) rfl hSb (fun hS => ?_)
       simp only [pA,pB,pC,Act.put,pD,pE,pF]
       clear hSb
       refine trx (i := 4) (c := 10) (v := .agg Pa) rfl rfl (by rw [HPa.out]; exact yieldsIf_load_mid (by rfl) 77 (.tmp 72) (by rfl) b1 (i * 5) (by rfl) (EUl.e p) _ (fun w h => h.p) Tryz.underlying77 rfl (by kernel_rfl)) hS (fun hSb => ?_)
       simp only [pA,pB,pC,Act.put,pD,pE,pF]
       clear hS
       refine tkg (i := 5) (v := .pointer (some ⟨g + 1, 4, none⟩)) rfl hSb (fun hS => ?_)
       simp only [pA,pB,pC,Act.put,pD,pE,pF]
       clear hSb
       refine trx (i := 6) (c := 8) (v := .slice (some ⟨b2, 0, none⟩) x.un y.uc) rfl rfl (Or.inl ⟨by rfl, fun w h => by have q9 := h.b; go_simp⟩) hS (fun hSb => ?_)
       simp only [pA,pB,pC,Act.put,pD,pE,pF]
       clear hS
       refine tkg (i := 7) (v := .int .i64 i) rfl hSb (fun hS => ?_)
       simp only [pA,pB,pC,Act.put,pD,pE,pF]
       clear hSb
       refine tkg (i := 8) (v := .pointer (some ⟨b2, i * 5, none⟩)) rfl hS (fun hSb => ?_)
       simp only [pA,pB,pC,Act.put,pD,pE,pF]
       clear hS
       refine trx (i := 9) (c := 10) (v := .agg Qa) rfl rfl (by rw [HQa.out]; exact yieldsIf_load_mid (by rfl) 77 (.tmp 77) (by rfl) b2 (i * 5) (by rfl) (EUl.e q) _ (fun w h => h.q) Tryz.underlying77 rfl (by kernel_rfl)) hSb (fun hS => ?_)
       simp only [pA,pB,pC,Act.put,pD,pE,pF]
       clear hSb
       refine till_one (i := 10) (by kernel_rfl) rfl (fun K hK => ?_)
       simp only [pA,pB,pC]
       rw [if_pos (by rfl)]
       go_simp
       go_wp2_with (go_at_call 32; refine (sameUl_n (x := p) (y := q) hKb HPa HQa PX PY).mono ?_; rintro e w2 ⟨rfl, H1⟩; rw [Hr.out])
       have Z1 : Tw5 w2 g 4 (.slice (some ⟨b1, 0, none⟩) x.un x.uc) (.slice (some ⟨b2, 0, none⟩) x.un y.uc) b1 b2 (i * 5) (EUl.e p) (EUl.e q) := hS.below H1.out
       refine hK.out _ _ (Z1) (fun hSb => ?_)
       clear hK K
       try simp only [pA,pB,pC,Act.put,pD,pE,pF]
       clear hS
       refine till_one (i := 11) (by kernel_rfl) rfl (fun K hK => ?_)
       simp only [pA,pB,pC]
       rw [if_pos (by rfl)]
       go_simp
       refine hK.out _ _ (hSb) (fun hS => ?_)
       clear hK K
       try simp only [pA,pB,pC,Act.put,pD,pE,pF]
       clear hSb
       refine till_done (by kernel_rfl) ?_ _
       clear hS
       have BN := bt BD H1
       cases r
       . have NE : Hid (¬ Ulx.ul p = Ulx.ul q) := eqb_f Hr.out
         go_wp2
         go_ret
         exact ⟨by rw [eqb_no (fun e => NE.out (by have h : (x.ux.take (i + 1)).map Ulx.ul = (y.ux.take (i + 1)).map Ulx.ul := (by rw [List.map_take, show x.ux.map Ulx.ul = y.ux.map Ulx.ul from congrArg Bkd.uls e, <- List.map_take]); rw [TX.out, TY.out, HP.out.1] at h; simpa using h))]; rfl, B1.out.trans (BN.out.mono B1.out.size)⟩
       . have NX : Hid ((x.ux.take (i + 1)).map Ulx.ul = (y.ux.take (i + 1)).map Ulx.ul /\ Below w1.heap.size w1 w2) := ⟨by rw [TX.out, TY.out, HP.out.1, eqb_t Hr.out], BN.out⟩
         go_wp2
         go_roundw
         case rel => exact ⟨i + 1, by omega, by go_num, NX⟩
         case measure => simp [intOf]; omega
     . have ein : i = x.un := by omega
       subst ein
       have HM4 : Hid (x.ux.map Ulx.ul = y.ux.map Ulx.ul) := by
        have h := HP.out.1
        rw [List.take_of_length_le (by rw [<- UX.out.len]; exact Nat.le_refl _), List.take_of_length_le (by rw [<- UY.out.len, <- HL4.out]; exact Nat.le_refl _)] at h
        exact h
       clear HP
       have BE : Hid (Below w1.heap.size w1 wr) := BW.out
       clear BW
       go_wp2
       go_ret
       exact ⟨by rw [eqb_yes (show x.bk = y.bk by unfold Bkx.bk; rw [HL0.out, HL1.out, HL2.out, HM3.out, HM4.out])]; rfl, B1.out.trans (BE.out.mono B1.out.size)⟩
end Go.Proofs.YtfabnnbljkkihaaGreatDoor
