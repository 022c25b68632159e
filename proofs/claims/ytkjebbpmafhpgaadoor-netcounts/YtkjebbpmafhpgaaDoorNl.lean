/- NetCounts: what the law keeps. -/
import Derived.Test.YtkjebbpmafhpgaaDoorNj
import Derived.ChangeKeysEq
namespace Go.Proofs.YtkjebbpmafhpgaaDoor
open Go.ChangeShapes Go.WideShapes Go.ChangeAt Go.RowKit
set_option maxRecDepth 20000
set_option linter.unusedVariables false
set_option linter.unusedSimpArgs false
def la (C : Nat → Int) : Array Value := ((List.range 256).map fun i => iv (C i)).toArray
theorem inf40 : (Tryd.prog.info? 40).map (fun i => (i.zero, i.size)) = some (some (.agg (la fun _ => 0)), 256) := by kernel_rfl
theorem inz40 : (Tryd.prog.info? 40).map (·.size) = some 256 := by kernel_rfl
theorem zv40 (w : World) : (zeroValue 40).run Tryd.prog w = .ok (.agg (la fun _ => 0)) w := by
  obtain ⟨i, hi, hz⟩ := Option.map_eq_some_iff.1 inf40
  simp only [Prod.mk.injEq] at hz
  simp [zeroValue, typeInfo, hi, hz.1]
theorem la_size (C : Nat → Int) : (la C).size = 256 := by simp [la]
theorem la_get (C : Nat → Int) {i : Nat} (hi : i < 256) : (la C)[i]? = some (.int .i64 (C i)) := by
  simp [la, hi, iv]
theorem la_ext {C D : Nat → Int} (h : ∀ v, v < 256 → C v = D v) : la C = la D := by
  unfold la
  congr 1
  exact List.map_congr_left fun v hv => by rw [h v (List.mem_range.1 hv)]
theorem part_la (C : Nat → Int) (j : Nat) (hj : j < 256) (w : World) : (part 3 (la C) (j * 1)).run Tryd.prog w = .ok (.int .i64 (C j)) w := by
  have h2 := la_get C hj
  simp [part, go_sem, h2]
theorem eqItems_la (C : Nat → Int) (w : World) : ∀ js : List Nat, (∀ j ∈ js, j < 256) → (Op.eqItems 9999 3 1 (la C) (la C) js).run Tryd.prog w = .ok true w := by
  intro js
  induction js with
  | nil => intro _; simp [Op.eqItems]
  | cons j js ih =>
    intro h
    have hj := h j (List.mem_cons_self ..)
    have ih' := ih (fun x hx => h x (List.mem_cons_of_mem _ hx))
    have e : (Op.equalIn 9999 3 (.int .i64 (C j)) (.int .i64 (C j))).run Tryd.prog w = .ok true w := by
      rw [run_equalIn_int w 9998 3 .i64 .i64 _ _ Tryd.underlying3]
      simp
    simp only [Op.eqItems, Sem.run_bind, part_la C j hj w, Result.andThen_ok, e, Bool.not_true, Bool.false_eq_true, if_false]
    exact ih'
theorem eq40 (C : Nat → Int) (w : World) : (Op.equalIn 10000 40 (.agg (la C)) (.agg (la C))).run Tryd.prog w = .ok true w := by
  obtain ⟨i, hi, _⟩ := info_parts info3
  have h := run_equalIn_array (P := Tryd.prog) w 9999 (la C) (la C) Tryd.underlying40 hi
  have c : Tryd.prog.cellsOf 3 = 1 := cells3
  rw [c] at h
  rw [h]
  exact eqItems_la C w _ (fun j hj => List.mem_range.1 hj)
def upC (C : Nat → Int) (v : Nat) (x : Int) : Nat → Int := fun i => if i = v then x else C i
theorem la_set (C : Nat → Int) {v : Nat} (hv : v < 256) (x : Int) : (la C).setIfInBounds v (.int .i64 x) = la (upC C v x) := by
  apply Array.ext
  · simp [la]
  · intro i h1 h2
    simp only [la, Array.getElem_setIfInBounds, upC]
    by_cases h : v = i
    · subst h; simp [iv]
    · have h3 : ¬ i = v := fun e => h e.symm
      simp [h, h3, iv]
/- how many letters bear the mark -/
def by1 (x : Lt) : Nat := (bytesOf x.bs).headD 0
def cn (X : List Lt) (v : Nat) : Int := ((X.filter (fun x => by1 x == v)).length : Int)
theorem cn_snoc (X : List Lt) (x : Lt) (v : Nat) : cn (X ++ [x]) v = if v = by1 x then cn X v + 1 else cn X v := by
  unfold cn
  rw [List.filter_append, List.length_append]
  by_cases h : by1 x = v
  · subst h; simp
  · have h2 : ¬ v = by1 x := fun e => h e.symm
    simp [h, h2]
theorem cn_del {X : List Lt} {m : Nat} {x : Lt} (hx : X[m]? = some x) (v : Nat) : cn (X.eraseIdx m) v = if v = by1 x then cn X v - 1 else cn X v := by
  obtain ⟨hm, rfl⟩ := List.getElem?_eq_some_iff.1 hx
  have e : X = X.take m ++ X[m] :: X.drop (m + 1) := by rw [List.getElem_cons_drop, List.take_append_drop]
  have e2 : cn X v = cn (X.take m ++ X[m] :: X.drop (m + 1)) v := by rw [← e]
  rw [e2, List.eraseIdx_eq_take_drop_succ]
  unfold cn
  simp only [List.filter_append, List.length_append, List.filter_cons]
  by_cases h : by1 X[m] = v
  · subst h; simp; omega
  · have h2 : ¬ v = by1 X[m] := fun e => h e.symm
    simp [h, h2]
theorem cn_le (X : List Lt) (v : Nat) : 0 ≤ cn X v ∧ cn X v ≤ (X.length : Int) := by
  unfold cn
  have := List.length_filter_le (fun x => by1 x == v) X
  omega
theorem by1_spell {n f t : Int} {v : Nat} (hv : v < 256) : by1 ⟨n, f, t, spell [v]⟩ = v := by
  unfold by1
  rw [bytesOf_spell (by simpa using hv)]
  rfl
/- what the law keeps: the network, the counts, the marks -/
structure NC (w0 w : World) (d : Nat) (a : Option Addr) (X : List Lt) (g : Int) (q : Nat) (C : Nat → Int) (b : Option Addr) (n c : Nat) (ML : List Nat) : Prop where
  nt : Nt w w0.heap.size d a X g
  lf : w.heap[q]? = some (.cells (la C) 40 (0, 0))
  row : w.ownsRow w0.heap.size 5 1 (.slice b n c) n (ML.map bv)
  ql : w0.heap.size ≤ q
  bel : Below w0.heap.size w0 w
  ml : g + 1 = (n : Int)
  lt : ∀ x ∈ ML, x < 256
  ok : ∀ x ∈ X, ∃ (kn v : Nat), x = ⟨(kn : Int), 1, 2, spell [v]⟩ ∧ ML[kn]? = some v
section
variable {w0 w w' : World} {d q n c : Nat} {a a' b : Option Addr} {X X' : List Lt} {g g' : Int} {C : Nat → Int} {ML : List Nat}
theorem NC.len (h : NC w0 w d a X g q C b n c ML) : n = ML.length := by
  have := h.row.1
  simp at this
  exact this.symm
theorem NC.blk (h : NC w0 w d a X g q C b n c ML) {r : Nat} (e : blkOf b = some r) : ∃ cur, w.heap[r]? = some (.cells cur 5 (0, 0)) := by
  rcases h.row.2 with ⟨h1, _⟩ | ⟨g, cap, cur, h1, _, h3, _⟩
  · cases h1; cases e
  · cases h1; cases e; exact ⟨cur, h3⟩
theorem NC.off (h : NC w0 w d a X g q C b n c ML) {r : Nat} {cur : Array Value} {t : TypeId} (e : w.heap[r]? = some (.cells cur t (0, 0))) (ht : t ≠ 58 ∧ t ≠ 71) : ¬ (r = d ∨ blkOf a = some r) := fun hh => by
  obtain ⟨k, c', h1, h2⟩ := h.nt.st
  rcases hh with rfl | hh
  · rw [h1] at e; cases e; exact ht.1 rfl
  · obtain ⟨cur2, h3, _⟩ := h2.blk hh
    rw [h3] at e; cases e; exact ht.2 rfl
theorem NC.below (h : NC w0 w d a X g q C b n c ML) (hb : Below w.heap.size w w') : NC w0 w' d a X g q C b n c ML :=
  ⟨h.nt.below hb, (hb.block q (Array.getElem?_eq_some_iff.1 h.lf).1).trans h.lf, rown_bel h.row (fun r e => hb.block r (h.row.lt r e).2), h.ql, h.bel.trans (hb.mono h.bel.size), h.ml, h.lt, h.ok⟩
/- behind a call on the network -/
structure NP (w0 w : World) (d q : Nat) (C : Nat → Int) (b : Option Addr) (n c : Nat) (ML : List Nat) : Prop where
  lf : w.heap[q]? = some (.cells (la C) 40 (0, 0))
  row : w.ownsRow w0.heap.size 5 1 (.slice b n c) n (ML.map bv)
  bel : Below w0.heap.size w0 w
theorem NC.nf (h : NC w0 w d a X g q C b n c ML) (hf : NF w w' d a a') : NP w0 w' d q C b n c ML := by
  refine ⟨(hf.ch.block q (Array.getElem?_eq_some_iff.1 h.lf).1 (h.off h.lf (by decide))).trans h.lf, rown_bel h.row (fun r e => ?_), h.bel.trans (hf.ch.toBelow h.bel.size (fun r hr hs => ?_))⟩
  · have e2 := e
    rw [ownBlock_slice] at e2
    obtain ⟨cur, h1⟩ := h.blk e2
    exact hf.ch.block r (h.row.lt r e).2 (h.off h1 (by decide))
  · rcases hs with hs | hs
    · have := h.nt.dl; omega
    · have := (h.nt.alt hs).1; omega
/- a mark -/
theorem NC.mark (h : NC w0 w d a X g q C b n c ML) {kn v : Nat} (hv : ML[kn]? = some v) : ∃ r, b = some ⟨r, 0, none⟩ ∧ kn < n ∧ w.cell? ⟨r, kn, none⟩ = some (.int .u8 (v : Int)) := by
  have hl := h.len
  have hk := (List.getElem?_eq_some_iff.1 hv).1
  obtain ⟨r, rfl, _, _, _⟩ := rown_at h.row (by omega)
  refine ⟨r, rfl, by omega, ?_⟩
  rw [h.row.cellAt kn (by omega)]
  simp [bv, List.getElem?_map, hv]
/- a count is written over -/
theorem NP.put (h : NP w0 w d q C b n c ML) (hn : Nt w w0.heap.size d a X g) (hq : w0.heap.size ≤ q) {v : Nat} (hv : v < 256) (x : Int) : NP w0 (w.setCell ⟨q, v, none⟩ (.int .i64 x)) d q (upC C v x) b n c ML ∧ Nt (w.setCell ⟨q, v, none⟩ (.int .i64 x)) w0.heap.size d a X g := by
  have nb : ∀ r, (∃ (cur : Array Value) (t : TypeId), w.heap[r]? = some (Obj.cells cur t (0, 0)) ∧ t ≠ 40) → r ≠ q := fun r hr e => by
    obtain ⟨cur, t, h1, h2⟩ := hr
    rw [e, h.lf] at h1
    cases h1
    exact h2 rfl
  refine ⟨⟨?_, rown_bel h.row (fun r e => Below.heap_setCell _ _ _ _ (nb r ?_)), h.bel.setCell hq _⟩, hn.keep (fun r hr => Below.heap_setCell _ _ _ _ (nb r ?_))⟩
  · have h1 := set_blk h.lf v (.int .i64 x)
    rw [la_set C hv] at h1
    exact h1
  · rw [ownBlock_slice] at e
    rcases h.row.2 with ⟨h1, _⟩ | ⟨g, cap, cur, h1, _, h3, _⟩
    · cases h1; cases e
    · cases h1; cases e; exact ⟨cur, _, h3, by decide⟩
  · obtain ⟨k, c', h1, h2⟩ := hn.st
    rcases hr with rfl | hr
    · exact ⟨_, _, h1, by decide⟩
    · obtain ⟨cur2, h3, _⟩ := h2.blk hr
      exact ⟨_, _, h3, by decide⟩
theorem NC.np (h : NC w0 w d a X g q C b n c ML) : NP w0 w d q C b n c ML := ⟨h.lf, h.row, h.bel⟩
theorem NC.put (h : NC w0 w d a X g q C b n c ML) {v : Nat} (hv : v < 256) (x : Int) : NC w0 (w.setCell ⟨q, v, none⟩ (.int .i64 x)) d a X g q (upC C v x) b n c ML := by
  have k := h.np.put h.nt h.ql hv x
  exact ⟨k.2, k.1.lf, k.1.row, h.ql, k.1.bel, h.ml, h.lt, h.ok⟩
theorem NP.cell (h : NP w0 w d q C b n c ML) {v : Nat} (hv : v < 256) : w.cell? ⟨q, v, none⟩ = some (.int .i64 (C v)) ∧ w.frozen? ⟨q, v, none⟩ = false := by
  have := la_get C hv
  simp [World.cell?, World.frozen?, h.lf, this]
theorem NP.mark (h : NP w0 w d q C b n c ML) {kn v : Nat} (hv : ML[kn]? = some v) : ∃ r, b = some ⟨r, 0, none⟩ ∧ kn < n ∧ w.cell? ⟨r, kn, none⟩ = some (.int .u8 (v : Int)) := by
  have hl : n = ML.length := by
    have := h.row.1
    simp at this
    exact this.symm
  have hk := (List.getElem?_eq_some_iff.1 hv).1
  obtain ⟨r, rfl, _, _, _⟩ := rown_at h.row (by omega)
  refine ⟨r, rfl, by omega, ?_⟩
  rw [h.row.cellAt kn (by omega)]
  simp [bv, List.getElem?_map, hv]
theorem NP.below (h : NP w0 w d q C b n c ML) (hb : Below w.heap.size w w') : NP w0 w' d q C b n c ML :=
  ⟨(hb.block q (Array.getElem?_eq_some_iff.1 h.lf).1).trans h.lf, rown_bel h.row (fun r e => hb.block r (h.row.lt r e).2), h.bel.trans (hb.mono h.bel.size)⟩
/- one more mark -/
theorem NP.more (h : NP w0 w d q C b n c ML) (hn : Nt w w0.heap.size d a X g) (hq : w0.heap.size ≤ q) (hml : g = (n : Int)) (hlt : ∀ x ∈ ML, x < 256) {v p : Nat} (hv : v < 256) (hp : w.heap[p]? = some (.cells #[.int .u8 (v : Int)] 5 (0, 0))) (hN : n ≤ 140737488352256)
    (hok : ∀ x ∈ X, ∃ (kn u : Nat), x = ⟨(kn : Int), 1, 2, spell [u]⟩ ∧ (ML ++ [v])[kn]? = some u) :
    ∃ b' c' w', (Builtin.append_ #[32, 32] 32 #[.slice b n c, .slice (some ⟨p, 0, none⟩) 1 1]).run Tryd.prog w = .ok (.slice b' (n + 1) c') w' ∧ NC w0 w' d a X g q C b' (n + 1) c' (ML ++ [v]) := by
  obtain ⟨b', c', w', r1, r2, r3, r4⟩ := app_one (t := 32) (e := 5) (cs := [.int .u8 (v : Int)]) Tryd.underlying32 info5 rfl (by decide) h.row hp rfl (by intro u hu; simp at hu; subst hu; rfl) (by omega) (by unfold maxLen; omega) h.bel.size
  have nb : ∀ r, (∃ (cur : Array Value) (t : TypeId), w.heap[r]? = some (Obj.cells cur t (0, 0)) ∧ t ≠ 5) → r < w.heap.size ∧ blkOf b ≠ some r := fun r hr => by
    obtain ⟨cur, t, h1, h2⟩ := hr
    refine ⟨(Array.getElem?_eq_some_iff.1 h1).1, fun e => ?_⟩
    rcases h.row.2 with ⟨h3, _⟩ | ⟨g, cap, cur, h3, _, h4, _⟩
    · cases h3; cases e
    · cases h3; cases e
      rw [h4] at h1; cases h1; exact h2 rfl
  have kp : ∀ r, (∃ (cur : Array Value) (t : TypeId), w.heap[r]? = some (Obj.cells cur t (0, 0)) ∧ t ≠ 5) → w'.heap[r]? = w.heap[r]? := fun r hr => r3.block r (nb r hr).1 (fun e => (nb r hr).2 e.symm)
  refine ⟨b', c', w', r1, hn.keep (fun r hr => kp r ?_), (kp q ⟨_, _, h.lf, by decide⟩).trans h.lf, by rw [List.map_append]; exact r2, hq, h.bel.trans (grown_below r3 h.bel.size (fun r e => (h.row.lt r (by rw [ownBlock_slice]; exact e)).1)), by rw [hml]; simp, fun x hx => ?_, hok⟩
  · obtain ⟨k, c', h1, h2⟩ := hn.st
    rcases hr with rfl | hr
    · exact ⟨_, _, h1, by decide⟩
    · obtain ⟨cur2, h3, _⟩ := h2.blk hr
      exact ⟨_, _, h3, by decide⟩
  · rcases List.mem_append.1 hx with hx | hx
    · exact hlt x hx
    · obtain rfl := List.mem_singleton.1 hx; exact hv
theorem NC.cell (h : NC w0 w d a X g q C b n c ML) {v : Nat} (hv : v < 256) : w.cell? ⟨q, v, none⟩ = some (.int .i64 (C v)) ∧ w.frozen? ⟨q, v, none⟩ = false := by
  have := la_get C hv
  simp [World.cell?, World.frozen?, h.lf, this]
theorem NC.oks (h : NC w0 w d a X g q C b n c ML) (v : Nat) : ∀ x ∈ X, ∃ (kn u : Nat), x = ⟨(kn : Int), 1, 2, spell [u]⟩ ∧ (ML ++ [v])[kn]? = some u := fun x hx => by
  obtain ⟨kn, u, h1, h2⟩ := h.ok x hx
  exact ⟨kn, u, h1, by rw [List.getElem?_append_left (List.getElem?_eq_some_iff.1 h2).1]; exact h2⟩
end
theorem deliver_one {w : World} {lo d : Nat} {g k : Int} {a : Option Addr} {X : List Lt} {m kn v : Nat} (hN : Hid (Nt w lo d a X g)) (hx : Hid (X[m]? = some ⟨(kn : Int), 1, 2, spell [v]⟩)) (hv : Hid (v < 256)) (hk : k = (kn : Int)) :
    Calls Tryd.prog 14 #[.pointer (some ⟨d, 0, none⟩), .int .i64 k] w fun e w' => ∃ g' c', e = .returned (.tuple #[.agg #[.int .i64 (kn : Int), .int .i64 1, .int .i64 2, .slice (some ⟨g', 0, none⟩) 1 c'], .nilIface]) ∧ Hid (Nt w' lo d a (X.eraseIdx m) g ∧ NF w w' d a a ∧ w'.cell? ⟨g', 0, none⟩ = some (.int .u8 (v : Int)) ∧ w.heap.size ≤ g') := by
  subst hk
  have hp := pl_at (k := (kn : Int)) hN.out.rs.pw hx.out rfl
  refine (deliver_ok hN (show Hid _ from by show _ = _; rw [hp.1]; exact hx.out) hp.2).mono ?_
  rintro e w' ⟨g', c', rfl, H⟩
  have s1 : (spell [v]).size = 1 := by rw [spell_size]; rfl
  have h3 := H.out.2.2.1
  rw [s1, bytesOf_spell (by simpa using hv.out)] at h3
  refine ⟨g', c', by rw [s1], by rw [← hp.1]; exact H.out.1, H.out.2.1, ?_, H.out.2.2.2.1⟩
  obtain ⟨bb, oo, e1, _, e3⟩ := h3.sli.2.2.resolve_left (by simp)
  cases e1
  exact e3 0 (by simp)
end Go.Proofs.YtkjebbpmafhpgaaDoor
