/- Put of both sides by plain words (f11, f12), Place (f15), Num (f14). -/
import Derived.Test.YtfabnnbljkkihaaGreatDoorLk
namespace Go.Proofs.YtfabnnbljkkihaaGreatDoor
open Go.ChangeShapes Go.WideShapes Go.ChangeAt Go.RowKit
set_option maxRecDepth 20000
set_option linter.unusedVariables false
set_option linter.unusedSimpArgs false
section
variable {P : Program} {ops : Array Oper} {Q : Exit → Act → World → Prop} {md : Region.Mode} {S : Array Bool → World → Prop}
/- what is to be shown of an operation that comes up -/
def TillOp (P : Program) (md : Region.Mode) (ops : Array Oper) (Q : Exit → Act → World → Prop) (S : Array Bool → World → Prop) (f : Nat) (L : Array Bool) (a : Act) (w : World) (i : Nat) : Prop :=
  ∃ o, ops[i]? = some o ∧ ∀ K' : Act → World → Prop, Shut (∀ a w, S (L.setIfInBounds i true) w → (S (L.setIfInBounds i true) w → wpTill P md ops Q S f (L.setIfInBounds i true) a w) → K' a w) → if Region.wanted o (yielded ops a.tmps) = true then Oper.wp P o a w K' Q else K' (a.put o.dst undef) w
theorem till_some {is : List Nat} {f : Nat} {L : Array Bool} {a : Act} {w : World} (hr : Region.ready md ops L = is) (hne : is ≠ []) (h : ∀ i ∈ is, TillOp P md ops Q S f L a w i) : wpTill P md ops Q S (f + 1) L a w := by
  refine ⟨fun h0 => (by rw [hr] at h0; exact absurd h0 hne), fun j hj => ?_⟩
  rw [hr] at hj
  obtain ⟨o, ho, hK⟩ := h j hj
  exact wpOp_step ho (fun K' hK' => hK K' (fun a w hS hW => hK' a w ⟨hS, hW hS⟩))
theorem till_two {i j : Nat} {f : Nat} {L : Array Bool} {a : Act} {w : World} (hr : Region.ready md ops L = [i, j]) (h1 : TillOp P md ops Q S f L a w i) (h2 : TillOp P md ops Q S f L a w j) : wpTill P md ops Q S (f + 1) L a w :=
  till_some hr (by simp) (fun k hk => by
    rcases List.mem_cons.1 hk with rfl | hk
    · exact h1
    · obtain rfl : k = j := by simpa using hk
      exact h2)
end
theorem wp_app {op : Oper} {a : Act} {K : Act → World → Prop} {Q : Exit → Act → World → Prop} {w w' : World} {v v1 v2 : Value} {t : TypeId} (s x : Operand)
    (ho : op.op = .call { callee := .builtin .append, args := #[s, x], argTypes := #[t, t] }) (hty : op.type = t) (hs : a.eval s = v1) (hx : a.eval x = v2) (hrun : Hid ((Builtin.append_ #[t, t] t #[v1, v2]).run Tryz.prog w = .ok v w'))
    (h : K (a.put op.dst v) w') : Oper.wp Tryz.prog op a w K Q := by
  have hr := hrun.out
  unfold Oper.wp
  simp [execOp, ho, resolve, invoke, builtin, hs, hx, hty, hr, Result.andThen]
  exact h
/- what Put comes to -/
def ptL (l : List Cm) (x : Cm) : List Cm := if plc l x.i0 x.i1 x.i2 < l.length then l else if 4096 ≤ l.length then [] else l ++ [x]
def ptK (l : List Cm) (x : Cm) : Int := if plc l x.i0 x.i1 x.i2 < l.length then (plc l x.i0 x.i1 x.i2 : Int) + 1 else if 4096 ≤ l.length then 0 else (l.length : Int) + 1
def ptE (l : List Cm) (x : Cm) : Int := if plc l x.i0 x.i1 x.i2 < l.length then 0 else if 4096 ≤ l.length then 10 else 0
def erN (E : Nat → Addr) (k : Int) (v : Value) : Prop := (k = 0 ∧ v = .nilIface) ∨ (k = 10 ∧ v = er (E 1))
def PutR (w w' : World) (E : Nat → Addr) (l : List Cm) (x : Cm) (a : Option Addr) (n c : Nat) (k : Int) (v : Value) : Prop :=
  k = ptK l x ∧ erN E (ptE l x) v ∧ ∃ Y, led Y = ptL l x ∧ Oc w' w.heap.size a n c Y ∧ Below w.heap.size w w'
theorem Oc.nil0 (w : World) (lo : Nat) : Oc w lo none 0 0 [] := ⟨World.ownsRow_nil w lo 29 18, by omega, (fun x hx => by cases hx), (fun x hx => by cases hx)⟩
theorem put_any {w : World} {lo lo2 : Nat} {a : Option Addr} {n c : Nat} {X : List Cx} {A : Array Value} {x : Cx} {M : Nat} {E : Nat → Addr} (hE : Hid (Sent w M E)) (hM : 2 ≤ M) (hA : Hid (Cms w lo a n X)) (hX : Hid (A = (encX x).toArray)) (hP : Hid (Irow w lo2 x.pa x.pn x.cm.ps)) (hz : Hid (x.pa = none → x.pc = 0)) (hT : Hid (x.cm.bu.size ≤ 281474976710656 ∧ x.cm.ke.size ≤ 281474976710656 ∧ x.cm.et.size ≤ 281474976710656)) :
    Calls Tryz.prog 11 #[.slice a n c, .agg A] w fun e w' => ∃ a' n' c' k v, e = .returned (.tuple #[.slice a' n' c', .int .i64 k, v]) ∧ Hid (PutR w w' E (led X) x.cm a' n' c' k v) := by
  have ln : n = (led X).length := by rw [led_len]; exact hA.out.len
  by_cases h1 : plc (led X) x.cm.i0 x.cm.i1 x.cm.i2 < (led X).length
  · refine (put_there hA hX rfl (by rw [ln]; exact h1)).mono ?_
    rintro e w' ⟨a', c', rfl, H⟩
    refine ⟨a', n, c', _, _, rfl, ?_⟩
    obtain ⟨Y, h2, h3, h4⟩ := H.out
    exact ⟨by unfold ptK; rw [if_pos h1], .inl ⟨by unfold ptE; rw [if_pos h1], rfl⟩, Y, by unfold ptL; rw [if_pos h1]; exact h2, h3, h4⟩
  · have h0 : plc (led X) x.cm.i0 x.cm.i1 x.cm.i2 = n := by have := plc_le (led X) x.cm.i0 x.cm.i1 x.cm.i2; omega
    by_cases h2 : 4096 ≤ n
    · have h2' : 4096 ≤ (led X).length := by omega
      refine (put_full hE hM hA hX h0 h2).mono ?_
      rintro e w' ⟨rfl, H⟩
      exact ⟨none, 0, 0, 0, _, rfl, by unfold ptK; rw [if_neg h1, if_pos h2'], .inr ⟨by unfold ptE; rw [if_neg h1, if_pos h2'], rfl⟩, [], by unfold ptL; rw [if_neg h1, if_pos h2']; rfl, Oc.nil0 _ _, H.out⟩
    · have h2' : ¬ 4096 ≤ (led X).length := by omega
      refine (put_new hA hX hP hz hT h0 (by omega)).mono ?_
      rintro e w' ⟨a', c', rfl, H⟩
      refine ⟨a', n + 1, c', _, _, rfl, ?_⟩
      obtain ⟨Y, h3, h4, h5⟩ := H.out
      exact ⟨by unfold ptK; rw [if_neg h1, if_neg h2', ← ln], .inl ⟨by unfold ptE; rw [if_neg h1, if_neg h2'], rfl⟩, Y, by unfold ptL; rw [if_neg h1, if_neg h2']; exact h3, h4, h5⟩
/- the document's Put, where it puts behind -/
theorem rput_end {w0 wd W : World} {lo lo2 : Nat} {ya : Option Addr} {n yc p : Nat} {l : List Cm} {Y : List Cx} {x : Cx} (y1 : led Y = l) (y2 : Oc W lo ya n yc Y) (kp : W.heap[p]? = some (.cells (encX x).toArray 29 (0, 0))) (hI : Irow w0 lo2 x.pa x.pn x.cm.ps) (hz : x.pa = none → x.pc = 0) (hT : x.cm.bu.size ≤ 281474976710656 ∧ x.cm.ke.size ≤ 281474976710656 ∧ x.cm.et.size ≤ 281474976710656) (hn : n + 1 ≤ 764877654082) (hlo : wd.heap.size ≤ lo) (hb : Below wd.heap.size wd W) (hd : Below w0.heap.size w0 wd) :
    ∃ a9 c9 w9, Hid ((Builtin.append_ #[22, 22] 22 #[.slice ya n yc, .slice (some ⟨p, 0, none⟩) 1 1]).run Tryz.prog W = .ok (.slice a9 (n + 1) c9) w9) ∧ Hid (∃ Z, led Z = l ++ [x.cm] ∧ Cms w9 0 a9 (n + 1) Z ∧ Below w0.heap.size w0 w9) := by
  obtain ⟨a9, c9, w9, AR0, OR0, GR0⟩ := app_cm (c := 1) (X := [x]) (a := some ⟨p, 0, none⟩) (n := 1) (B := 0) (rown_mono y2.row (Nat.zero_le _)) rfl (.inr ⟨p, 0, rfl, by have := range_blk kp; simpa [flat] using this⟩) (by simp) (by omega) (Nat.zero_le _)
  rw [ownBlock_slice] at GR0
  have nb : ∀ q, q < W.heap.size → blkOf ya ≠ some q → w9.heap[q]? = W.heap[q]? := fun q h1 h2 => GR0.block q h1 (fun e => h2 e.symm)
  have s0 : w0.heap.size ≤ W.heap.size := Nat.le_trans hd.size hb.size
  have B9 : Below w0.heap.size w0 w9 := by
    refine (hd.trans (hb.mono hd.size)).trans (grown_below GR0 s0 (fun q e => ?_))
    have := (y2.row.lt q (by rw [ownBlock_slice]; exact e)).1
    have := hd.size
    omega
  refine ⟨a9, c9, w9, AR0, Y ++ [x], by rw [← y1]; simp [led], ⟨?_, hn, ?_, fun z hz' => ?_, fun z hz' => ?_⟩, B9⟩
  · rw [List.length_append, ← y2.len]; rfl
  · rcases rown_at OR0 (by omega) with ⟨g, rfl, h2, h3, _⟩
    refine .inr ⟨g, 0, rfl, Nat.zero_le _, h3, fun j v hv => ?_⟩
    have hj := (List.getElem?_eq_some_iff.1 hv).1
    rw [flat_len, List.length_append, ← y2.len] at hj
    rw [Nat.zero_add, OR0.cellAt j hj]
    exact hv
  · rcases List.mem_append.1 hz' with h | h
    · have h3 := (y2.ps z h).1
      have h4 : w9.ownsRow lo 3 1 (.slice z.pa z.pn z.pc) z.pn (z.cm.ps.map iv) := rown_bel h3 (fun q e => nb q (h3.lt q e).2 (fun e2 => rown_ne h3 y2.row (by decide) e (by rw [ownBlock_slice]; exact e2)))
      exact ⟨(irow_own h4 (y2.ps z h).2).mono (Nat.zero_le _), rown_cap0 h4⟩
    · obtain rfl := List.mem_singleton.1 h
      exact ⟨(hI.below B9).mono (Nat.zero_le _), hz⟩
  · rcases List.mem_append.1 hz' with h | h
    · exact y2.st z h
    · obtain rfl := List.mem_singleton.1 h
      exact hT
def RPutR (w w' : World) (l : List Cm) (x : Cm) (a : Option Addr) (n : Nat) (k e : Int) : Prop :=
  k = ptK l x ∧ e = ptE l x ∧ ∃ Y, led Y = ptL l x ∧ Cms w' 0 a n Y ∧ Below w.heap.size w w'
section
variable {w : World} {lo lo2 : Nat} {a : Option Addr} {n c : Nat} {X : List Cx} {A : Array Value} {x : Cx}
set_option maxHeartbeats 8000000 in
theorem rput_new (hA : Hid (Cms w lo a n X)) (zA : Hid (a = none → c = 0)) (hX : Hid (A = (encX x).toArray)) (hIX : Hid (Irow w lo2 x.pa x.pn x.cm.ps)) (zX : Hid (x.pa = none → x.pc = 0)) (hT : Hid (x.cm.bu.size ≤ 281474976710656 ∧ x.cm.ke.size ≤ 281474976710656 ∧ x.cm.et.size ≤ 281474976710656)) (hp : Hid (plr (led X) x.cm.i0 x.cm.i1 x.cm.i2 = 0)) (hn : n < 4096) :
    Calls Tryz.prog 12 #[.slice a n c, .agg A] w fun e w' => ∃ a' c', e = .returned (.tuple #[.slice a' (n + 1) c', .int .i64 ((n : Int) + 1), .int .i64 0]) ∧ Hid (∃ Z, led Z = led X ++ [x.cm] ∧ Cms w' 0 a' (n + 1) Z ∧ Below w.heap.size w w') := by
  have hsz := hA.out.sz
  have i1 : ¬ ((4096 : Int) ≤ (n : Int)) := by omega
  have i2 : (n : Int) < 4096 := by omega
  have a18 : A.size = 18 := encX_sz hX.out
  obtain ⟨w1, Hw1⟩ : ∃ w1, Hid (w.alloc (.cells A 29) = w1) := ⟨_, rfl⟩
  obtain ⟨g, Hg⟩ : ∃ g, Hid (w.heap.size = g) := ⟨_, rfl⟩
  have B1 : Hid (Below w.heap.size w w1) := by rw [← Hw1.out]; exact alloc1 w _
  have k1 : Hid (w1.heap[g]? = some (.cells A 29 (0, 0))) := by rw [← Hw1.out, ← Hg.out]; exact heap_alloc_new w _
  have A1 : Hid (Cms w1 lo a n X) := hA.out.below B1.out
  have c1 : w1.cell? ⟨g, 1, none⟩ = some (.int .i64 x.cm.i0) := cell_arr k1.out (by rw [hX.out]; rfl)
  have c2 : w1.cell? ⟨g, 2, none⟩ = some (.int .i64 x.cm.i1) := cell_arr k1.out (by rw [hX.out]; rfl)
  have c3 : w1.cell? ⟨g, 3, none⟩ = some (.int .i64 x.cm.i2) := cell_arr k1.out (by rw [hX.out]; rfl)
  go_enter Tryz.func12, Tryz.ntmps12
  go_upto_region 1 with (fail)
  rw [Hw1.out, Hg.out]
  clear Hw1
  have FD : Hid (Array.foldl (fun cs (x : Value × Nat) => cs.setIfInBounds x.snd x.fst) #[.int .i64 0, .int .i64 0, .int .i64 0, .int .i64 0, .string ⟨#[]⟩, .string ⟨#[]⟩, .int .i64 0, .int .i64 0, .int .i64 0, .int .i64 0, .int .i64 0, .int .i64 0, .int .i64 0, .string ⟨#[]⟩, .int .i64 0, .slice none 0 0, .int .i64 0, .int .i64 0] A.zipIdx 0 18 = A) := fold18 hX.out
  go_upto_region 6 with (go_at_call 16; refine (refplace_n A1).mono ?_; rintro e w2 ⟨rfl, H2⟩; rw [hp.out])
  obtain ⟨wd, Hwd⟩ : ∃ wd, Hid (w2.drew = wd) := ⟨_, rfl⟩
  have BD : Hid (Below w.heap.size w wd) := by rw [← Hwd.out]; exact (B1.out.trans (H2.out.mono B1.out.size)).drew
  have AD : Hid (Cms wd lo a n X) := hA.out.below BD.out
  have KD : Hid (wd.heap[g]? = some (.cells A 29 (0, 0))) := by rw [← Hwd.out]; exact (H2.out.block g (Array.getElem?_eq_some_iff.1 k1.out).1).trans k1.out
  clear H2 A1 B1 k1 Hg c1 c2 c3
  have wq : IntKind.i64.wrap ((n : Int) + 1) = (n : Int) + 1 := by rw [IntKind.wrap_i64]; omega
  refine wp_region_till (S := tillP 4 (fun W => W.heap[g]? = some (.cells A 29 (0, 0)))) (by kernel_rfl) (.inr (by rw [Hwd.out]; exact KD.out)) (fun hS => ?_)
  rw [Hwd.out] at hS ⊢
  clear Hwd
  refine till_take (i := 0) (v := .slice a n c) rfl (by kernel_rfl) (by kernel_rfl) (by kernel_rfl) (fun _ _ _ h => h) (fun L w => tillP_set (by decide)) (Or.inl ⟨by rfl, fun w => by go_simp⟩) hS (fun hSb => ?_)
  simp only [List.getElem_toArray, List.getElem_cons_zero, List.getElem_cons_succ, Act.put, List.setIfInBounds_toArray, List.set_cons_zero, List.set_cons_succ]
  clear hS
  refine till_take (i := 5) (v := .slice a n c) rfl (by kernel_rfl) (by kernel_rfl) (by kernel_rfl) (fun _ _ _ h => h) (fun L w => tillP_set (by decide)) (Or.inl ⟨by rfl, fun w => by go_simp⟩) hSb (fun hS => ?_)
  simp only [List.getElem_toArray, List.getElem_cons_zero, List.getElem_cons_succ, Act.put, List.setIfInBounds_toArray, List.set_cons_zero, List.set_cons_succ]
  clear hSb
  refine till_take (i := 6) (v := .int .i64 (n : Int)) rfl (by kernel_rfl) (by kernel_rfl) (by kernel_rfl) (fun _ _ _ h => h) (fun L w => tillP_set (by decide)) (Or.inl ⟨by rfl, fun w => by go_simp⟩) hS (fun hSb => ?_)
  simp only [List.getElem_toArray, List.getElem_cons_zero, List.getElem_cons_succ, Act.put, List.setIfInBounds_toArray, List.set_cons_zero, List.set_cons_succ]
  clear hS
  refine till_take (i := 7) (v := .int .i64 ((n : Int) + 1)) rfl (by kernel_rfl) (by kernel_rfl) (by kernel_rfl) (fun _ _ _ h => h) (fun L w => tillP_set (by decide)) (Or.inl ⟨by rfl, fun w => by go_simp⟩) hSb (fun hS => ?_)
  simp only [List.getElem_toArray, List.getElem_cons_zero, List.getElem_cons_succ, Act.put, List.setIfInBounds_toArray, List.set_cons_zero, List.set_cons_succ]
  clear hSb
  refine till_readc (i := 2) (cs := [3, 4]) (v := .agg A) (T := fun W => W.heap[g]? = some (.cells A 29 (0, 0))) rfl (by kernel_rfl) (by kernel_rfl) (by kernel_rfl) (by kernel_rfl) (by kernel_rfl) (fun _ _ _ h => h) (fun L w => tillP_set (by decide)) (fun L w h1 h2 => tillP_out (h1 4 (by simp)) h2) (yl_any (by rfl) (by rfl) (by rfl) (fun W h => run_loadVar_row W g 29 29 A (0, 0) _ h Tryz.underlying29 rfl (info29 a18))) hS (fun hSb => ?_)
  simp only [List.getElem_toArray, List.getElem_cons_zero, List.getElem_cons_succ, Act.put, List.setIfInBounds_toArray, List.set_cons_zero, List.set_cons_succ]
  clear hS
  refine till_two (i := 1) (j := 3) (by kernel_rfl) ?_ ?_
  · refine ⟨_, rfl, fun K hK => ?_⟩
    simp only [List.getElem_toArray, List.getElem_cons_zero, List.getElem_cons_succ]
    rw [if_pos (by rfl)]
    go_simp
    go_wp2_with (go_at_call 10; refine (copy_n AD zA).mono ?_; rintro e w5 ⟨ya, yc, rfl, H5⟩)
    have B5 : Hid (Below wd.heap.size wd w5) := by obtain ⟨Y, y1, y2, y3⟩ := H5.out; exact y3
    refine hK.out _ _ (.inr ((B5.out.block g (Array.getElem?_eq_some_iff.1 KD.out).1).trans KD.out)) (fun hS => ?_)
    clear hK K
    try simp only [List.getElem_toArray, List.getElem_cons_zero, List.getElem_cons_succ, Act.put, List.setIfInBounds_toArray, List.set_cons_zero, List.set_cons_succ]
    clear hSb
    refine till_one (i := 3) (by kernel_rfl) rfl (fun K hK => ?_)
    simp only [List.getElem_toArray, List.getElem_cons_zero, List.getElem_cons_succ]
    rw [if_pos (by rfl)]
    go_simp
    obtain ⟨p, Hp⟩ : ∃ p, Hid (w5.heap.size = p) := ⟨_, rfl⟩
    obtain ⟨w6, Hw6⟩ : ∃ w6, Hid (w5.alloc (.cells A 29) = w6) := ⟨_, rfl⟩
    have kp : w6.heap[p]? = some (.cells (encX x).toArray 29 (0, 0)) := by rw [← Hw6.out, ← Hp.out, ← hX.out]; exact heap_alloc_new w5 _
    have B6 : Hid (Below w5.heap.size w5 w6) := by rw [← Hw6.out]; exact alloc1 w5 _
    obtain ⟨Y, y1, y2, y3⟩ := H5.out
    obtain ⟨a9, c9, w9, ap_, FIN⟩ := rput_end (lo := wd.heap.size) y1 (y2.below B6.out) kp hIX.out zX.out hT.out (by omega) (Nat.le_refl _) (y3.trans (B6.out.mono y3.size)) BD.out
    rw [FD.out, Hw6.out, Hp.out]
    refine hK.out _ _ (.inr ((B6.out.block g (Nat.lt_of_lt_of_le (Array.getElem?_eq_some_iff.1 KD.out).1 B5.out.size)).trans ((B5.out.block g (Array.getElem?_eq_some_iff.1 KD.out).1).trans KD.out))) (fun hSb => ?_)
    clear hK K
    try simp only [List.getElem_toArray, List.getElem_cons_zero, List.getElem_cons_succ, Act.put, List.setIfInBounds_toArray, List.set_cons_zero, List.set_cons_succ]
    clear hS
    refine till_one (i := 4) (by kernel_rfl) rfl (fun K hK => ?_)
    simp only [List.getElem_toArray, List.getElem_cons_zero, List.getElem_cons_succ]
    rw [if_pos (by rfl)]
    refine wp_app (.tmp 20) (.tmp 22) (by rfl) (by rfl) (by rfl) (by rfl) ap_ ?_
    refine hK.out _ _ (.inl (by rfl)) (fun hS => ?_)
    clear hK K
    try simp only [List.getElem_toArray, List.getElem_cons_zero, List.getElem_cons_succ, Act.put, List.setIfInBounds_toArray, List.set_cons_zero, List.set_cons_succ]
    clear hSb
    refine till_take (i := 8) (v := .slice a9 (n + 1) c9) rfl (by kernel_rfl) (by kernel_rfl) (by kernel_rfl) (fun _ _ _ h => h) (fun L w => tillP_set (by decide)) (Or.inl ⟨by rfl, fun w => by go_simp⟩) hS (fun hSb => ?_)
    simp only [List.getElem_toArray, List.getElem_cons_zero, List.getElem_cons_succ, Act.put, List.setIfInBounds_toArray, List.set_cons_zero, List.set_cons_succ]
    clear hS
    refine till_take (i := 9) (v := .int .i64 ((n : Int) + 1)) rfl (by kernel_rfl) (by kernel_rfl) (by kernel_rfl) (fun _ _ _ h => h) (fun L w => tillP_set (by decide)) (Or.inl ⟨by rfl, fun w => by go_simp⟩) hSb (fun hS => ?_)
    simp only [List.getElem_toArray, List.getElem_cons_zero, List.getElem_cons_succ, Act.put, List.setIfInBounds_toArray, List.set_cons_zero, List.set_cons_succ]
    clear hSb
    refine till_take (i := 10) (v := .int .i64 0) rfl (by kernel_rfl) (by kernel_rfl) (by kernel_rfl) (fun _ _ _ h => h) (fun L w => tillP_set (by decide)) (Or.inl ⟨by rfl, fun w => by go_simp⟩) hS (fun hSb => ?_)
    simp only [List.getElem_toArray, List.getElem_cons_zero, List.getElem_cons_succ, Act.put, List.setIfInBounds_toArray, List.set_cons_zero, List.set_cons_succ]
    clear hS
    refine till_done (by kernel_rfl) ?_ _
    clear hSb
    show (Exit.then _ _) .normal _ _
    go_wp2
    refine bodyPost_ret (results_tmp3 rfl _ _ _) rfl ?_
    exact ⟨a9, c9, rfl, FIN.out⟩
  · refine ⟨_, rfl, fun K hK => ?_⟩
    simp only [List.getElem_toArray, List.getElem_cons_zero, List.getElem_cons_succ]
    rw [if_pos (by rfl)]
    go_simp
    obtain ⟨p, Hp⟩ : ∃ p, Hid (wd.heap.size = p) := ⟨_, rfl⟩
    obtain ⟨w4, Hw4⟩ : ∃ w4, Hid (wd.alloc (.cells A 29) = w4) := ⟨_, rfl⟩
    have k4 : w4.heap[p]? = some (.cells (encX x).toArray 29 (0, 0)) := by rw [← Hw4.out, ← Hp.out, ← hX.out]; exact heap_alloc_new wd _
    have B4 : Hid (Below wd.heap.size wd w4) := by rw [← Hw4.out]; exact alloc1 wd _
    have A4 : Hid (Cms w4 lo a n X) := AD.out.below B4.out
    rw [FD.out, Hw4.out, Hp.out]
    refine hK.out _ _ (.inr ((B4.out.block g (Array.getElem?_eq_some_iff.1 KD.out).1).trans KD.out)) (fun hS => ?_)
    clear hK K
    try simp only [List.getElem_toArray, List.getElem_cons_zero, List.getElem_cons_succ, Act.put, List.setIfInBounds_toArray, List.set_cons_zero, List.set_cons_succ]
    clear hSb
    refine till_one (i := 1) (by kernel_rfl) rfl (fun K hK => ?_)
    simp only [List.getElem_toArray, List.getElem_cons_zero, List.getElem_cons_succ]
    rw [if_pos (by rfl)]
    go_simp
    go_wp2_with (go_at_call 10; refine (copy_n A4 zA).mono ?_; rintro e w5 ⟨ya, yc, rfl, H5⟩)
    obtain ⟨Y, y1, y2, y3⟩ := H5.out
    have kp : w5.heap[p]? = some (.cells (encX x).toArray 29 (0, 0)) := (y3.block p (Array.getElem?_eq_some_iff.1 k4).1).trans k4
    obtain ⟨a9, c9, w9, ap_, FIN⟩ := rput_end (lo := w4.heap.size) y1 y2 kp hIX.out zX.out hT.out (by omega) B4.out.size (B4.out.trans (y3.mono B4.out.size)) BD.out
    refine hK.out _ _ (.inr ((y3.block g (Nat.lt_of_lt_of_le (Array.getElem?_eq_some_iff.1 KD.out).1 B4.out.size)).trans ((B4.out.block g (Array.getElem?_eq_some_iff.1 KD.out).1).trans KD.out))) (fun hSb => ?_)
    clear hK K
    try simp only [List.getElem_toArray, List.getElem_cons_zero, List.getElem_cons_succ, Act.put, List.setIfInBounds_toArray, List.set_cons_zero, List.set_cons_succ]
    clear hS
    refine till_one (i := 4) (by kernel_rfl) rfl (fun K hK => ?_)
    simp only [List.getElem_toArray, List.getElem_cons_zero, List.getElem_cons_succ]
    rw [if_pos (by rfl)]
    refine wp_app (.tmp 20) (.tmp 22) (by rfl) (by rfl) (by rfl) (by rfl) ap_ ?_
    refine hK.out _ _ (.inl (by rfl)) (fun hS => ?_)
    clear hK K
    try simp only [List.getElem_toArray, List.getElem_cons_zero, List.getElem_cons_succ, Act.put, List.setIfInBounds_toArray, List.set_cons_zero, List.set_cons_succ]
    clear hSb
    refine till_take (i := 8) (v := .slice a9 (n + 1) c9) rfl (by kernel_rfl) (by kernel_rfl) (by kernel_rfl) (fun _ _ _ h => h) (fun L w => tillP_set (by decide)) (Or.inl ⟨by rfl, fun w => by go_simp⟩) hS (fun hSb => ?_)
    simp only [List.getElem_toArray, List.getElem_cons_zero, List.getElem_cons_succ, Act.put, List.setIfInBounds_toArray, List.set_cons_zero, List.set_cons_succ]
    clear hS
    refine till_take (i := 9) (v := .int .i64 ((n : Int) + 1)) rfl (by kernel_rfl) (by kernel_rfl) (by kernel_rfl) (fun _ _ _ h => h) (fun L w => tillP_set (by decide)) (Or.inl ⟨by rfl, fun w => by go_simp⟩) hSb (fun hS => ?_)
    simp only [List.getElem_toArray, List.getElem_cons_zero, List.getElem_cons_succ, Act.put, List.setIfInBounds_toArray, List.set_cons_zero, List.set_cons_succ]
    clear hSb
    refine till_take (i := 10) (v := .int .i64 0) rfl (by kernel_rfl) (by kernel_rfl) (by kernel_rfl) (fun _ _ _ h => h) (fun L w => tillP_set (by decide)) (Or.inl ⟨by rfl, fun w => by go_simp⟩) hS (fun hSb => ?_)
    simp only [List.getElem_toArray, List.getElem_cons_zero, List.getElem_cons_succ, Act.put, List.setIfInBounds_toArray, List.set_cons_zero, List.set_cons_succ]
    clear hS
    refine till_done (by kernel_rfl) ?_ _
    clear hSb
    show (Exit.then _ _) .normal _ _
    go_wp2
    refine bodyPost_ret (results_tmp3 rfl _ _ _) rfl ?_
    exact ⟨a9, c9, rfl, FIN.out⟩
set_option maxHeartbeats 4000000 in
theorem rput_there {p : Nat} (hA : Hid (Cms w lo a n X)) (hX : Hid (A = (encX x).toArray)) (hp : Hid (plr (led X) x.cm.i0 x.cm.i1 x.cm.i2 = (p : Int) + 1)) :
    Calls Tryz.prog 12 #[.slice a n c, .agg A] w fun e w' => e = .returned (.tuple #[.slice a n c, .int .i64 ((p : Int) + 1), .int .i64 0]) ∧ Hid (Below w.heap.size w w') := by
  have hsz := hA.out.sz
  have i1 : (0 : Int) < (p : Int) + 1 := by omega
  have a18 : A.size = 18 := encX_sz hX.out
  obtain ⟨w1, Hw1⟩ : ∃ w1, Hid (w.alloc (.cells A 29) = w1) := ⟨_, rfl⟩
  obtain ⟨g, Hg⟩ : ∃ g, Hid (w.heap.size = g) := ⟨_, rfl⟩
  have B1 : Hid (Below w.heap.size w w1) := by rw [← Hw1.out]; exact alloc1 w _
  have k1 : Hid (w1.heap[g]? = some (.cells A 29 (0, 0))) := by rw [← Hw1.out, ← Hg.out]; exact heap_alloc_new w _
  have A1 : Hid (Cms w1 lo a n X) := hA.out.below B1.out
  have c1 : w1.cell? ⟨g, 1, none⟩ = some (.int .i64 x.cm.i0) := cell_arr k1.out (by rw [hX.out]; rfl)
  have c2 : w1.cell? ⟨g, 2, none⟩ = some (.int .i64 x.cm.i1) := cell_arr k1.out (by rw [hX.out]; rfl)
  have c3 : w1.cell? ⟨g, 3, none⟩ = some (.int .i64 x.cm.i2) := cell_arr k1.out (by rw [hX.out]; rfl)
  go_enter Tryz.func12, Tryz.ntmps12
  go_upto_region 1 with (fail)
  rw [Hw1.out, Hg.out]
  clear Hw1
  go_wp2_with (go_at_call 16; refine (refplace_n A1).mono ?_; rintro e w2 ⟨rfl, H2⟩; rw [hp.out])
  refine bodyPost_ret (results_tmp3 rfl _ _ _) rfl ?_
  exact ⟨rfl, B1.out.trans (H2.out.mono B1.out.size)⟩
set_option maxHeartbeats 4000000 in
theorem rput_full (hA : Hid (Cms w lo a n X)) (hX : Hid (A = (encX x).toArray)) (hp : Hid (plr (led X) x.cm.i0 x.cm.i1 x.cm.i2 = 0)) (hn : 4096 ≤ n) :
    Calls Tryz.prog 12 #[.slice a n c, .agg A] w fun e w' => e = .returned (.tuple #[.slice none 0 0, .int .i64 0, .int .i64 10]) ∧ Hid (Below w.heap.size w w') := by
  have hsz := hA.out.sz
  have i1 : (4096 : Int) ≤ (n : Int) := by omega
  have a18 : A.size = 18 := encX_sz hX.out
  obtain ⟨w1, Hw1⟩ : ∃ w1, Hid (w.alloc (.cells A 29) = w1) := ⟨_, rfl⟩
  obtain ⟨g, Hg⟩ : ∃ g, Hid (w.heap.size = g) := ⟨_, rfl⟩
  have B1 : Hid (Below w.heap.size w w1) := by rw [← Hw1.out]; exact alloc1 w _
  have k1 : Hid (w1.heap[g]? = some (.cells A 29 (0, 0))) := by rw [← Hw1.out, ← Hg.out]; exact heap_alloc_new w _
  have A1 : Hid (Cms w1 lo a n X) := hA.out.below B1.out
  have c1 : w1.cell? ⟨g, 1, none⟩ = some (.int .i64 x.cm.i0) := cell_arr k1.out (by rw [hX.out]; rfl)
  have c2 : w1.cell? ⟨g, 2, none⟩ = some (.int .i64 x.cm.i1) := cell_arr k1.out (by rw [hX.out]; rfl)
  have c3 : w1.cell? ⟨g, 3, none⟩ = some (.int .i64 x.cm.i2) := cell_arr k1.out (by rw [hX.out]; rfl)
  go_enter Tryz.func12, Tryz.ntmps12
  go_upto_region 1 with (fail)
  rw [Hw1.out, Hg.out]
  clear Hw1
  go_wp2_with (go_at_call 16; refine (refplace_n A1).mono ?_; rintro e w2 ⟨rfl, H2⟩; rw [hp.out])
  refine bodyPost_ret (results_tmp3 rfl _ _ _) rfl ?_
  exact ⟨rfl, B1.out.trans (H2.out.mono B1.out.size)⟩
theorem rput_any (hA : Hid (Cms w 0 a n X)) (zA : Hid (a = none → c = 0)) (hX : Hid (A = (encX x).toArray)) (hIX : Hid (Irow w lo2 x.pa x.pn x.cm.ps)) (zX : Hid (x.pa = none → x.pc = 0)) (hT : Hid (x.cm.bu.size ≤ 281474976710656 ∧ x.cm.ke.size ≤ 281474976710656 ∧ x.cm.et.size ≤ 281474976710656)) :
    Calls Tryz.prog 12 #[.slice a n c, .agg A] w fun e w' => ∃ a' n' c' k v, e = .returned (.tuple #[.slice a' n' c', .int .i64 k, .int .i64 v]) ∧ Hid (RPutR w w' (led X) x.cm a' n' k v) := by
  have ln : n = (led X).length := by rw [led_len]; exact hA.out.len
  by_cases h1 : plc (led X) x.cm.i0 x.cm.i1 x.cm.i2 < (led X).length
  · refine (rput_there (p := plc (led X) x.cm.i0 x.cm.i1 x.cm.i2) hA hX (by show _ = _; unfold plr; rw [if_pos h1])).mono ?_
    rintro e w' ⟨rfl, H⟩
    exact ⟨a, n, c, _, _, rfl, by unfold ptK; rw [if_pos h1], by unfold ptE; rw [if_pos h1], X, by unfold ptL; rw [if_pos h1], hA.out.below H.out, H.out⟩
  · have h0 : Hid (plr (led X) x.cm.i0 x.cm.i1 x.cm.i2 = 0) := by show _ = _; unfold plr; rw [if_neg h1]
    by_cases h2 : 4096 ≤ n
    · have h2' : 4096 ≤ (led X).length := by omega
      refine (rput_full hA hX h0 h2).mono ?_
      rintro e w' ⟨rfl, H⟩
      exact ⟨none, 0, 0, 0, _, rfl, by unfold ptK; rw [if_neg h1, if_pos h2'], by unfold ptE; rw [if_neg h1, if_pos h2'], [], by unfold ptL; rw [if_neg h1, if_pos h2']; rfl, Cms.nil _ _ _, H.out⟩
    · have h2' : ¬ 4096 ≤ (led X).length := by omega
      refine (rput_new hA zA hX hIX zX hT h0 (by omega)).mono ?_
      rintro e w' ⟨a', c', rfl, H⟩
      refine ⟨a', n + 1, c', _, _, rfl, ?_⟩
      obtain ⟨Y, h3, h4, h5⟩ := H.out
      exact ⟨by unfold ptK; rw [if_neg h1, if_neg h2', ← ln], by unfold ptE; rw [if_neg h1, if_neg h2'], Y, by unfold ptL; rw [if_neg h1, if_neg h2']; exact h3, h4, h5⟩
end
end Go.Proofs.YtfabnnbljkkihaaGreatDoor
