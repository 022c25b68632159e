/- Rows of commands; Same and Begins. -/
import Derived.Test.YtfabnnbljkkihaaGreatDoorAc
import Derived.Test.YtfabnnbljkkihaaGreatDoorOr
namespace Go.Proofs.YtfabnnbljkkihaaGreatDoor
open Go.ChangeShapes Go.WideShapes Go.ChangeAt Go.RowKit
set_option maxRecDepth 20000
set_option linter.unusedVariables false
set_option linter.unusedSimpArgs false
def flat (X : List Cx) : List Value := X.flatMap encX
theorem flat_app (l r : List Cx) : flat (l ++ r) = flat l ++ flat r := by simp [flat]
theorem flat_len (l : List Cx) : (flat l).length = l.length * 18 := by
  induction l with
  | nil => rfl
  | cons x l ih =>
    show (encX x ++ flat l).length = _
    rw [List.length_append, ih, List.length_cons, encX_len]
    omega
theorem flat_one (l : List Cx) : ∀ v ∈ flat l, v.oneCell' = true := fun v hv => by
  unfold flat at hv
  obtain ⟨x, _, h⟩ := List.mem_flatMap.1 hv
  exact encX_one x v h
theorem flat_cut (l : List Cx) {i : Nat} (hi : i < l.length) : flat l = flat (l.take i) ++ (encX l[i] ++ flat (l.drop (i + 1))) := by
  have e : l = l.take i ++ l[i] :: l.drop (i + 1) := by rw [List.getElem_cons_drop, List.take_append_drop]
  have h : flat l = flat (l.take i ++ l[i] :: l.drop (i + 1)) := by rw [← e]
  rw [h, flat_app]
  rfl
theorem flat_at (l : List Cx) {i : Nat} (hi : i < l.length) {j : Nat} (hj : j < 18) : (flat l)[i * 18 + j]? = (encX l[i])[j]? := by
  have hl : (flat (l.take i)).length = i * 18 := by rw [flat_len, List.length_take, Nat.min_eq_left (by omega)]
  rw [flat_cut l hi, List.getElem?_append_right (by omega), hl, Nat.add_sub_cancel_left, List.getElem?_append_left (by rw [encX_len]; exact hj)]
theorem flat_set (l : List Cx) {i : Nat} (hi : i < l.length) (y : Cx) {j : Nat} (hj : j < 18) {v : Value} (h : (encX l[i]).set j v = encX y) : (flat l).set (i * 18 + j) v = flat (l.set i y) := by
  have hl : (flat (l.take i)).length = i * 18 := by rw [flat_len, List.length_take, Nat.min_eq_left (by omega)]
  rw [flat_cut l hi, List.set_append_right _ _ (by omega), hl, Nat.add_sub_cancel_left, List.set_append_left _ _ (by rw [encX_len]; exact hj), h]
  rw [List.set_eq_take_append_cons_drop, if_pos hi, flat_app]
  rfl
/- a ledger, for reading: empty, or a row in a block from lo on, whose Parts lie from lo on too -/
structure Cms (w : World) (lo : Nat) (a : Option Addr) (n : Nat) (X : List Cx) : Prop where
  len : n = X.length
  sz : n ≤ 764877654082
  row : n = 0 ∨ ∃ b off, a = some ⟨b, off, none⟩ ∧ lo ≤ b ∧ b < w.heap.size ∧ w.rangeAt b off (flat X)
  ps : ∀ x ∈ X, Irow w lo x.pa x.pn x.cm.ps ∧ (x.pa = none → x.pc = 0)
  st : ∀ x ∈ X, x.cm.bu.size ≤ 281474976710656 ∧ x.cm.ke.size ≤ 281474976710656 ∧ x.cm.et.size ≤ 281474976710656
theorem Cms.keep {w w' : World} {lo : Nat} {a : Option Addr} {n : Nat} {X : List Cx} (h : Cms w lo a n X) (hs : w.heap.size ≤ w'.heap.size) (hb : ∀ q, lo ≤ q → q < w.heap.size → w'.heap[q]? = w.heap[q]?) : Cms w' lo a n X := by
  refine ⟨h.len, h.sz, h.row.imp id ?_, fun x hx => ⟨(h.ps x hx).1.keep hs hb, (h.ps x hx).2⟩, h.st⟩
  rintro ⟨b, off, h1, h2, h3, h4⟩
  exact ⟨b, off, h1, h2, Nat.lt_of_lt_of_le h3 hs, fun j v hv => (World.cell?_of_block (a := ⟨b, off + j, none⟩) (hb b h2 h3)).trans (h4 j v hv)⟩
theorem Cms.below {w w' : World} {lo : Nat} {a : Option Addr} {n : Nat} {X : List Cx} (h : Cms w lo a n X) (hb : Below w.heap.size w w') : Cms w' lo a n X := h.keep hb.size fun q _ hq => hb.block q hq
theorem Cms.ch {w w' : World} {lo : Nat} {a : Option Addr} {n : Nat} {X : List Cx} {S : Nat → Prop} (h : Cms w lo a n X) (hc : Ch w w' S) (hs : ∀ q, lo ≤ q → q < w.heap.size → ¬ S q) : Cms w' lo a n X := h.keep hc.size fun q h1 h2 => hc.block q h2 (hs q h1 h2)
theorem Cms.mono {w : World} {lo lo' : Nat} {a : Option Addr} {n : Nat} {X : List Cx} (h : Cms w lo a n X) (hl : lo' ≤ lo) : Cms w lo' a n X := by
  refine ⟨h.len, h.sz, h.row.imp id ?_, fun x hx => ⟨(h.ps x hx).1.mono hl, (h.ps x hx).2⟩, h.st⟩
  rintro ⟨b, off, h1, h2, h3⟩
  exact ⟨b, off, h1, Nat.le_trans hl h2, h3⟩
theorem Cms.nil (w : World) (lo : Nat) (a : Option Addr) : Cms w lo a 0 [] := ⟨rfl, by omega, .inl rfl, (fun x hx => by cases hx), (fun x hx => by cases hx)⟩
theorem range_sub {w : World} {b off : Nat} {l r s : List Value} {k : Nat} (h : w.rangeAt b off (l ++ (r ++ s))) (hk : l.length = k) : w.rangeAt b (off + k) r := by
  intro j v hv
  have hj := (List.getElem?_eq_some_iff.1 hv).1
  have h1 := h (k + j) v (by rw [List.getElem?_append_right (by omega), hk, Nat.add_sub_cancel_left, List.getElem?_append_left hj]; exact hv)
  rw [Nat.add_assoc]
  exact h1
theorem Cms.at_ {w : World} {lo : Nat} {a : Option Addr} {n : Nat} {X : List Cx} (h : Cms w lo a n X) {i : Nat} (hi : i < X.length) : ∃ b off, a = some ⟨b, off, none⟩ ∧ w.rangeAt b (off + i * 18) (encX X[i]) := by
  rcases h.row with h0 | ⟨b, off, h1, _, _, h4⟩
  · have := h.len; omega
  · refine ⟨b, off, h1, ?_⟩
    rw [flat_cut X hi] at h4
    exact range_sub h4 (by rw [flat_len, List.length_take, Nat.min_eq_left (by omega)])
theorem Cms.take {w : World} {lo : Nat} {a : Option Addr} {n : Nat} {X : List Cx} (h : Cms w lo a n X) {m : Nat} (hm : m ≤ n) : Cms w lo a m (X.take m) := by
  have hl := h.len
  refine ⟨by rw [List.length_take]; omega, Nat.le_trans hm h.sz, ?_, fun x hx => h.ps x (List.mem_of_mem_take hx), fun x hx => h.st x (List.mem_of_mem_take hx)⟩
  rcases h.row with h0 | ⟨b, off, h1, h2, h3, h4⟩
  · exact .inl (by omega)
  · refine .inr ⟨b, off, h1, h2, h3, fun j v hv => h4 j v ?_⟩
    have e : flat X = flat (X.take m) ++ flat (X.drop m) := by rw [← flat_app, List.take_append_drop]
    rw [e, List.getElem?_append_left (List.getElem?_eq_some_iff.1 hv).1]
    exact hv
theorem Below.range {w w' : World} {b off : Nat} {cs : List Value} (h : w.rangeAt b off cs) (hb : Below w.heap.size w w') : w'.rangeAt b off cs := fun j v hv => (hb.cell (p := ⟨b, off + j, none⟩) (cell_lt (h j v hv))).trans (h j v hv)
def led (X : List Cx) : List Cm := X.map Cx.cm
theorem led_at {X : List Cx} {i : Nat} (hi : i < X.length) : (led X)[i]'(by simpa [led] using hi) = X[i].cm := by simp [led]
theorem row81 : ∃ d, Tryz.prog.underlying 29 = some d ∧ d.isRow = true := ⟨_, Tryz.underlying29, rfl⟩
theorem sz81 (x : Cx) : (Tryz.prog.info? 29).map (·.size) = some (encX x).length := by rw [encX_len]; kernel_rfl
/- the two commands that are compared -/
structure Two (W : World) (b1 o1 b2 o2 : Nat) (x y : Cx) : Prop where
  p : W.rangeAt b1 o1 (encX x)
  q : W.rangeAt b2 o2 (encX y)
theorem y81 {ops : Array Oper} {S : World → Prop} {op : Oper} {a : Act} (hw : Region.wanted op (yielded ops a.tmps) = true) (t : Operand) (ho : op.op = .load 29 t) (b o : Nat) (hx : a.eval t = .pointer (some ⟨b, o, none⟩)) (x : Cx) (hS : ∀ w, S w → w.rangeAt b o (encX x)) : YieldsIf Tryz.prog ops S op (.agg (encX x).toArray) a := by
  obtain ⟨d, h1, h2⟩ := row81
  exact yieldsIf_load_mid hw 29 t ho b o hx (encX x) d hS h1 h2 (sz81 x)
set_option maxHeartbeats 4000000 in
theorem same_n {w : World} {lo lo2 : Nat} {a b : Option Addr} {n m c d : Nat} {X Y : List Cx} (hA : Hid (Cms w lo a n X)) (hB : Hid (Cms w lo2 b m Y)) :
    Calls Tryz.prog 13 #[.slice a n c, .slice b m d] w fun e w' => e = .returned (.bool (decide (led X = led Y))) ∧ Hid (Below w.heap.size w w') := by
  have hsz := hA.out.sz
  have hsz2 := hB.out.sz
  by_cases hnm : n = m
  · subst hnm
    have LL : Hid (X.length = n ∧ Y.length = n) := ⟨hA.out.len.symm, hB.out.len.symm⟩
    go_enter Tryz.func13, Tryz.ntmps13
    go_wp2
    go_loopw [13] (fun ti wr => ∃ k : Nat, k ≤ n ∧ ti = .int .i64 k ∧ Hid (∀ j, j < k → (led X)[j]? = (led Y)[j]?) ∧ Hid (Below w.heap.size w wr)) (fun ti _ => n - (intOf ti).toNat)
    case atStart => exact ⟨0, by omega, rfl, fun j hj => by omega, Below.refl _ _⟩
    case round =>
      obtain ⟨k, hk, rfl, HK, HB⟩ := hrel
      by_cases hlt : k < n
      · have i3 : (k : Int) < (n : Int) := by omega
        have kx : k < X.length := by rw [LL.out.1]; exact hlt
        have ky : k < Y.length := by rw [LL.out.2]; exact hlt
        obtain ⟨b1, o1, rfl, e1⟩ := (hA.out.below HB.out).at_ kx
        obtain ⟨b2, o2, rfl, e2⟩ := (hB.out.below HB.out).at_ ky
        obtain ⟨x, Hx⟩ : ∃ x, Hid (X[k] = x) := ⟨X[k], (rfl : X[k] = X[k])⟩
        obtain ⟨y, Hy⟩ : ∃ y, Hid (Y[k] = y) := ⟨Y[k], (rfl : Y[k] = Y[k])⟩
        rw [Hx.out] at e1
        rw [Hy.out] at e2
        have PX : Hid (Irow wr.drew lo x.pa x.pn x.cm.ps) := ((hA.out.below HB.out).ps x (by rw [← Hx.out]; exact List.getElem_mem kx)).1.below (Ch.drew wr (fun _ => False) |>.toBelow (Nat.le_refl _) (fun _ _ h => h))
        have PY : Hid (Irow wr.drew lo2 y.pa y.pn y.cm.ps) := ((hB.out.below HB.out).ps y (by rw [← Hy.out]; exact List.getElem_mem ky)).1.below (Ch.drew wr (fun _ => False) |>.toBelow (Nat.le_refl _) (fun _ _ h => h))
        have EX : Hid ((led X)[k]? = some x.cm) := by show _ = _; rw [← Hx.out]; simp [led, kx]
        have EY : Hid ((led Y)[k]? = some y.cm) := by show _ = _; rw [← Hy.out]; simp [led, ky]
        have K0 : Two wr.drew b1 (o1 + k * 18) b2 (o2 + k * 18) x y := ⟨e1, e2⟩
        clear e1 e2
        obtain ⟨r, Hr⟩ : ∃ r, Hid (decide (x.cm = y.cm) = r) := ⟨_, rfl⟩
        go_upto_region 6 with (fail)
        refine wp_region_till (S := fun L W => Two W b1 (o1 + k * 18) b2 (o2 + k * 18) x y) (by kernel_rfl) K0 (fun hS => ?_)
        clear K0
        refine till_take (i := 0) (v := .slice (some ⟨b1, o1, none⟩) n c) rfl (by kernel_rfl) (by kernel_rfl) (by kernel_rfl) (fun _ _ _ h => h) (fun L w => Iff.rfl) (Or.inl ⟨by rfl, fun w => by go_simp⟩) hS (fun hSb => ?_)
        simp only [List.getElem_toArray, List.getElem_cons_zero, List.getElem_cons_succ, Act.put, List.setIfInBounds_toArray, List.set_cons_zero, List.set_cons_succ]
        clear hS
        refine till_take (i := 1) (v := .int .i64 k) rfl (by kernel_rfl) (by kernel_rfl) (by kernel_rfl) (fun _ _ _ h => h) (fun L w => Iff.rfl) (Or.inl ⟨by rfl, fun w => by go_simp⟩) hSb (fun hS => ?_)
        simp only [List.getElem_toArray, List.getElem_cons_zero, List.getElem_cons_succ, Act.put, List.setIfInBounds_toArray, List.set_cons_zero, List.set_cons_succ]
        clear hSb
        refine till_take (i := 2) (v := .pointer (some ⟨b1, o1 + k * 18, none⟩)) rfl (by kernel_rfl) (by kernel_rfl) (by kernel_rfl) (fun _ _ _ h => h) (fun L w => Iff.rfl) (Or.inl ⟨by rfl, fun w => by go_simp⟩) hS (fun hSb => ?_)
        simp only [List.getElem_toArray, List.getElem_cons_zero, List.getElem_cons_succ, Act.put, List.setIfInBounds_toArray, List.set_cons_zero, List.set_cons_succ]
        clear hS
        refine till_read (i := 3) (c := 8) (v := .agg (encX x).toArray) (T := fun W => Two W b1 (o1 + k * 18) b2 (o2 + k * 18) x y) rfl rfl (by kernel_rfl) (by kernel_rfl) (by kernel_rfl) (by kernel_rfl) (by kernel_rfl) (fun _ _ _ h => h) (fun L w => Iff.rfl) (fun L w h1 h2 => h2) (y81 (by rfl) (.tmp 18) (by rfl) b1 (o1 + k * 18) (by rfl) x (fun w h => h.p)) hSb (fun hS => ?_)
        simp only [List.getElem_toArray, List.getElem_cons_zero, List.getElem_cons_succ, Act.put, List.setIfInBounds_toArray, List.set_cons_zero, List.set_cons_succ]
        clear hSb
        refine till_take (i := 4) (v := .slice (some ⟨b2, o2, none⟩) n d) rfl (by kernel_rfl) (by kernel_rfl) (by kernel_rfl) (fun _ _ _ h => h) (fun L w => Iff.rfl) (Or.inl ⟨by rfl, fun w => by go_simp⟩) hS (fun hSb => ?_)
        simp only [List.getElem_toArray, List.getElem_cons_zero, List.getElem_cons_succ, Act.put, List.setIfInBounds_toArray, List.set_cons_zero, List.set_cons_succ]
        clear hS
        refine till_take (i := 5) (v := .int .i64 k) rfl (by kernel_rfl) (by kernel_rfl) (by kernel_rfl) (fun _ _ _ h => h) (fun L w => Iff.rfl) (Or.inl ⟨by rfl, fun w => by go_simp⟩) hSb (fun hS => ?_)
        simp only [List.getElem_toArray, List.getElem_cons_zero, List.getElem_cons_succ, Act.put, List.setIfInBounds_toArray, List.set_cons_zero, List.set_cons_succ]
        clear hSb
        refine till_take (i := 6) (v := .pointer (some ⟨b2, o2 + k * 18, none⟩)) rfl (by kernel_rfl) (by kernel_rfl) (by kernel_rfl) (fun _ _ _ h => h) (fun L w => Iff.rfl) (Or.inl ⟨by rfl, fun w => by go_simp⟩) hS (fun hSb => ?_)
        simp only [List.getElem_toArray, List.getElem_cons_zero, List.getElem_cons_succ, Act.put, List.setIfInBounds_toArray, List.set_cons_zero, List.set_cons_succ]
        clear hS
        refine till_read (i := 7) (c := 8) (v := .agg (encX y).toArray) (T := fun W => Two W b1 (o1 + k * 18) b2 (o2 + k * 18) x y) rfl rfl (by kernel_rfl) (by kernel_rfl) (by kernel_rfl) (by kernel_rfl) (by kernel_rfl) (fun _ _ _ h => h) (fun L w => Iff.rfl) (fun L w h1 h2 => h2) (y81 (by rfl) (.tmp 22) (by rfl) b2 (o2 + k * 18) (by rfl) y (fun w h => h.q)) hSb (fun hS => ?_)
        simp only [List.getElem_toArray, List.getElem_cons_zero, List.getElem_cons_succ, Act.put, List.setIfInBounds_toArray, List.set_cons_zero, List.set_cons_succ]
        clear hSb
        refine till_one (i := 8) (by kernel_rfl) rfl (fun K hK => ?_)
        simp only [List.getElem_toArray, List.getElem_cons_zero, List.getElem_cons_succ]
        rw [if_pos (by rfl)]
        go_simp
        go_wp2_with (go_at_call 37; refine (sameCmd_n x y PX PY).mono ?_; rintro e w1 ⟨rfl, H1⟩; rw [Hr.out])
        have Z1 : Two w1 b1 (o1 + k * 18) b2 (o2 + k * 18) x y := ⟨Below.range hS.p H1.out, Below.range hS.q H1.out⟩
        refine hK.out _ _ (Z1) (fun hSb => ?_)
        clear hK K
        try simp only [List.getElem_toArray, List.getElem_cons_zero, List.getElem_cons_succ, Act.put, List.setIfInBounds_toArray, List.set_cons_zero, List.set_cons_succ]
        clear hS
        refine till_one (i := 9) (by kernel_rfl) rfl (fun K hK => ?_)
        simp only [List.getElem_toArray, List.getElem_cons_zero, List.getElem_cons_succ]
        rw [if_pos (by rfl)]
        go_simp
        refine hK.out _ _ (hSb) (fun hS => ?_)
        clear hK K
        try simp only [List.getElem_toArray, List.getElem_cons_zero, List.getElem_cons_succ, Act.put, List.setIfInBounds_toArray, List.set_cons_zero, List.set_cons_succ]
        clear hSb
        refine till_done (by kernel_rfl) ?_ _
        clear hS
        have B1 : Hid (Below w.heap.size w w1) := HB.out.drew.trans (H1.out.mono HB.out.drew.size)
        cases r
        · have NE : Hid (decide (led X = led Y) = false) := decide_eq_false (fun h => by
            have h1 := EX.out
            rw [h, EY.out] at h1
            have h2 := of_decide_eq_false Hr.out
            exact h2 (Option.some.inj h1).symm)
          go_wp2
          go_ret
          exact ⟨retB NE.out, B1.out⟩
        · have NX : Hid (∀ j, j < k + 1 → (led X)[j]? = (led Y)[j]?) := fun j hj => by
            by_cases hjk : j = k
            · subst hjk
              rw [EX.out, EY.out, of_decide_eq_true Hr.out]
            · exact HK.out j (by omega)
          go_wp2
          go_roundw
          case rel => exact ⟨k + 1, by omega, by go_num, NX.out, B1.out⟩
          case measure => simp [intOf]; omega
      · have EQ : Hid (decide (led X = led Y) = true) := decide_eq_true (List.ext_getElem? (fun i => by
          by_cases hi : i < n
          · exact HK.out i (by omega)
          · rw [List.getElem?_eq_none (by simp [led]; have := LL.out; omega), List.getElem?_eq_none (by simp [led]; have := LL.out; omega)]))
        go_wp2
        go_ret
        exact ⟨retB EQ.out, HB.out⟩
  · have NE : Hid (decide (led X = led Y) = false) := decide_eq_false (fun h => hnm (by
      have h2 := congrArg List.length h
      simp only [led, List.length_map] at h2
      rw [hA.out.len, hB.out.len, h2]))
    have i3 : ¬ ((n : Int) = (m : Int)) := by omega
    go_enter Tryz.func13, Tryz.ntmps13
    go_wp2
    go_ret
    exact ⟨retB NE.out, Below.refl _ _⟩
set_option maxHeartbeats 2000000 in
theorem begins_n {w : World} {lo lo2 : Nat} {a b : Option Addr} {n m c d : Nat} {X Y : List Cx} (hA : Hid (Cms w lo a n X)) (hB : Hid (Cms w lo2 b m Y)) (hd : m ≤ d) (hz : b = none → d = 0) :
    Calls Tryz.prog 19 #[.slice a n c, .slice b m d] w fun e w' => e = .returned (.bool (decide (led X <+: led Y))) ∧ Hid (Below w.heap.size w w') := by
  have hsz := hA.out.sz
  have hsz2 := hB.out.sz
  by_cases hnm : n ≤ m
  · have T : Hid (Cms w lo2 b n (Y.take n)) := hB.out.take hnm
    have EQ : Hid (decide (led X = led (Y.take n)) = decide (led X <+: led Y)) := by
      have hl : n = (led X).length := by simp [led]; exact hA.out.len
      have e : led (Y.take n) = (led Y).take (led X).length := by rw [← hl]; simp [led]
      rw [e]
      show _ = _
      exact decide_eq_decide.2 (List.prefix_iff_eq_take).symm
    have i3 : (n : Int) ≤ (m : Int) := by omega
    go_enter Tryz.func19, Tryz.ntmps19
    go_wp2_with (go_at_call 13; refine (same_n hA T).mono ?_; rintro e w1 ⟨rfl, H1⟩; rw [EQ.out])
    go_ret
    exact ⟨rfl, H1.out⟩
  · have NE : Hid (decide (led X <+: led Y) = false) := decide_eq_false (fun h => hnm (by
      have h2 := h.length_le
      simp only [led, List.length_map] at h2
      rw [hA.out.len, hB.out.len]
      exact h2))
    have i3 : ¬ ((n : Int) ≤ (m : Int)) := by omega
    go_enter Tryz.func19, Tryz.ntmps19
    go_wp2
    go_ret
    exact ⟨retB NE.out, Below.refl _ _⟩
end Go.Proofs.YtfabnnbljkkihaaGreatDoor
