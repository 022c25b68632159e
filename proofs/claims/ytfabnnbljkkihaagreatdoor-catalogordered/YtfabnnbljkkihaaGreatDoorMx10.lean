import Derived.Test.YtfabnnbljkkihaaGreatDoorMxp
import Derived.Test.YtfabnnbljkkihaaGreatDoorMx00
import Derived.Test.YtfabnnbljkkihaaGreatDoorMx03
import Derived.Shelf.Strconv.Clone
import Derived.Laws.Rows
import Derived.Laws.MakeOwn
namespace Go.Proofs.YtfabnnbljkkihaaGreatDoor
open Go.ChangeShapes Go.WideShapes Go.ChangeAt Go.RowKit
set_option maxRecDepth 20000
set_option linter.unusedVariables false
set_option linter.unusedSimpArgs false
def flat (X : List Cx) : List Value := X.flatMap encX
theorem flat_app (l r : List Cx) : flat (l ++ r) = flat l ++ flat r := by simp [flat]
theorem flat_len (l : List Cx) : (flat l).length = l.length * 18 := by
 induction l with
 | nil => rfl
 | cons x l ih =>
   show (encX x ++ flat l).length = _
   rw [List.length_append, ih, List.length_cons, encX_len]
   omega
theorem flat_one (l : List Cx) : ∀ v ∈ flat l, v.oneCell' = true := fun v hv => by
 unfold flat at hv
 obtain ⟨x, _, h⟩ := List.mem_flatMap.1 hv
 exact encX_one x v h
theorem flat_cut (l : List Cx) {i : Nat} (hi : i < l.length) : flat l = flat (l.take i) ++ (encX l[i] ++ flat (l.drop (i + 1))) := by
 have e : l = l.take i ++ l[i] :: l.drop (i + 1) := by rw [List.getElem_cons_drop, List.take_append_drop]
 have h : flat l = flat (l.take i ++ l[i] :: l.drop (i + 1)) := by rw [<- e]
 rw [h, flat_app]
 rfl
theorem flat_at (l : List Cx) {i : Nat} (hi : i < l.length) {j : Nat} (hj : j < 18) : (flat l)[i * 18 + j]? = (encX l[i])[j]? := by
 have hl : (flat (l.take i)).length = i * 18 := by rw [flat_len, List.length_take, Nat.min_eq_left (by omega)]
 rw [flat_cut l hi, List.getElem?_append_right (by omega), hl, Nat.add_sub_cancel_left, List.getElem?_append_left (by rw [encX_len]; exact hj)]
structure Cms (w : World) (lo : Nat) (a : Option Addr) (n : Nat) (X : List Cx) : Prop where
 len : n = X.length
 sz : n <= 764877654082
 row : n = 0 ∨ ∃ b off, a = some ⟨b, off, none⟩ /\ lo <= b /\ b < w.heap.size /\ w.rangeAt b off (flat X)
 ps : ∀ x ∈ X, Irow w lo x.pa x.pn x.cm.ps /\ (x.pa = none -> x.pc = 0)
 st : ∀ x ∈ X, x.cm.bu.size <= 281474976710656 /\ x.cm.ke.size <= 281474976710656 /\ x.cm.et.size <= 281474976710656
theorem Cms.keep {w w' : World} {lo : Nat} {a : Option Addr} {n : Nat} {X : List Cx} (h : Cms w lo a n X) (hs : w.heap.size <= w'.heap.size) (hb : ∀ q, lo <= q -> q < w.heap.size -> w'.heap[q]? = w.heap[q]?) : Cms w' lo a n X := by
 refine ⟨h.len, h.sz, h.row.imp id ?_, fun x hx => ⟨(h.ps x hx).1.keep hs hb, (h.ps x hx).2⟩, h.st⟩
 rintro ⟨b, off, h1, h2, h3, h4⟩
 exact ⟨b, off, h1, h2, Nat.lt_of_lt_of_le h3 hs, fun j v hv => (World.cell?_of_block (a := ⟨b, off + j, none⟩) (hb b h2 h3)).trans (h4 j v hv)⟩
theorem Cms.below {w w' : World} {lo : Nat} {a : Option Addr} {n : Nat} {X : List Cx} (h : Cms w lo a n X) (hb : Below w.heap.size w w') : Cms w' lo a n X := h.keep hb.size fun q _ hq => hb.block q hq
theorem Cms.nil (w : World) (lo : Nat) (a : Option Addr) : Cms w lo a 0 [] := ⟨rfl, by omega, .inl rfl, (fun x hx => by cases hx), (fun x hx => by cases hx)⟩
theorem range_sub {w : World} {b off : Nat} {l r s : List Value} {k : Nat} (h : w.rangeAt b off (l ++ (r ++ s))) (hk : l.length = k) : w.rangeAt b (off + k) r := by
 intro j v hv
 have hj := (List.getElem?_eq_some_iff.1 hv).1
 have h1 := h (k + j) v (by rw [List.getElem?_append_right (by omega), hk, Nat.add_sub_cancel_left, List.getElem?_append_left hj]; exact hv)
 rw [Nat.add_assoc]
 exact h1
theorem Cms.at_ {w : World} {lo : Nat} {a : Option Addr} {n : Nat} {X : List Cx} (h : Cms w lo a n X) {i : Nat} (hi : i < X.length) : ∃ b off, a = some ⟨b, off, none⟩ /\ w.rangeAt b (off + i * 18) (encX X[i]) := by
 rcases h.row with h0 | ⟨b, off, h1, _, _, h4⟩
 . have := h.len; omega
 . refine ⟨b, off, h1, ?_⟩
   rw [flat_cut X hi] at h4
   exact range_sub h4 (by rw [flat_len, List.length_take, Nat.min_eq_left (by omega)])
theorem Below.range {w w' : World} {b off : Nat} {cs : List Value} (h : w.rangeAt b off cs) (hb : Below w.heap.size w w') : w'.rangeAt b off cs := fun j v hv => (hb.cell (p := ⟨b, off + j, none⟩) (cell_lt (h j v hv))).trans (h j v hv)
def led (X : List Cx) : List Cm := X.map Cx.cm
structure Two (W : World) (b1 o1 b2 o2 : Nat) (x y : Cx) : Prop where
 p : W.rangeAt b1 o1 (encX x)
 q : W.rangeAt b2 o2 (encX y)
end Go.Proofs.YtfabnnbljkkihaaGreatDoor
namespace Go.Proofs
open Go.Shelf
def Tryz.clone38_ren : Go.Shelf.Ren := ⟨fun | 316 => 113 | n => n, fun | 9 => 9 | 3 => 3 | 4 => 4 | 37 => 165 | 0 => 0 | 127 => 174 | 5 => 5 | n => n, fun | n => n⟩
theorem Tryz.clone38 : Go.Proofs.LaysM.n316 Tryz.prog Tryz.clone38_ren := {
 mixed := by kernel_rfl
 f316 := Tryz.func113.trans (congrArg some (by kernel_rfl))
 t0 := Tryz.underlying0
 a0 := Tryz.isAgg0
 z0 := Tryz.sizeOf0
 v0 := Tryz.zeroValue0
 t3 := Tryz.underlying3
 a3 := Tryz.isAgg3
 z3 := Tryz.sizeOf3
 v3 := Tryz.zeroValue3
 t4 := Tryz.underlying4
 a4 := Tryz.isAgg4
 z4 := Tryz.sizeOf4
 v4 := Tryz.zeroValue4
 t9 := Tryz.underlying9
 a9 := Tryz.isAgg9
 z9 := Tryz.sizeOf9
 v9 := Tryz.zeroValue9
 t37 := Tryz.underlying165
 a37 := Tryz.isAgg165
 z37 := Tryz.sizeOf165
 v37 := Tryz.zeroValue165
 t127 := Tryz.underlying174
 a127 := Tryz.isAgg174
 z127 := Tryz.sizeOf174
 v127 := Tryz.zeroValue174
 t5 := Tryz.underlying5
 a5 := Tryz.isAgg5
 z5 := Tryz.sizeOf5
 v5 := Tryz.zeroValue5
 i0 := by kernel_rfl
 i3 := by kernel_rfl
 i4 := by kernel_rfl
 i5 := by kernel_rfl
 i9 := by kernel_rfl
 i37 := by kernel_rfl
 i127 := by kernel_rfl }
end Go.Proofs
namespace Go.Proofs.YtfabnnbljkkihaaGreatDoor
open Go.ChangeShapes Go.WideShapes Go.ChangeAt Go.RowKit
theorem clone38_n (s : ByteArray) (w : World) (hs : s.size <= 281474976710656) : Calls Tryz.prog 113 #[.string s] w fun e w' => e = .returned (.string s) /\ Below w.heap.size w w' := Any.stringslite_Clone Tryz.clone38 s w hs
theorem clone_n (s : ByteArray) (w : World) (hs : s.size <= 281474976710656) : Calls Tryz.prog 79 #[.string s] w fun e w' => e = .returned (.string s) /\ Hid (Below w.heap.size w w') := by
 go_enter Tryz.func79, Tryz.ntmps79
 go_wp2_with (go_at_call 113; refine (clone38_n s _ hs).mono ?_; rintro e w1 ⟨rfl, h1⟩; have H1 : Hid (Below w.heap.size w w1) := h1; clear h1)
 go_ret
 exact ⟨rfl, H1.out⟩
end Go.Proofs.YtfabnnbljkkihaaGreatDoor
namespace Go.Proofs.YtfabnnbljkkihaaGreatDoor
open Go.ChangeShapes Go.WideShapes Go.ChangeAt Go.RowKit
set_option maxRecDepth 20000
set_option linter.unusedVariables false
set_option linter.unusedSimpArgs false
theorem info81 : (Tryz.prog.info? 29).map (fun i => (i.zero, i.size, i.bytes)) = some (some (.agg #[.int .i64 0,.int .i64 0,.int .i64 0,.int .i64 0,.string ⟨#[]⟩,.string ⟨#[]⟩,.int .i64 0,.int .i64 0,.int .i64 0,.int .i64 0,.int .i64 0,.int .i64 0,.int .i64 0,.string ⟨#[]⟩,.int .i64 0,.slice none 0 0,.int .i64 0,.int .i64 0]), 18, 184) := by kernel_rfl
theorem wpList_app {ops : Array Oper} {rest : List Oper} {o : Oper} {a : Act} {Q : Exit -> Act -> World -> Prop} {w w' : World} {v v1 v2 : Value} {t : TypeId} (hgd : o.guard = none) (s x : Operand)
  (ho : o.op = .call { callee := .builtin .append, args := #[s, x], argTypes := #[t, t] }) (hty : o.type = t) (hs : a.eval s = v1) (hx : a.eval x = v2) (hrun : Hid ((Builtin.append_ #[t, t] t #[v1, v2]).run Tryz.prog w = .ok v w'))
  (h : wpList Tryz.prog ops Q rest (a.put o.dst v) w') : wpList Tryz.prog ops Q (o :: rest) a w := by
 refine wpList_plain hgd fun K hK => ?_
 have hr := hrun.out
 unfold Oper.wp
 simp [execOp, ho, resolve, invoke, builtin, hs, hx, hty, hr, Result.andThen]
 exact hK _ _ h
theorem app_cm {w : World} {B : Nat} {v : Value} {m : Nat} {X0 : List Cx} {a : Option Addr} {n c : Nat} {X : List Cx} (own : w.ownsRow B 29 18 v m (flat X0)) (hn : n = X.length) (hr : n = 0 ∨ ∃ b off, a = some ⟨b, off, none⟩ /\ w.rangeAt b off (flat X)) (hz : a = none -> c = 0) (hb : (m + n) * 184 <= 140737488355328) (hB : B <= w.heap.size) :
  ∃ a' c' w', (Builtin.append_ #[22, 22] 22 #[v,.slice a n c]).run Tryz.prog w = .ok (.slice a' (m + n) c') w' /\ w'.ownsRow B 29 18 (.slice a' (m + n) c') (m + n) (flat (X0 ++ X)) /\ w.grownBy w' v.ownBlock := by
 obtain ⟨i, hi, hz0, hz1, hz2⟩ := info_parts info81
 rcases ha : a with _ | ad
 . have hn0 : n = 0 := by
    rcases hr with h0 | ⟨b, off, h1, _⟩
    . exact h0
    . rw [ha] at h1; cases h1
   have c0 := hz ha
   have hl : X = [] := List.length_eq_zero_iff.1 (by omega)
   subst hn0 c0 hl
   have hr := run_append_owned_none (P := Tryz.prog) w B 22 22 29 i 18 Tryz.underlying22 hi v m _ own
   obtain ⟨a', c', rfl⟩ := rown_slice own
   refine ⟨a', c', w, by simpa using hr, by simpa using own, World.grownBy.refl _ _⟩
 . have hc : ∀ j u, (flat X)[j]? = some u -> w.cell? (ad.add j) = some u := by
    intro j u hu
    rcases hr with h0 | ⟨b, off, h1, h4⟩
    . have hl : X = [] := List.length_eq_zero_iff.1 (by omega)
      subst hl
      simp [flat] at hu
    . rw [ha] at h1
      cases h1
      rw [Addr.add_mid]
      exact h4 j u hu
   obtain ⟨v', w', hrun, hown, hgr, _⟩ := run_append_own (P := Tryz.prog) w B 22 22 29 i _ 18 184 Tryz.underlying22 hi hz0 hz1 hz2 rfl (by decide) v m (flat X0) own ad n c (flat X) (by rw [flat_len, hn]) hc (flat_one _) (by unfold maxLen; omega) hb hB
   obtain ⟨a', c', rfl⟩ := rown_slice hown
   exact ⟨a', c', w', hrun, by rw [flat_app]; exact hown, hgr⟩
structure Oc (w : World) (lo : Nat) (a : Option Addr) (n c : Nat) (X : List Cx) : Prop where
 row : w.ownsRow lo 29 18 (.slice a n c) n (flat X)
 sz : n <= 764877654082
 ps : ∀ x ∈ X, w.ownsRow lo 3 1 (.slice x.pa x.pn x.pc) x.pn (x.cm.ps.map iv) /\ x.pn <= 17592186043904
 st : ∀ x ∈ X, x.cm.bu.size <= 281474976710656 /\ x.cm.ke.size <= 281474976710656 /\ x.cm.et.size <= 281474976710656
def fp (a : Option Addr) (X : List Cx) (q : Nat) : Prop := blkOf a = some q ∨ ∃ x ∈ X, blkOf x.pa = some q
theorem grown_below {w w' : World} {B : Nat} {row : Option Nat} (h : w.grownBy w' row) (hB : B <= w.heap.size) (hr : ∀ q, row = some q -> B <= q) : Below B w w' := (Below.refl B w).grown h hB hr
theorem wpList_appt {ops : Array Oper} {rest : List Oper} {o : Oper} {a : Act} {Q : Exit -> Act -> World -> Prop} {w w' : World} {v v1 v2 : Value} {t : TypeId} (hgd : o.guard = none) (s x : Operand)
  (ho : o.op = .call { callee := .builtin .append, args := #[s, x], argTypes := #[t, t] }) (hty : o.type = t) (hs : a.eval s = v1) (hx : a.eval x = v2) (hrun : Hid ((Builtin.append_ #[t, t] t #[v1, v2]).run Tryz.prog w = .ok v w'))
  (h : wpList Tryz.prog ops Q rest (a.put o.dst v) w') : wpList Tryz.prog ops Q (o :: rest) a w := by
 refine wpList_plain hgd fun K hK => ?_
 have hr := hrun.out
 unfold Oper.wp
 simp [execOp, ho, resolve, invoke, builtin, hs, hx, hty, hr, Result.andThen]
 exact hK _ _ h
theorem set_blkf {w : World} {g : Nat} {C : Array Value} {t : TypeId} {fr : Nat × Nat} (h : w.heap[g]? = some (.cells C t fr)) (i : Nat) (v : Value) : (w.setCell ⟨g, i, none⟩ v).heap[g]? = some (.cells (C.setIfInBounds i v) t fr) := by
 rw [setCell_eq_setRow w g i _ t fr _ h]
 exact setRow_heap w g _ _ t fr h
theorem range_blk {w : World} {g : Nat} {cs : List Value} {t : TypeId} {fr : Nat × Nat} (h : w.heap[g]? = some (.cells cs.toArray t fr)) : w.rangeAt g 0 cs := fun j v hv => by
 rw [Nat.zero_add]
 simp [World.cell?, h, hv]
theorem led_snoc {X : List Cx} {i : Nat} {x : Cx} (h : X[i]? = some x) : led (X.take (i + 1)) = led (X.take i) ++ [x.cm] := by
 obtain ⟨h1, h2⟩ := List.getElem?_eq_some_iff.1 h
 unfold led
 rw [List.take_succ_eq_append_getElem h1, List.map_append, h2]
 rfl
theorem info29 {A : Array Value} (h : A.size = 18) : (Tryz.prog.info? 29).map (·.size) = some A.size := by rw [h]; kernel_rfl
theorem encX_sz {A : Array Value} {x : Cx} (h : A = (encX x).toArray) : A.size = 18 := by rw [h]; rfl
theorem encX_all {A : Array Value} {x : Cx} (h : A = (encX x).toArray) : A.all (·.oneCell') = true := by rw [h]; exact all_oneCell_toArray (encX_one _)
theorem wpList_ldA {ops : Array Oper} {rest : List Oper} {op : Oper} {a : Act} {w : World} {Q : Exit -> Act -> World -> Prop} (hgd : op.guard = none) (x : Operand) (ho : op.op = .load 29 x)
  (b o : Nat) (hx : a.eval x = .pointer (some ⟨b, o, none⟩)) {A : Array Value} {c : Cx} (hA : A = (encX c).toArray) (hc : w.rangeAt b o (encX c))
  (h : wpList Tryz.prog ops Q rest (a.put op.dst (.agg A)) w) : wpList Tryz.prog ops Q (op :: rest) a w := by
 subst hA
 exact wpList_load_mid hgd 29 x ho b o hx _ _ hc Tryz.underlying29 rfl (by rw [encX_len]; kernel_rfl) h
theorem box_new (W : World) (A : Array Value) : ∃ w2, Hid ((W.alloc (.cells #[.int .i64 0,.int .i64 0,.int .i64 0,.int .i64 0,.string ⟨#[]⟩,.string ⟨#[]⟩,.int .i64 0,.int .i64 0,.int .i64 0,.int .i64 0,.int .i64 0,.int .i64 0,.int .i64 0,.string ⟨#[]⟩,.int .i64 0,.slice none 0 0,.int .i64 0,.int .i64 0] 29)).setRow W.heap.size A = w2) /\ Hid (w2.heap[W.heap.size]? = some (.cells A 29 (0, 0)) /\ Below W.heap.size W w2 /\ w2.heap.size = W.heap.size + 1) :=
 ⟨_, rfl, setRow_heap _ _ _ _ _ _ (heap_alloc_new W _), below_setRow (alloc1 W _) (Nat.le_refl _) A, by rw [setRow_size]; simp⟩
structure Cs (w W : World) (g : Nat) (A : Array Value) : Prop where
 b : W.heap[g]? = some (.cells A 29 (0, 0))
 z : W.heap[g + 1]? = some (.cells #[.int .i64 0,.int .i64 0,.int .i64 0,.int .i64 0,.string ⟨#[]⟩,.string ⟨#[]⟩,.int .i64 0,.int .i64 0,.int .i64 0,.int .i64 0,.int .i64 0,.int .i64 0,.int .i64 0,.string ⟨#[]⟩,.int .i64 0,.slice none 0 0,.int .i64 0,.int .i64 0] 29 (0, 0))
 f : Below w.heap.size w W
 e : w.heap.size <= g
theorem Cs.below {w W W' : World} {g : Nat} {A : Array Value} (h : Cs w W g A) (hb : Below W.heap.size W W') : Cs w W' g A :=
 ⟨(hb.block g (gl h.b)).trans h.b, (hb.block (g + 1) (gl h.z)).trans h.z, h.f.trans (hb.mono h.f.size), h.e⟩
theorem Cs.cell {w W : World} {g : Nat} {A : Array Value} (h : Cs w W g A) {i : Nat} {v : Value} (hv : A[i]? = some v) : W.cell? ⟨g, i, none⟩ = some v := by simp [World.cell?, h.b, hv]
theorem Cs.frz {w W : World} {g : Nat} {A : Array Value} (h : Cs w W g A) (i : Nat) : W.frozen? ⟨g, i, none⟩ = false := by simp [World.frozen?, h.b]
theorem set_arr {A : Array Value} {i : Nat} {v : Value} (hv : A[i]? = some v) : A.setIfInBounds i v = A := by
 obtain ⟨h1, h2⟩ := Array.getElem?_eq_some_iff.1 hv
 apply Array.ext
 . simp
 . intro j h3 h4
   rw [Array.getElem_setIfInBounds]
   split
   . rename_i e
     subst e
     exact h2.symm
   . rfl
theorem Cs.set {w W : World} {g : Nat} {A : Array Value} (h : Cs w W g A) {i : Nat} {v : Value} (hv : A[i]? = some v) : Cs w (W.setCell ⟨g, i, none⟩ v) g A :=
 ⟨by rw [set_blkf h.b, set_arr hv], (Below.heap_setCell _ _ _ _ (show g + 1 ≠ g by omega)).trans h.z, h.f.setCell h.e _, h.e⟩
structure Enc (α : Type) where
 e : α -> List Value
 z : Nat
 len : ∀ x, (e x).length = z
 one : ∀ x, ∀ v ∈ e x, v.oneCell' = true
section
variable {α : Type} (E : Enc α)
def Enc.fl (l : List α) : List Value := l.flatMap E.e
theorem Enc.fl_app (l r : List α) : E.fl (l ++ r) = E.fl l ++ E.fl r := by simp [Enc.fl]
theorem Enc.fl_one (x : α) : E.fl [x] = E.e x := by simp [Enc.fl]
theorem Enc.fl_cons (x : α) (l : List α) : E.fl (x :: l) = E.e x ++ E.fl l := rfl
theorem Enc.fl_len (l : List α) : (E.fl l).length = l.length * E.z := by
 induction l with
 | nil => simp [Enc.fl]
 | cons x l ih => rw [E.fl_cons, List.length_append, ih, E.len, List.length_cons, Nat.succ_mul]; omega
theorem Enc.fl_oc (l : List α) : ∀ v ∈ E.fl l, v.oneCell' = true := fun v hv => by
 obtain ⟨x, _, h⟩ := List.mem_flatMap.1 hv
 exact E.one x v h
theorem Enc.fl_cut (l : List α) {i : Nat} (hi : i < l.length) : E.fl l = E.fl (l.take i) ++ (E.e l[i] ++ E.fl (l.drop (i + 1))) := by
 have e : l = l.take i ++ l[i] :: l.drop (i + 1) := by rw [List.getElem_cons_drop, List.take_append_drop]
 have h : E.fl l = E.fl (l.take i ++ l[i] :: l.drop (i + 1)) := by rw [<- e]
 rw [h, E.fl_app]
 rfl
theorem Enc.fl_take (l : List α) (i : Nat) : E.fl (l.take i) = (E.fl l).take (i * E.z) := by
 by_cases hi : i <= l.length
 . have h : E.fl l = E.fl (l.take i) ++ E.fl (l.drop i) := by rw [<- E.fl_app, List.take_append_drop]
   have hl : (E.fl (l.take i)).length = i * E.z := by rw [E.fl_len, List.length_take, Nat.min_eq_left hi]
   rw [h]
   exact (List.take_left' hl).symm
 . rw [List.take_of_length_le (by omega), List.take_of_length_le]
   rw [E.fl_len]; exact Nat.mul_le_mul_right _ (by omega)
theorem Enc.fl_drop (l : List α) (i : Nat) : E.fl (l.drop i) = (E.fl l).drop (i * E.z) := by
 by_cases hi : i <= l.length
 . have h : E.fl l = E.fl (l.take i) ++ E.fl (l.drop i) := by rw [<- E.fl_app, List.take_append_drop]
   have hl : (E.fl (l.take i)).length = i * E.z := by rw [E.fl_len, List.length_take, Nat.min_eq_left hi]
   rw [h]
   exact (List.drop_left' hl).symm
 . rw [List.drop_of_length_le (by omega), List.drop_of_length_le]
   . rfl
   . rw [E.fl_len]; exact Nat.mul_le_mul_right _ (by omega)
end
structure Rw {α : Type} (w : World) (lo hi : Nat) (t : TypeId) (E : Enc α) (a : Option Addr) (n c : Nat) (l : List α) : Prop where
 row : w.ownsRow lo t E.z (.slice a n c) n (E.fl l)
 top : ∀ q, blkOf a = some q -> q < hi
 pos : 0 < E.z
section
variable {α : Type} {E : Enc α} {w w' : World} {lo hi lo' hi' : Nat} {t : TypeId} {a : Option Addr} {n c : Nat} {l : List α}
theorem Rw.len (h : Rw w lo hi t E a n c l) : n = l.length := by
 have h1 := h.row.1
 rw [E.fl_len] at h1
 exact (Nat.eq_of_mul_eq_mul_right h.pos h1).symm
theorem Rw.lt (h : Rw w lo hi t E a n c l) {q : Nat} (e : blkOf a = some q) : lo <= q /\ q < w.heap.size := h.row.lt q (by rw [ownBlock_slice]; exact e)
theorem Rw.keep (h : Rw w lo hi t E a n c l) (hb : ∀ q, lo <= q -> q < hi -> q < w.heap.size -> w'.heap[q]? = w.heap[q]?) : Rw w' lo hi t E a n c l :=
 ⟨rown_bel h.row (fun q e => by rw [ownBlock_slice] at e; exact hb q (h.lt e).1 (h.top q e) (h.lt e).2), h.top, h.pos⟩
theorem Rw.keep1 (h : Rw w lo hi t E a n c l) (hb : ∀ q, blkOf a = some q -> w'.heap[q]? = w.heap[q]?) : Rw w' lo hi t E a n c l :=
 ⟨rown_bel h.row (fun q e => hb q (by rw [ownBlock_slice] at e; exact e)), h.top, h.pos⟩
theorem Rw.below (h : Rw w lo hi t E a n c l) (hb : Below w.heap.size w w') : Rw w' lo hi t E a n c l := h.keep fun q _ _ hq => hb.block q hq
theorem Rw.mono (h : Rw w lo hi t E a n c l) (hl : lo' <= lo) (hh : hi <= hi') : Rw w lo' hi' t E a n c l := ⟨rown_mono h.row hl, fun q e => Nat.lt_of_lt_of_le (h.top q e) hh, h.pos⟩
theorem Rw.full (h : Rw w lo hi t E a n c l) : Rw w lo w.heap.size t E a n c l := ⟨h.row, fun q e => (h.lt e).2, h.pos⟩
theorem Rw.nil (w : World) (lo hi : Nat) (t : TypeId) (E : Enc α) (hp : 0 < E.z) : Rw w lo hi t E none 0 0 [] := ⟨World.ownsRow_nil w lo t E.z, (fun q e => by cases e), hp⟩
theorem Rw.cap (h : Rw w lo hi t E a n c l) : n <= c := rown_cap h.row
theorem Rw.cap0 (h : Rw w lo hi t E a n c l) : a = none -> c = 0 := rown_cap0 h.row
theorem Rw.at_ (h : Rw w lo hi t E a n c l) {i : Nat} (hi' : i < l.length) : ∃ g, a = some ⟨g, 0, none⟩ /\ lo <= g /\ g < w.heap.size /\ w.rangeAt g (i * E.z) (E.e l[i]) := by
 have hn := h.len
 obtain ⟨g, rfl, h2, h3, _⟩ := rown_at h.row (by omega)
 refine ⟨g, rfl, h2, h3, fun j v hv => ?_⟩
 have hj := (List.getElem?_eq_some_iff.1 hv).1
 rw [E.len] at hj
 have hm : i * E.z + j < n * E.z := by
  have : (i + 1) * E.z <= n * E.z := Nat.mul_le_mul_right _ (by omega)
  rw [Nat.succ_mul] at this
  omega
 rw [h.row.cellAt _ hm, E.fl_cut l hi', List.getElem?_append_right (by rw [E.fl_len, List.length_take, Nat.min_eq_left (by omega)]; omega), E.fl_len, List.length_take, Nat.min_eq_left (by omega), Nat.add_sub_cancel_left, List.getElem?_append_left (by rw [E.len]; exact hj)]
 exact hv
theorem Rw.blk (h : Rw w lo hi t E a n c l) {q : Nat} (e : blkOf a = some q) : ∃ cur, w.heap[q]? = some (.cells cur t (0, 0)) /\ a = some ⟨q, 0, none⟩ := by
 rcases h.row.2 with ⟨h1, _⟩ | ⟨g, cap, cur, h1, _, h3, _⟩
 . cases h1; cases e
 . cases h1; cases e; exact ⟨cur, h3, rfl⟩
theorem Rw.apart {β : Type} {F : Enc β} {t' : TypeId} {lo2 hi2 : Nat} {b : Option Addr} {m d : Nat} {r : List β} (h : Rw w lo hi t E a n c l) (h' : Rw w lo2 hi2 t' F b m d r) (ht : t ≠ t') {q : Nat} (e : blkOf a = some q) (e' : blkOf b = some q) : False := by
 obtain ⟨c1, h1, _⟩ := h.blk e
 obtain ⟨c2, h2, _⟩ := h'.blk e'
 rw [h1] at h2
 cases h2
 exact ht rfl
end
theorem Rw.snoc {α : Type} {E : Enc α} {W : World} {lo hi : Nat} {s t : TypeId} {a : Option Addr} {i c g : Nat} {l : List α} {y : α} (h : Rw W lo hi t E a i c l) (hu : Tryz.prog.underlying s = some (.slice t)) (hinf : (Tryz.prog.info? t).map (·.size) = some E.z) (hg : W.heap[g]? = some (.cells (E.e y).toArray t (0, 0))) (hc : i < c) :
  ∃ w6, (Builtin.append_ #[s, s] s #[.slice a i c,.slice (some ⟨g, 0, none⟩) 1 1]).run Tryz.prog W = .ok (.slice a (i + 1) c) w6 /\ Rw w6 lo hi t E a (i + 1) c (l ++ [y]) /\ W.grownBy w6 (blkOf a) := by
 obtain ⟨inf, hi1, hz1⟩ := Option.map_eq_some_iff.1 hinf
 rcases ha : a with _ | ad
 . have := h.cap0 ha; omega
 . obtain ⟨cur, h3, h4⟩ := h.blk (q := ad.block) (by rw [ha]; rfl)
   rw [ha] at h4
   obtain ⟨q0, hq0⟩ : ∃ q0, ad = ⟨q0, 0, none⟩ := ⟨_, by simpa using h4⟩
   subst hq0
   subst ha
   obtain ⟨w6, r1, r2, r3⟩ := run_append_fits (P := Tryz.prog) (w := W) lo s s t inf E.z hu hi1 hz1 q0 i c (E.fl l) h.row ⟨g, 0, none⟩ 1 1 (E.e y) (by rw [E.len]; omega) (fun j u hj => by
    rw [Addr.add_mid, Nat.zero_add]
    simp [World.cell?, hg, hj]) (E.one y) hc
   exact ⟨w6, r1, ⟨by rw [E.fl_app, E.fl_one]; exact r2, h.top, h.pos⟩, r3⟩
inductive Seg {α : Type} (O : Nat -> Nat -> α -> Prop) (lo : Nat) : Nat -> List α -> Prop
 | nil (hi : Nat) (h : lo <= hi) : Seg O lo hi []
 | snoc (m p q hi : Nat) (l : List α) (x : α) (h0 : Seg O lo m l) (h1 : m <= p) (h2 : p <= q) (h3 : O p q x) (h4 : q <= hi) : Seg O lo hi (l ++ [x])
section
variable {α : Type} {O O' : Nat -> Nat -> α -> Prop} {lo hi : Nat} {l : List α}
theorem Seg.le (h : Seg O lo hi l) : lo <= hi := by
 induction h with
 | nil hi h => exact h
 | snoc m p q hi l x _ h1 h2 _ h3 ih => omega
theorem Seg.imp (h : Seg O lo hi l) (hi' : ∀ p q x, lo <= p -> q <= hi -> O p q x -> O' p q x) : Seg O' lo hi l := by
 induction h with
 | nil hi h => exact .nil _ h
 | snoc m p q hi l x h0 h1 h2 h3 h4 ih => exact .snoc m p q hi l x (ih (fun p' q' x' a b c => hi' p' q' x' a (by omega) c)) h1 h2 (hi' p q x (by have := h0.le; omega) h4 h3) h4
theorem Seg.dn {lo' : Nat} (h : Seg O lo hi l) (hh : lo' <= lo) : Seg O lo' hi l := by
 induction h with
 | nil hi h => exact .nil _ (by omega)
 | snoc m p q hi l x h0 h1 h2 h3 h4 ih => exact .snoc m p q hi l x ih h1 h2 h3 h4
theorem Seg.all (h : Seg O lo hi l) (hm : ∀ p q p' q' x, O p q x -> p' <= p -> q <= q' -> O p' q' x) : ∀ x ∈ l, O lo hi x := by
 induction h with
 | nil hi h => intro x hx; cases hx
 | snoc m p q hi l x h0 h1 h2 h3 h4 ih =>
   intro y hy
   rcases List.mem_append.1 hy with h | h
   . exact hm _ _ _ _ _ (ih y h) (Nat.le_refl _) (by omega)
   . obtain rfl := List.mem_singleton.1 h
     exact hm _ _ _ _ _ h3 (by have := h0.le; omega) h4
theorem Seg.pairs (h : Seg O lo hi l) (hm : ∀ p q p' q' x, O p q x -> p' <= p -> q <= q' -> O p' q' x) : l.Pairwise (fun x y => ∃ p q r, O p q x /\ O q r y) := by
 induction h with
 | nil hi h => exact List.Pairwise.nil
 | snoc m p q hi l x h0 h1 h2 h3 h4 ih =>
   refine List.pairwise_append.2 ⟨ih, List.pairwise_singleton _ _, fun a ha b hb => ?_⟩
   obtain rfl := List.mem_singleton.1 hb
   exact ⟨lo, m, q, h0.all hm a ha, hm _ _ _ _ _ h3 h1 (Nat.le_refl _)⟩
end
def encPc (p : Pcd) : List Value := [.int .i64 p.b0,.int .i64 p.b1,.int .i64 p.b2,.int .i64 p.sz,.string p.et]
def encPt (p : Ptd) : List Value := [.int .i64 p.no,.int .i64 p.pc.b0,.int .i64 p.pc.b1,.int .i64 p.pc.b2,.int .i64 p.pc.sz,.string p.pc.et]
structure Obx where
 ob : Obd
 a : Option Addr
 n : Nat
 c : Nat
def encOb (x : Obx) : List Value := [.string x.ob.key,.int .i64 x.ob.size,.string x.ob.etag,.int .i64 x.ob.time,.slice x.a x.n x.c]
structure Ulx where
 ul : Uld
 a : Option Addr
 n : Nat
 c : Nat
def encUl (x : Ulx) : List Value := [.int .i64 x.ul.i0,.int .i64 x.ul.i1,.int .i64 x.ul.i2,.string x.ul.key,.slice x.a x.n x.c]
structure Bkx where
 nm : ByteArray
 tm : Int
 dy : Int
 oa : Option Addr
 on : Nat
 oc : Nat
 ox : List Obx
 ua : Option Addr
 un : Nat
 uc : Nat
 ux : List Ulx
def Bkx.bk (x : Bkx) : Bkd := ⟨x.nm, x.tm, x.dy, x.ox.map Obx.ob, x.ux.map Ulx.ul⟩
def encBk (x : Bkx) : List Value := [.string x.nm,.int .i64 x.tm,.int .i64 x.dy,.slice x.oa x.on x.oc,.slice x.ua x.un x.uc]
def encId (x : Idd) : List Value := [.int .i64 x.i0,.int .i64 x.i1,.int .i64 x.i2]
def EPc : Enc Pcd := ⟨encPc, 5, fun _ => rfl, fun x v hv => by simp only [encPc, List.mem_cons, List.not_mem_nil, or_false] at hv; rcases hv with rfl | rfl | rfl | rfl | rfl <;> rfl⟩
def EPt : Enc Ptd := ⟨encPt, 6, fun _ => rfl, fun x v hv => by simp only [encPt, List.mem_cons, List.not_mem_nil, or_false] at hv; rcases hv with rfl | rfl | rfl | rfl | rfl | rfl <;> rfl⟩
def EOb : Enc Obx := ⟨encOb, 5, fun _ => rfl, fun x v hv => by simp only [encOb, List.mem_cons, List.not_mem_nil, or_false] at hv; rcases hv with rfl | rfl | rfl | rfl | rfl <;> rfl⟩
def EUl : Enc Ulx := ⟨encUl, 5, fun _ => rfl, fun x v hv => by simp only [encUl, List.mem_cons, List.not_mem_nil, or_false] at hv; rcases hv with rfl | rfl | rfl | rfl | rfl <;> rfl⟩
def EBk : Enc Bkx := ⟨encBk, 5, fun _ => rfl, fun x v hv => by simp only [encBk, List.mem_cons, List.not_mem_nil, or_false] at hv; rcases hv with rfl | rfl | rfl | rfl | rfl <;> rfl⟩
def EId : Enc Idd := ⟨encId, 3, fun _ => rfl, fun x v hv => by simp only [encId, List.mem_cons, List.not_mem_nil, or_false] at hv; rcases hv with rfl | rfl | rfl <;> rfl⟩
def K48 : Nat := 281474976710656
structure PcO (p : Pcd) : Prop where
 s : p.et.size <= K48
structure ObO (K : Nat) (w : World) (lo hi : Nat) (x : Obx) : Prop where
 r : Rw w lo hi 26 EPc x.a x.n x.c x.ob.pcs
 p : ∀ p ∈ x.ob.pcs, PcO p
 k : x.n <= K
 s : x.ob.key.size <= K48 /\ x.ob.etag.size <= K48
structure UlO (K : Nat) (w : World) (lo hi : Nat) (x : Ulx) : Prop where
 r : Rw w lo hi 108 EPt x.a x.n x.c x.ul.pts
 p : ∀ p ∈ x.ul.pts, PcO p.pc
 k : x.n <= K
 s : x.ul.key.size <= K48
structure BkO (K : Nat) (w : World) (lo hi : Nat) (x : Bkx) : Prop where
 o : Rw w lo hi 71 EOb x.oa x.on x.oc x.ox
 oo : ∀ o ∈ x.ox, ObO K w lo hi o
 u : Rw w lo hi 77 EUl x.ua x.un x.uc x.ux
 uu : ∀ u ∈ x.ux, UlO K w lo hi u
 k : x.on <= K /\ x.un <= K
 s : x.nm.size <= K48
structure CtO (K : Nat) (w : World) (lo hi : Nat) (a : Option Addr) (n c : Nat) (X : List Bkx) (fa : Option Addr) (fn fc : Nat) (F : List Idd) : Prop where
 b : Rw w lo hi 65 EBk a n c X
 bb : ∀ b ∈ X, BkO K w lo hi b
 f : Rw w lo hi 24 EId fa fn fc F
 k : n <= K /\ fn <= K
section
variable {K K' : Nat} {w w' : World} {lo hi lo' hi' : Nat}
theorem ObO.keep {x : Obx} (h : ObO K w lo hi x) (hb : ∀ q, lo <= q -> q < hi -> q < w.heap.size -> w'.heap[q]? = w.heap[q]?) : ObO K w' lo hi x := ⟨h.r.keep hb, h.p, h.k, h.s⟩
theorem ObO.mono {x : Obx} (h : ObO K w lo hi x) (hl : lo' <= lo) (hh : hi <= hi') : ObO K w lo' hi' x := ⟨h.r.mono hl hh, h.p, h.k, h.s⟩
theorem UlO.keep {x : Ulx} (h : UlO K w lo hi x) (hb : ∀ q, lo <= q -> q < hi -> q < w.heap.size -> w'.heap[q]? = w.heap[q]?) : UlO K w' lo hi x := ⟨h.r.keep hb, h.p, h.k, h.s⟩
theorem UlO.mono {x : Ulx} (h : UlO K w lo hi x) (hl : lo' <= lo) (hh : hi <= hi') : UlO K w lo' hi' x := ⟨h.r.mono hl hh, h.p, h.k, h.s⟩
theorem BkO.keep {x : Bkx} (h : BkO K w lo hi x) (hb : ∀ q, lo <= q -> q < hi -> q < w.heap.size -> w'.heap[q]? = w.heap[q]?) : BkO K w' lo hi x := ⟨h.o.keep hb, fun o ho => (h.oo o ho).keep hb, h.u.keep hb, fun u hu => (h.uu u hu).keep hb, h.k, h.s⟩
theorem BkO.mono {x : Bkx} (h : BkO K w lo hi x) (hl : lo' <= lo) (hh : hi <= hi') : BkO K w lo' hi' x := ⟨h.o.mono hl hh, fun o ho => (h.oo o ho).mono hl hh, h.u.mono hl hh, fun u hu => (h.uu u hu).mono hl hh, h.k, h.s⟩
theorem CtO.keep {a fa : Option Addr} {n c fn fc : Nat} {X : List Bkx} {F : List Idd} (h : CtO K w lo hi a n c X fa fn fc F) (hb : ∀ q, lo <= q -> q < hi -> q < w.heap.size -> w'.heap[q]? = w.heap[q]?) : CtO K w' lo hi a n c X fa fn fc F := ⟨h.b.keep hb, fun b hb' => (h.bb b hb').keep hb, h.f.keep hb, h.k⟩
theorem CtO.below {a fa : Option Addr} {n c fn fc : Nat} {X : List Bkx} {F : List Idd} (h : CtO K w lo hi a n c X fa fn fc F) (hb : Below w.heap.size w w') : CtO K w' lo hi a n c X fa fn fc F := h.keep fun q _ _ hq => hb.block q hq
theorem CtO.mono {a fa : Option Addr} {n c fn fc : Nat} {X : List Bkx} {F : List Idd} (h : CtO K w lo hi a n c X fa fn fc F) (hl : lo' <= lo) (hh : hi <= hi') : CtO K w lo' hi' a n c X fa fn fc F := ⟨h.b.mono hl hh, fun b hb' => (h.bb b hb').mono hl hh, h.f.mono hl hh, h.k⟩
end
def Cp {α δ : Type} (O : World -> Nat -> Nat -> α -> Prop) (d : α -> δ) (t : TypeId) (E : Enc α) (w W : World) (n i : Nat) (X : List α) : Prop :=
 ∃ Y, Y.map d = (X.take i).map d /\ Rw W w.heap.size (w.heap.size + 1) t E (some ⟨w.heap.size, 0, none⟩) i n Y /\ Seg (O W) (w.heap.size + 1) W.heap.size Y /\ Below w.heap.size w W /\ w.heap.size < W.heap.size
def Stays {α : Type} (O : World -> Nat -> Nat -> α -> Prop) : Prop := ∀ W W' lo hi x, O W lo hi x -> (∀ q, lo <= q -> q < hi -> q < W.heap.size -> W'.heap[q]? = W.heap[q]?) -> O W' lo hi x
section
variable {α δ : Type} {O : World -> Nat -> Nat -> α -> Prop} {d : α -> δ} {t s : TypeId} {E : Enc α} {w W w2 w3 : World} {n i g : Nat} {X : List α} {x y : α}
theorem cp_start {Z : Value} {B : Nat} (hu : Tryz.prog.underlying s = some (.slice t)) (hinf : (Tryz.prog.info? t).map (fun i => (i.zero, i.size, i.bytes)) = some (some Z, E.z, B)) (hp : 0 < E.z) (hb : B * n <= 281474976710656) (hn : n <= 1048576) (X : List α) :
  ∃ w1, (Instr.makeSlice s (.int .i64 0) (.int .i64 (n : Int))).run Tryz.prog w = .ok (.slice (some ⟨w.heap.size, 0, none⟩) 0 n) w1 /\ Cp O d t E w w1 n 0 X := by
 obtain ⟨i, hi, hz0, hz1, hz2⟩ := info_parts hinf
 obtain ⟨w1, h1, h2, h3⟩ := run_make_own (P := Tryz.prog) (w := w) w.heap.size s t i _ E.z hu hi hz0 hz1 .i64 .i64 n (by rw [hz2]; exact hb) (by unfold maxLen; omega) (Nat.le_refl _)
 have hlt : w.heap.size < w1.heap.size := (h2.lt w.heap.size rfl).2
 exact ⟨w1, h1, [], rfl, ⟨h2, (fun q e => by cases e; exact Nat.lt_succ_self _), hp⟩, .nil _ hlt, grown_below h3 (Nat.le_refl _) (fun q e => by cases e), hlt⟩
theorem cp_step (hO : Stays O) (h : Cp O d t E w W n i X) (hx : X[i]? = some x) (hin : i < n) (hu : Tryz.prog.underlying s = some (.slice t)) (hinf : (Tryz.prog.info? t).map (·.size) = some E.z)
  (B2 : Below W.heap.size W w2) (B3 : Below w2.heap.size w2 w3) (hd : d y = d x) (hy : O w3 w2.heap.size w3.heap.size y) :
  ∃ w6, (Builtin.append_ #[s, s] s #[.slice (some ⟨w.heap.size, 0, none⟩) i n,.slice (some ⟨w3.heap.size, 0, none⟩) 1 1]).run Tryz.prog (w3.alloc (.cells (E.e y).toArray t)) = .ok (.slice (some ⟨w.heap.size, 0, none⟩) (i + 1) n) w6 /\ Cp O d t E w w6 n (i + 1) X := by
 obtain ⟨Y, h1, h2, h3, h4, h5⟩ := h
 have B4 : Below w3.heap.size w3 (w3.alloc (.cells (E.e y).toArray t)) := alloc1 w3 _
 have s3 : W.heap.size <= w3.heap.size := Nat.le_trans B2.size B3.size
 have R4 : Rw (w3.alloc (.cells (E.e y).toArray t)) w.heap.size (w.heap.size + 1) t E (some ⟨w.heap.size, 0, none⟩) i n Y := ((h2.below B2).below B3).below B4
 obtain ⟨w6, r1, r2, r3⟩ := R4.snoc (g := w3.heap.size) hu hinf (heap_alloc_new w3 _) hin
 have s6 : w3.heap.size <= w6.heap.size := Nat.le_trans B4.size r3.size
 have ne : ∀ q, w.heap.size + 1 <= q -> q < w3.heap.size -> w6.heap[q]? = w3.heap[q]? := fun q hq hq2 =>
  (r3.block q (Nat.lt_of_lt_of_le hq2 B4.size) (fun e => by cases e; exact absurd hq (Nat.not_succ_le_self _))).trans (B4.block q hq2)
 have old : ∀ q, w.heap.size + 1 <= q -> q < W.heap.size -> w6.heap[q]? = W.heap[q]? := fun q hq hq2 =>
  (ne q hq (Nat.lt_of_lt_of_le hq2 s3)).trans ((B3.block q (Nat.lt_of_lt_of_le hq2 B2.size)).trans (B2.block q hq2))
 refine ⟨w6, r1, Y ++ [y], ?_, r2, ?_, ?_, by omega⟩
 . obtain ⟨hlt, he⟩ := List.getElem?_eq_some_iff.1 hx
   rw [List.map_append, h1, List.take_add_one, hx]
   simp [hd]
 . refine .snoc W.heap.size w2.heap.size w3.heap.size _ Y y (h3.imp fun p q z hp hq hz => hO _ _ _ _ _ hz fun k k1 k2 k3 => old k (by omega) k3) B2.size B3.size (hO _ _ _ _ _ hy fun k k1 k2 k3 => ne k (by have := B2.size; omega) k3) s6
 . have e1 : Below w.heap.size w w3 := (h4.trans (B2.mono h4.size)).trans (B3.mono (Nat.le_trans h4.size B2.size))
   have e2 : Below w.heap.size w (w3.alloc (.cells (E.e y).toArray t)) := e1.trans (B4.mono e1.size)
   exact e2.trans (grown_below r3 e2.size (fun q e => by cases e; exact Nat.le_refl _))
theorem cp_end (h : Cp O d t E w W n n X) (hn : n = X.length) : ∃ Y, Y.map d = X.map d /\ Rw W w.heap.size W.heap.size t E (some ⟨w.heap.size, 0, none⟩) n n Y /\ Seg (O W) w.heap.size W.heap.size Y /\ Below w.heap.size w W := by
 obtain ⟨Y, h1, h2, h3, h4, h5⟩ := h
 exact ⟨Y, by rw [h1, List.take_of_length_le (by omega)], h2.mono (Nat.le_refl _) (by omega), h3.dn (by omega), h4⟩
end
theorem box_any (W : World) (t : TypeId) (Z A : Array Value) : ∃ w2, Hid ((W.alloc (.cells Z t)).setRow W.heap.size A = w2) /\ Hid (w2.heap[W.heap.size]? = some (.cells A t (0, 0)) /\ Below W.heap.size W w2 /\ w2.heap.size = W.heap.size + 1) :=
 ⟨_, rfl, setRow_heap _ _ _ _ _ _ (heap_alloc_new W _), below_setRow (alloc1 W _) (Nat.le_refl _) A, by rw [setRow_size]; simp⟩
theorem arr_sz {α : Type} {E : Enc α} {A : Array Value} {x : α} (h : A = (E.e x).toArray) : A.size = E.z := by rw [h]; simp [E.len]
theorem arr_all {α : Type} {E : Enc α} {A : Array Value} {x : α} (h : A = (E.e x).toArray) : A.all (·.oneCell') = true := by rw [h]; exact all_oneCell_toArray (E.one x)
theorem pcO_stays : Stays (fun _ _ _ p => PcO p) := fun _ _ _ _ _ h _ => h
theorem ptO_stays : Stays (fun _ _ _ (p : Ptd) => PcO p.pc) := fun _ _ _ _ _ h _ => h
theorem obO_stays (K : Nat) : Stays (ObO K) := fun _ _ _ _ _ h hb => h.keep hb
theorem ulC_stays (K : Nat) : Stays (fun W p q u => UlO K W p q u /\ u.c = u.n) := fun _ _ _ _ _ h hb => ⟨h.1.keep hb, h.2⟩
theorem inf26 : (Tryz.prog.info? 26).map (fun i => (i.zero, i.size, i.bytes)) = some (some (.agg #[.int .i64 0,.int .i64 0,.int .i64 0,.int .i64 0,.string ⟨#[]⟩]), 5, 48) := by kernel_rfl
theorem inz26 : (Tryz.prog.info? 26).map (·.size) = some 5 := by kernel_rfl
theorem fold26 {A : Array Value} {x : Pcd} (h : A = (EPc.e x).toArray) : Array.foldl (fun cs (x : Value × Nat) => cs.setIfInBounds x.snd x.fst) #[.int .i64 0,.int .i64 0,.int .i64 0,.int .i64 0,.string ⟨#[]⟩] A.zipIdx 0 5 = A := by
 subst h
 kernel_rfl
set_option maxHeartbeats 8000000 in
theorem copyPcs {w : World} {lo hi K : Nat} {a : Option Addr} {n c : Nat} {X : List Pcd} (hA : Hid (Rw w lo hi 26 EPc a n c X)) (hn : n <= 1048576)
  (hC : ∀ x ∈ X, ∀ (W : World) (A : Array Value), Hid (A = (EPc.e x).toArray) -> Hid (Below w.heap.size w W) -> Calls Tryz.prog 80 #[.agg A] W fun e w' => ∃ B, e = .returned (.agg B) /\ Hid (∃ y, B = (EPc.e y).toArray /\ id y = id x /\ (fun _ _ _ p => PcO p) w' W.heap.size w'.heap.size y /\ Below W.heap.size W w')) :
  Calls Tryz.prog 86 #[.slice a n c, .func (.func 80) #[] #[]] w fun e w' => ∃ a', e = .returned (.slice a' n n) /\ Hid (∃ Y, Y.map id = X.map id /\ Rw w' w.heap.size w'.heap.size 26 EPc a' n n Y /\ Seg ((fun _ _ _ p => PcO p) w') w.heap.size w'.heap.size Y /\ Below w.heap.size w w') := by
 have LX : Hid (n = X.length) := hA.out.len
 have HC : Hid _ := hC
 clear hC
 obtain ⟨w1, mk0, cp0⟩ := cp_start (O := (fun _ _ _ p => PcO p)) (d := id) (E := EPc) (w := w) (n := n) Tryz.underlying69 inf26 (by decide) (by omega) hn X
 have mk := mk0
 have CP0 : Hid (Cp (fun _ _ _ p => PcO p) id 26 EPc w w1 n 0 X) := cp0
 clear mk0 cp0
 go_enter Tryz.func86, Tryz.ntmps86
 go_wp2
 clear mk
 obtain ⟨g0, Hg0⟩ := nm (w.heap.size)
 rw [Hg0.out]
 go_loopw [5, 13] (fun t5 t13 wr => ∃ (i : Nat), i <= n /\ t13 = .int .i64 i /\ t5 = .slice (some ⟨g0, 0, none⟩) i n /\ Hid (Cp (fun _ _ _ p => PcO p) id 26 EPc w wr n i X)) (fun _ t13 _ => n - (intOf t13).toNat)
 case atStart => exact ⟨0, by omega, rfl, rfl, CP0⟩
 case round =>
  clear CP0
  obtain ⟨i, hi, rfl, rfl, HP⟩ := hrel
  by_cases hlt : i < n
  . have i3 : (i : Int) < (n : Int) := by omega
    have kx : i < X.length := by rw [<- LX.out]; exact hlt
    have HB : Hid (Below w.heap.size w wr) := HP.out.choose_spec.2.2.2.1
    obtain ⟨b1, rfl, _, _, e1⟩ := (hA.out.below HB.out).at_ kx
    obtain ⟨x, Hx⟩ := nm (X[i])
    rw [Hx.out] at e1
    have EX : Hid (X[i]? = some x) := by show _ = _; rw [<- Hx.out]; exact List.getElem?_eq_getElem kx
    have MX : x ∈ X := List.mem_of_getElem? EX.out
    obtain ⟨A, HA⟩ : ∃ A, Hid (A = (EPc.e x).toArray) := ⟨_, rfl⟩
    have az : A.size = 5 := arr_sz HA.out
    have ai : (Tryz.prog.info? 26).map (·.size) = some A.size := by rw [az]; exact inz26
    have AA : Hid (A.all (·.oneCell') = true) := arr_all HA.out
    have E1 : Hid (wr.rangeAt b1 (i * 5) (EPc.e x)) := e1
    clear e1
    obtain ⟨w2, Hw2, K2⟩ := box_any wr 26 #[.int .i64 0,.int .i64 0,.int .i64 0,.int .i64 0,.string ⟨#[]⟩] A
    obtain ⟨g1, Hg1⟩ := nm (wr.heap.size)
    have LA : Hid (some A.size = some ((EPc.e x).toArray.size)) := by show _ = _; rw [HA.out]
    go_upto_region 5 with first
     | (refine wpList_load_mid (by rfl) 26 (.tmp 15) (by rfl) b1 (i * 5) (by rfl) (EPc.e x) _ E1.out Tryz.underlying26 rfl (by rw [EPc.len]; exact inz26) ?_; rw [<- HA.out])
     | (refine wpList_store_row (by rfl) 26 (.tmp 7) (.tmp 16) (by rfl) wr.heap.size A (by rfl) (by rfl) 26 _ (heap_alloc_new wr _) ai (by rw [az]; rfl) AA.out ?_)
    rw [Hw2.out, Hg1.out]
    have k1 : Hid (w2.heap[g1]? = some (.cells A 26 (0, 0))) := by rw [<- Hg1.out]; exact K2.out.1
    have B2 : Hid (Below wr.heap.size wr w2) := K2.out.2.1
    have BW := bt HB B2
    clear K2 Hw2 Hg1 E1 LA
    go_wp2_with (first
     | (refine wpList_load_row (by rfl) 26 (.tmp 7) (by rfl) g1 (by rfl) 26 A (0, 0) _ k1.out Tryz.underlying26 rfl ai ?_)
     | (go_at_call 80; refine (HC.out x MX w2 A HA BW).mono ?_; rintro e w3 ⟨B, rfl, H3⟩
        obtain ⟨y, hy1, hy2, hy3, hy4⟩ := H3.out
        have HBY : Hid (B = (EPc.e y).toArray) := hy1
        have bz : B.size = 5 := arr_sz hy1
        obtain ⟨w6, r1, r2⟩ := cp_step pcO_stays HP.out EX.out hlt Tryz.underlying69 inz26 B2.out hy4 hy2 hy3
        obtain ⟨g4, Hg4⟩ := nm (w3.heap.size)
        obtain ⟨w4, Hw4⟩ := nm (w3.alloc (.cells B 26))
        rw [<- hy1, Hw4.out, Hg4.out, Hg0.out] at r1
        have AR : Hid ((Builtin.append_ #[69, 69] 69 #[.slice (some ⟨g0, 0, none⟩) i n,.slice (some ⟨g4, 0, none⟩) 1 1]).run Tryz.prog w4 = .ok (.slice (some ⟨g0, 0, none⟩) (i + 1) n) w6) := r1
        have FIN : Hid (Cp (fun _ _ _ p => PcO p) id 26 EPc w w6 n (i + 1) X) := r2
        have FD : Hid (Array.foldl (fun cs (x : Value × Nat) => cs.setIfInBounds x.snd x.fst) #[.int .i64 0,.int .i64 0,.int .i64 0,.int .i64 0,.string ⟨#[]⟩] B.zipIdx 0 5 = B) := fold26 HBY.out
        clear hy1 hy2 hy3 hy4 H3 r1 r2)
     | (at_builtin; rw [FD.out, Hw4.out, Hg4.out]; refine wpList_appt (by rfl) (.tmp 17) (.tmp 21) (by rfl) (by rfl) (by rfl) (by rfl) AR ?_))
    go_roundw
    case rel => exact ⟨i + 1, by omega, by go_num, rfl, FIN⟩
    case measure => simp [intOf]; omega
  . have ein : i = n := by omega
    subst ein
    have FIN : Hid _ := cp_end HP.out LX.out
    clear HP
    go_wp2
    go_ret
    refine ⟨some ⟨g0, 0, none⟩, rfl, ?_⟩
    obtain ⟨Y, h1, h2, h3, h4⟩ := FIN.out
    exact ⟨Y, h1, by rw [<- Hg0.out]; exact h2, h3, h4⟩
end Go.Proofs.YtfabnnbljkkihaaGreatDoor
