/- Rows of ops of the call's own; what else the walk of a script wants. -/
import Derived.Test.YtnckcaaejfckaaaDoorOb
import Derived.Test.YtnckcaaejfckaaaDoorOs
import Derived.Lib.AppendZeros
namespace Go.Proofs.YtnckcaaejfckaaaDoor
open Go.ChangeShapes Go.WideShapes Go.ChangeAt Go.RowKit Go.Deep
set_option linter.unusedVariables false
set_option linter.unusedSimpArgs false
theorem set_lt8 {L : List Nat} (h : ∀ x ∈ L, x < 256) (k v : Nat) (hv : v < 256) : ∀ x ∈ L.set k v, x < 256 := by
  intro x hx
  rcases List.mem_or_eq_of_mem_set hx with h1 | h1
  · exact h x h1
  · omega
theorem xor_lt8 {a b : Nat} (ha : a < 256) (hb : b < 256) : a ^^^ b < 256 := Nat.xor_lt_two_pow (n := 8) ha hb
theorem xor_u8 (x k : Nat) (hx : x < 256) (hk : k < 256) : bits BinOp.xor IntKind.u8 (x : Int) (k : Int) = ((x ^^^ k : Nat) : Int) := u8_xor_nat x k hx hk
theorem grown_refl (w : World) (r : Option Nat) : w.grownBy w r := ⟨rfl, rfl, rfl, Nat.le_refl _, fun _ _ _ => rfl⟩
theorem ofInt_i64 (a : Nat) (ha : a < 9223372036854775808) : (BitVec.ofInt 64 (a : Int)).toNat = a := by
  rw [BitVec.toNat_ofInt]
  omega
theorem Own.cap {w : World} {B : Nat} {a : Option Addr} {n c : Nat} {L : List Nat} (h : Own w B a n c L) : n ≤ c := by
  rcases h.own.2 with ⟨h1, h0⟩ | ⟨g, cap, cur, h1, _, _, h5, _⟩
  · omega
  · simp only [Value.slice.injEq] at h1
    omega
theorem Own.below {w w' : World} {B : Nat} {a : Option Addr} {n c : Nat} {L : List Nat} (h : Own w B a n c L) (hb : Below w.heap.size w w') : Own w' B a n c L := h.block (fun q hq => hb.block q (h.ge q hq).2)
theorem len_tot (L : List Opt) : L.length ≤ tot L := by
  induction L with
  | nil => simp [tot]
  | cons x r ih => simp [tot] at ih ⊢; omega
theorem own_empty (w : World) : Own (w.alloc (.cells #[] 5)) w.heap.size (some ⟨w.heap.size, 0, none⟩) 0 0 [] := ⟨rfl, World.ownsRow_made w #[] 0 (Nat.le_refl _) (by unfold maxLen; omega) (by simp), by simp⟩
theorem blk_keep {w : World} {k : Nat} {x : Obj} (h : w.heap[k]? = some x) (o : Obj) : (w.alloc o).heap[k]? = some x := (Below.heap_alloc w o k (Array.getElem?_eq_some_iff.1 h).1).trans h
theorem blk_new {w : World} {k : Nat} (o : Obj) (h : k = w.heap.size) : (w.alloc o).heap[k]? = some o := by rw [h]; exact heap_alloc_new w o
theorem fz {w : World} {g t : Nat} {cs : Array Value} (h : w.heap[g]? = some (.cells cs t (0, 0))) (i : Nat) : w.frozen? ⟨g, i, none⟩ = false := by
  simp [World.frozen?, h]
theorem set_blk {w : World} {g t : Nat} {cs : Array Value} (h : w.heap[g]? = some (.cells cs t (0, 0))) (i : Nat) (v : Value) : (w.setCell ⟨g, i, none⟩ v).heap[g]? = some (.cells (cs.setIfInBounds i v) t (0, 0)) := by
  rw [setCell_eq_setRow w g i cs t (0, 0) v h]
  exact setRow_heap w g cs (cs.setIfInBounds i v) t (0, 0) h
/- an op and where its bytes lie -/
structure Oq where
  x : Opt
  a : Option Addr
  n : Nat
  c : Nat
instance : Inhabited Oq := ⟨⟨o0, none, 0, 0⟩⟩
def Oq.cells (q : Oq) : List Value := [.int .i64 q.x.kind, .int .i64 q.x.which, .slice q.a q.n q.c]
structure Oq.ok (q : Oq) (w : World) : Prop where
  w0 : (Lit.int .i64 q.x.kind).wf = true
  w1 : (Lit.int .i64 q.x.which).wf = true
  sl : Sln w q.a q.n q.x.bs
  nc : q.n ≤ q.c
  cap : q.c ≤ 140737488351232
  z : q.a = none → q.c = 0
theorem Oq.ok.below {q : Oq} {w w' : World} (h : q.ok w) (hb : Below w.heap.size w w') : q.ok w' := ⟨h.w0, h.w1, h.sl.below hb, h.nc, h.cap, h.z⟩
def qcells (qs : List Oq) : List Value := qs.flatMap Oq.cells
theorem qcells_cons (q : Oq) (qs : List Oq) : qcells (q :: qs) = q.cells ++ qcells qs := by simp [qcells]
theorem qcells_app (p q : List Oq) : qcells (p ++ q) = qcells p ++ qcells q := by simp [qcells]
theorem qcells_len (qs : List Oq) : (qcells qs).length = qs.length * 3 := by
  induction qs with
  | nil => rfl
  | cons q qs ih => rw [qcells_cons, List.length_append, ih, List.length_cons]; simp [Oq.cells]; omega
theorem qcells_get : ∀ (qs : List Oq) (i r : Nat), i < qs.length → r < 3 → (qcells qs)[i * 3 + r]? = (qs.getD i default).cells[r]?
  | [], i, r, h, _ => by simp at h
  | q :: qs, 0, r, _, hr => by
    rw [qcells_cons, List.getElem?_append_left (by simp [Oq.cells]; omega)]
    simp
  | q :: qs, i + 1, r, h, hr => by
    rw [qcells_cons, List.getElem?_append_right (by simp [Oq.cells]; omega), show (i + 1) * 3 + r - q.cells.length = i * 3 + r by simp [Oq.cells]; omega, qcells_get qs i r (by simp at h; omega) hr]
    simp
theorem qcells_one (qs : List Oq) : ∀ u ∈ qcells qs, u.oneCell' = true := by
  intro u hu
  obtain ⟨q, _, hq⟩ := List.mem_flatMap.1 hu
  simp only [Oq.cells, List.mem_cons, List.not_mem_nil, or_false] at hq
  rcases hq with rfl | rfl | rfl <;> rfl
theorem ops_mk {w : World} {b o : Nat} {qs : List Oq} (hb : b < w.heap.size) (hc : ∀ j u, (qcells qs)[j]? = some u → w.cell? ⟨b, o + j, none⟩ = some u) (ok : ∀ q ∈ qs, q.ok w) : Ops w (some ⟨b, o, none⟩) qs.length (qs.map (·.x)) := by
  refine ⟨by simp, .inr ⟨b, o, rfl, hb, fun i hi => ?_⟩⟩
  have hm : qs.getD i default ∈ qs := by
    have e : qs.getD i default = qs[i] := by simp [List.getD, hi]
    rw [e]
    exact List.getElem_mem hi
  have K := ok _ hm
  have g : ∀ r, r < 3 → ∀ u, (qs.getD i default).cells[r]? = some u → w.cell? ⟨b, o + i * 3 + r, none⟩ = some u := fun r hr u hu => by
    rw [Nat.add_assoc]
    exact hc _ u (by rw [qcells_get qs i r hi hr]; exact hu)
  have n0 : (qs.map (·.x)).getD i o0 = (qs.getD i default).x := by simp [List.getD, hi]
  rw [n0]
  exact ⟨_, _, _, g 0 (by omega) _ rfl, g 1 (by omega) _ rfl, g 2 (by omega) _ rfl, K.w0, K.w1, K.sl, K.nc, K.cap, K.z⟩
theorem ops_of {w : World} {a : Option Addr} {n : Nat} {L : List Opt} (h : Ops w a n L) : ∃ qs : List Oq, qs.map (·.x) = L ∧ (∀ q ∈ qs, q.ok w) ∧ (n = 0 ∨ ∃ b o, a = some ⟨b, o, none⟩ ∧ ∀ j u, (qcells qs)[j]? = some u → w.cell? ⟨b, o + j, none⟩ = some u) := by
  rcases h.row with h0 | ⟨b, o, ha, hb, hall⟩
  · have hl := h.len
    obtain rfl : L = [] := List.length_eq_zero_iff.1 (by omega)
    exact ⟨[], rfl, by simp, .inl h0⟩
  · have each : ∀ i, i < n → ∃ q : Oq, q.x = L.getD i o0 ∧ Opc w b (o + i * 3) q.x q.a q.n q.c := fun i hi => by
      obtain ⟨a', n', c', hc⟩ := hall i hi
      exact ⟨⟨L.getD i o0, a', n', c'⟩, rfl, hc⟩
    obtain ⟨f, hf⟩ := choose_lt each
    have hl := h.len
    refine ⟨(List.range n).map f, ?_, ?_, .inr ⟨b, o, ha, ?_⟩⟩
    · apply List.ext_getElem
      · simp [hl]
      · intro i h1 h2
        simp only [List.map_map, List.getElem_map, List.getElem_range, Function.comp]
        rw [(hf i (by omega)).1]
        simp [List.getD, h2]
    · intro q hq
      obtain ⟨i, hi, rfl⟩ := List.mem_map.1 hq
      have k := (hf i (List.mem_range.1 hi)).2
      exact ⟨k.w0, k.w1, k.sl, k.nc, k.cap, k.z⟩
    · intro j u hu
      have hj : j < n * 3 := by
        have := (List.getElem?_eq_some_iff.1 hu).1
        rw [qcells_len] at this
        simpa using this
      have hi : j / 3 < n := by omega
      have e : j = j / 3 * 3 + j % 3 := by omega
      have k := (hf (j / 3) hi).2
      have g := qcells_get ((List.range n).map f) (j / 3) (j % 3) (by simpa using hi) (by omega)
      rw [← e, hu] at g
      have n0 : ((List.range n).map f).getD (j / 3) default = f (j / 3) := by simp [List.getD, hi]
      rw [n0] at g
      rw [e, ← Nat.add_assoc]
      have h4 : j % 3 = 0 ∨ j % 3 = 1 ∨ j % 3 = 2 := by omega
      rcases h4 with h4 | h4 | h4 <;> rw [h4] at g ⊢ <;> simp only [Oq.cells, List.getElem?_cons_zero, List.getElem?_cons_succ, Option.some.injEq] at g <;> rw [g]
      · exact k.c0
      · exact k.c1
      · exact k.c2
theorem info35 : (Tryd.prog.info? 35).map (fun i => (i.zero, i.size, i.bytes)) = some (some (.agg #[.int .i64 0, .int .i64 0, .slice none 0 0]), 3, 40) := by kernel_rfl
/- a row of ops of the call's own -/
def Oow (w : World) (B g k cap : Nat) (qs : List Oq) : Prop := w.ownsRow B 35 3 (.slice (some ⟨g, 0, none⟩) k cap) k (qcells qs)
theorem oow_new (w : World) : Oow (w.alloc (.cells #[] 35)) w.heap.size w.heap.size 0 0 [] := World.ownsRow_made w #[] 0 (Nat.le_refl _) (by unfold maxLen; omega) (by simp)
theorem Oow.cells {w : World} {B g k cap : Nat} {qs : List Oq} (h : Oow w B g k cap qs) : B ≤ g ∧ g < w.heap.size ∧ ∀ j u, (qcells qs)[j]? = some u → w.cell? ⟨g, 0 + j, none⟩ = some u := by
  unfold Oow at h
  rcases h.2 with ⟨h1, _⟩ | ⟨g', cap', cur, h1, h2, h3, h4, h5, h6, h7⟩
  · simp at h1
  · simp only [Value.slice.injEq, Option.some.injEq, Addr.mk.injEq, and_true] at h1
    obtain ⟨rfl, _, rfl⟩ := h1
    refine ⟨h2, (Array.getElem?_eq_some_iff.1 h3).1, fun j u hu => ?_⟩
    rw [Nat.zero_add]
    rw [← h7] at hu
    have hj : j < k * 3 := by
      have := (List.getElem?_eq_some_iff.1 hu).1
      simp at this
      omega
    rw [List.getElem?_take_of_lt hj] at hu
    unfold World.cell?
    rw [h3]
    simpa using hu
theorem Oow.ops {w : World} {B g k cap : Nat} {qs : List Oq} (h : Oow w B g k cap qs) (ok : ∀ q ∈ qs, q.ok w) : Ops w (some ⟨g, 0, none⟩) k (qs.map (·.x)) := by
  have hk : k = qs.length := by have := h.1; rw [qcells_len] at this; omega
  rw [hk]
  exact ops_mk h.cells.2.1 h.cells.2.2 ok
theorem app_ops {w : World} {B g k cap : Nat} {ps qs : List Oq} {a : Option Addr} {n c : Nat} (own : Oow w B g k cap ps) (hn : n = qs.length) (hX : n = 0 ∨ ∃ b o, a = some ⟨b, o, none⟩ ∧ ∀ j u, (qcells qs)[j]? = some u → w.cell? ⟨b, o + j, none⟩ = some u) (hz : a = none → c = 0) (hb : k + n ≤ 1000000000) (hB : B ≤ w.heap.size) :
    ∃ g' cap' w', (Builtin.append_ #[29, 29] 29 #[.slice (some ⟨g, 0, none⟩) k cap, .slice a n c]).run Tryd.prog w = .ok (.slice (some ⟨g', 0, none⟩) (k + n) cap') w' ∧ Oow w' B g' (k + n) cap' (ps ++ qs) ∧ w.grownBy w' (some g) := by
  obtain ⟨x, hx, hz0, hz1, hz2⟩ := info_parts info35
  cases a with
  | none =>
    have c0 := hz rfl
    have n0 : n = 0 := by
      rcases hX with h | ⟨b, o, h, _⟩
      · exact h
      · simp at h
    subst n0 c0
    obtain rfl : qs = [] := List.length_eq_zero_iff.1 hn.symm
    exact ⟨g, cap, w, run_append_owned_none (P := Tryd.prog) w B 29 29 35 x 3 Tryd.underlying29 hx _ k _ own, by simpa using own, grown_refl _ _⟩
  | some ad =>
    have hcell : ∀ j u, (qcells qs)[j]? = some u → w.cell? (ad.add j) = some u := by
      intro j u hu
      rcases hX with h | ⟨b, o, h, hc⟩
      · obtain rfl : qs = [] := List.length_eq_zero_iff.1 (by omega)
        simp [qcells] at hu
      · simp only [Option.some.injEq] at h
        subst h
        rw [Addr.add_mid]
        exact hc j u hu
    obtain ⟨v', w', hrun, hown, hgr, hnil⟩ := run_append_own (P := Tryd.prog) w B 29 29 35 x _ 3 40 Tryd.underlying29 hx hz0 hz1 hz2 rfl (by decide) _ k (qcells ps) own ad n c (qcells qs) (by rw [qcells_len, hn]) hcell (qcells_one qs) (by unfold maxLen; omega) (by omega) hB
    rcases hown.2 with ⟨h0, _⟩ | ⟨g', cap', cur, rfl, _⟩
    · have := (hnil.1 h0).1
      simp at this
    · exact ⟨g', cap', w', hrun, by unfold Oow; rw [qcells_app]; exact hown, hgr⟩
structure Ch (w w' : World) (S : Nat → Prop) : Prop where
  os : w'.os = w.os
  tape : w'.tape = w.tape
  output : w'.output = w.output
  size : w.heap.size ≤ w'.heap.size
  block : ∀ k, k < w.heap.size → ¬ S k → w'.heap[k]? = w.heap[k]?
theorem Ch.below {w w' : World} (h : Below w.heap.size w w') : Ch w w' (fun _ => False) := ⟨h.os, h.tape, h.output, h.size, fun k hk _ => h.block k hk⟩
theorem Ch.grown {w w' : World} {r : Option Nat} (h : w.grownBy w' r) : Ch w w' (fun q => r = some q) := ⟨h.os, h.tape, h.output, h.size, fun k hk hn => h.block k hk (fun e => hn e.symm)⟩
theorem Ch.set (w : World) (g i : Nat) (v : Value) : Ch w (w.setCell ⟨g, i, none⟩ v) (fun q => q = g) := ⟨rfl, rfl, rfl, by simp [World.setCell], fun k hk hn => Below.heap_setCell _ _ _ _ hn⟩
theorem Ch.trans {w w1 w2 : World} {S T : Nat → Prop} (h : Ch w w1 S) (k : Ch w1 w2 T) : Ch w w2 (fun q => S q ∨ T q) := ⟨k.os.trans h.os, k.tape.trans h.tape, k.output.trans h.output, Nat.le_trans h.size k.size, fun i hi hn => (k.block i (Nat.lt_of_lt_of_le hi h.size) (fun e => hn (.inr e))).trans (h.block i hi (fun e => hn (.inl e)))⟩
theorem Ch.weak {w w' : World} {S T : Nat → Prop} (h : Ch w w' S) (k : ∀ q, q < w.heap.size → S q → T q) : Ch w w' T := ⟨h.os, h.tape, h.output, h.size, fun i hi hn => h.block i hi (fun e => hn (k i hi e))⟩
theorem Ch.belowB {w0 w w' : World} {B : Nat} {S : Nat → Prop} (hb : Below B w0 w) (h : Ch w w' S) (hB : B ≤ w.heap.size) (hS : ∀ q, q < w.heap.size → S q → B ≤ q) : Below B w0 w' := hb.trans ⟨h.os, h.tape, h.output, h.size, fun k hk => h.block k (by omega) (fun e => by have := hS k (by omega) e; omega)⟩
theorem Own.ch {w w' : World} {B : Nat} {a : Option Addr} {n c : Nat} {L : List Nat} {S : Nat → Prop} (h : Own w B a n c L) (hc : Ch w w' S) (hn : ∀ q, blkOf a = some q → ¬ S q) : Own w' B a n c L := h.block (fun q hq => hc.block q (h.ge q hq).2 (hn q hq))
def rel (n v : Nat) (lab : Nat → Nat) : Nat → Nat := fun p => if n ≤ p then v else lab p
theorem rel_old {n v p : Nat} {lab : Nat → Nat} (h : p < n) : rel n v lab p = lab p := if_neg (by omega)
theorem rel_new {n v p : Nat} {lab : Nat → Nat} (h : n ≤ p) : rel n v lab p = v := if_pos h
def tlc (c : Nat) (C : World → Prop) (L : Array Bool) (W : World) : Prop := L.getD c false = true ∨ C W
theorem tlc_set {c i : Nat} {C : World → Prop} {L : Array Bool} {W : World} (h : i ≠ c) : tlc c C (L.setIfInBounds i true) W ↔ tlc c C L W := by
  unfold tlc
  rw [getD_set_ne false h]
theorem tlc_get {c : Nat} {C : World → Prop} {L : Array Bool} {W : World} (h : L.getD c true = false) (hs : tlc c C L W) : C W := hs.resolve_left (by rw [getD_off1 h]; decide)
theorem and_one (z : Int) : ∃ k : Nat, k < 2 ∧ bits .and .i64 z 1 = (k : Int) := by
  refine ⟨(BitVec.ofInt 64 z).toNat &&& 1, ?_, ?_⟩
  · have : (BitVec.ofInt 64 z).toNat &&& 1 ≤ 1 := Nat.and_le_right
    omega
  · have h : (BitVec.ofInt 64 z).toNat &&& 1 ≤ 1 := Nat.and_le_right
    show IntKind.i64.wrap ((BitVec.ofInt 64 z &&& BitVec.ofInt 64 ((1 : Nat) : Int)).toNat : Int) = _
    rw [BitVec.toNat_and, ofInt_i64 1 (by omega), IntKind.wrap_i64]
    omega
theorem row_op {W wr : World} {g : Nat} {Q : List Oq} (hc : ∀ j u, (qcells Q)[j]? = some u → W.cell? ⟨g, 0 + j, none⟩ = some u) (he : wr.heap[g]? = W.heap[g]?) {i : Nat} (hi : i < Q.length) :
    wr.cell? ⟨g, i * 3, none⟩ = some (.int .i64 (Q.getD i default).x.kind) ∧ wr.cell? ⟨g, i * 3 + 1, none⟩ = some (.int .i64 (Q.getD i default).x.which) ∧ wr.cell? ⟨g, i * 3 + 2, none⟩ = some (.slice (Q.getD i default).a (Q.getD i default).n (Q.getD i default).c) := by
  have g' : ∀ r, r < 3 → ∀ u, (Q.getD i default).cells[r]? = some u → wr.cell? ⟨g, i * 3 + r, none⟩ = some u := fun r hr u hu => by
    have := hc (i * 3 + r) u (by rw [qcells_get Q i r hi hr]; exact hu)
    rw [Nat.zero_add] at this
    rw [World.cell?_of_block (w := W) he]
    exact this
  exact ⟨g' 0 (by omega) _ rfl, g' 1 (by omega) _ rfl, g' 2 (by omega) _ rfl⟩
theorem getD_mem {Q : List Oq} {i : Nat} (hi : i < Q.length) : Q.getD i default ∈ Q := by
  have e : Q.getD i default = Q[i] := by simp [List.getD, hi]
  rw [e]
  exact List.getElem_mem hi
theorem tot_nextq {Q : List Oq} {i : Nat} (hi : i < Q.length) : tot ((Q.map (·.x)).take (i + 1)) = tot ((Q.map (·.x)).take i) + (Q.getD i default).x.bs.length + 1 := by
  rw [take_opt (by simpa using hi), tot_snoc]
  have e : (Q.map (·.x)).getD i o0 = (Q.getD i default).x := by simp [List.getD, hi]
  rw [e]
theorem wpList_app29 {ops : Array Oper} {rest : List Oper} {o : Oper} {a : Act} {Q : Exit → Act → World → Prop} {w w' : World} {v v1 v2 : Value} (hgd : o.guard = none) (s x : Operand)
    (ho : o.op = .call { callee := .builtin .append, args := #[s, x], argTypes := #[29, 29] }) (hty : o.type = 29) (hs : a.eval s = v1) (hx : a.eval x = v2) (hrun : Hid ((Builtin.append_ #[29, 29] 29 #[v1, v2]).run Tryd.prog w = .ok v w'))
    (h : wpList Tryd.prog ops Q rest (a.put o.dst v) w') : wpList Tryd.prog ops Q (o :: rest) a w := by
  refine wpList_plain hgd fun K hK => ?_
  have hr := hrun.out
  unfold Oper.wp
  simp [execOp, ho, resolve, invoke, builtin, hs, hx, hty, hr, Result.andThen]
  exact hK _ _ h
theorem nil_cap29 {H : Type} {enc : TypeId × Value → H} {W : World} {fuel : Nat} {a : Option Addr} {n k : Nat} {y : DataW H × List MemPlace} (hf : DataW.trod enc Tryd.prog W 0 (fun _ => true) true fuel 29 [.slice a n k] = some y) : a = none → k = 0 := by
  rcases open_slice Tryd.underlying29 hf with ⟨hcs, _⟩ | ⟨x, len, cap, m, fu, D, Pl, hcs, _⟩
  · simp at hcs
    exact fun _ => hcs.2.2
  · simp at hcs
    intro h
    rw [h] at hcs
    simp at hcs
end Go.Proofs.YtnckcaaejfckaaaDoor
