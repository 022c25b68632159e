/- What a Writer's calls do to a machine: NewWriter, Num, Text, Bytes, Done; bytes.Clone. -/
import Derived.Test.YtoegfckafnlknaaDoorVd
import Derived.Test.YtoegfckafnlknaaDoorVs
import Derived.Laws.Cover3
namespace Go.Proofs.YtoegfckafnlknaaDoor
set_option maxRecDepth 20000
open Go.ChangeShapes Go.WideShapes Go.ChangeAt Go.RowKit
set_option linter.unusedVariables false
set_option linter.unusedSimpArgs false
/- a Writer at block g: what was put lies in a row of its own -/
structure Wri (w : World) (g B : Nat) (a : Option Addr) (n c : Nat) (L : List Nat) (s : Bool) : Prop where
  blk : w.heap[g]? = some (.cells #[.slice a n c, .bool s] 107 (0, 0))
  own : Own w B a n c L
  ne : blkOf a ≠ some g
/- all but block g and the row's is as it was -/
structure Wfr (w w' : World) (g : Nat) (a : Option Addr) : Prop where
  os : w'.os = w.os
  tape : w'.tape = w.tape
  output : w'.output = w.output
  size : w.heap.size ≤ w'.heap.size
  block : ∀ k, k < w.heap.size → k ≠ g → some k ≠ blkOf a → w'.heap[k]? = w.heap[k]?
theorem Wfr.refl (w : World) (g : Nat) (a : Option Addr) : Wfr w w g a := ⟨rfl, rfl, rfl, Nat.le_refl _, fun _ _ _ _ => rfl⟩
theorem Wfr.trans {w w1 w2 : World} {g : Nat} {a a1 : Option Addr} (h : Wfr w w1 g a) (h1 : Wfr w1 w2 g a1) (hn : New w a a1) : Wfr w w2 g a :=
  ⟨h1.os.trans h.os, h1.tape.trans h.tape, h1.output.trans h.output, Nat.le_trans h.size h1.size, fun k hk hne hne2 => (h1.block k (Nat.lt_of_lt_of_le hk h.size) hne (fun e => by
    rcases hn k e.symm with h2 | h2
    · exact hne2 h2.symm
    · omega)).trans (h.block k hk hne hne2)⟩
theorem Wfr.grown {w w' : World} {a : Option Addr} (g : Nat) (h : w.grownBy w' (blkOf a)) : Wfr w w' g a := ⟨h.os, h.tape, h.output, h.size, fun k hk _ h2 => h.block k hk h2⟩
theorem Wfr.setCell {w w' : World} {g : Nat} {a : Option Addr} (h : Wfr w w' g a) (i : Nat) (v : Value) : Wfr w (w'.setCell ⟨g, i, none⟩ v) g a :=
  ⟨h.os, h.tape, h.output, by simp [World.setCell]; exact h.size, fun k hk h1 h2 => (Below.heap_setCell _ _ _ _ h1).trans (h.block k hk h1 h2)⟩
theorem Wfr.below {w0 w w' : World} {B g : Nat} {a : Option Addr} (hb : Below B w0 w) (h : Wfr w w' g a) (hg : B ≤ g) (ha : ∀ q, blkOf a = some q → B ≤ q) (hB : B ≤ w.heap.size) : Below B w0 w' :=
  hb.trans ⟨h.os, h.tape, h.output, h.size, fun k hk => h.block k (by omega) (by omega) (fun e => by have := ha k e.symm; omega)⟩
theorem Wfr.sln {w w' : World} {g : Nat} {a a2 : Option Addr} {m : Nat} {l : List Nat} (h : Wfr w w' g a) (hS : Sln w a2 m l) (hap : ∀ b off, l ≠ [] → a2 = some ⟨b, off, none⟩ → b ≠ g ∧ some b ≠ blkOf a) : Sln w' a2 m l := by
  refine ⟨hS.len, hS.sli.1, hS.sli.2.1, ?_⟩
  by_cases hl : l = []
  · exact .inl hl
  · obtain ⟨b, off, h1, h2, h3⟩ := hS.sli.2.2.resolve_left hl
    obtain ⟨h4, h5⟩ := hap b off hl h1
    exact .inr ⟨b, off, h1, Nat.lt_of_lt_of_le h2 h.size, fun i hi => (World.cell?_of_block (w := w) (a := ⟨b, off + i, none⟩) (h.block b h2 h4 h5)).trans (h3 i hi)⟩
theorem Wri.lt {w : World} {g B : Nat} {a : Option Addr} {n c : Nat} {L : List Nat} {s : Bool} (h : Wri w g B a n c L s) : g < w.heap.size := (Array.getElem?_eq_some_iff.1 h.blk).1
theorem Wri.c0 {w : World} {g B : Nat} {a : Option Addr} {n c : Nat} {L : List Nat} {s : Bool} (h : Wri w g B a n c L s) : w.cell? ⟨g, 0, none⟩ = some (.slice a n c) := by
  have := h.blk
  simp [World.cell?, this]
theorem Wri.c1 {w : World} {g B : Nat} {a : Option Addr} {n c : Nat} {L : List Nat} {s : Bool} (h : Wri w g B a n c L s) : w.cell? ⟨g, 1, none⟩ = some (.bool s) := by
  have := h.blk
  simp [World.cell?, this]
theorem fz {w : World} {g t : Nat} {cs : Array Value} (h : w.heap[g]? = some (.cells cs t (0, 0))) (i : Nat) : w.frozen? ⟨g, i, none⟩ = false := by
  simp [World.frozen?, h]
theorem set_blk {w : World} {g t : Nat} {cs : Array Value} (h : w.heap[g]? = some (.cells cs t (0, 0))) (i : Nat) (v : Value) : (w.setCell ⟨g, i, none⟩ v).heap[g]? = some (.cells (cs.setIfInBounds i v) t (0, 0)) := by
  rw [setCell_eq_setRow w g i cs t (0, 0) v h]
  exact setRow_heap w g cs (cs.setIfInBounds i v) t (0, 0) h
/- the row put behind: what the writer is when the new row is stored -/
theorem Wri.put {w w1 : World} {g B : Nat} {a a1 : Option Addr} {n c n1 c1 : Nat} {L L1 : List Nat} {s : Bool} (h : Wri w g B a n c L s) (gr : w.grownBy w1 (blkOf a)) (new : New w a a1) (own : Own w1 B a1 n1 c1 L1) :
    w1.heap[g]? = some (.cells #[.slice a n c, .bool s] 107 (0, 0)) ∧ Wri (w1.setCell ⟨g, 0, none⟩ (.slice a1 n1 c1)) g B a1 n1 c1 L1 s ∧ Wfr w (w1.setCell ⟨g, 0, none⟩ (.slice a1 n1 c1)) g a := by
  have hb : w1.heap[g]? = some (.cells #[.slice a n c, .bool s] 107 (0, 0)) := (gr.block g h.lt (fun e => h.ne e.symm)).trans h.blk
  have hne : blkOf a1 ≠ some g := by
    intro e
    rcases new g e with h1 | h1
    · exact h.ne h1
    · have := h.lt; omega
  refine ⟨hb, ⟨?_, ?_, hne⟩, (Wfr.grown g gr).setCell 0 _⟩
  · rw [set_blk hb]; rfl
  · exact own.block (fun q hq => Below.heap_setCell _ _ _ _ (fun e => hne (by rw [hq, e])))
theorem Wri.bad {w : World} {g B : Nat} {a : Option Addr} {n c : Nat} {L : List Nat} {s : Bool} (h : Wri w g B a n c L s) : Wri (w.setCell ⟨g, 1, none⟩ (.bool true)) g B a n c L true ∧ Wfr w (w.setCell ⟨g, 1, none⟩ (.bool true)) g a := by
  refine ⟨⟨by rw [set_blk h.blk]; rfl, h.own.block (fun q hq => Below.heap_setCell _ _ _ _ (fun e => h.ne (by rw [hq, e]))), h.ne⟩, (Wfr.refl w g a).setCell 1 _⟩
/- a Writer elsewhere stays -/
theorem Wri.wfr {w w' : World} {g B g2 : Nat} {a a2 : Option Addr} {n c : Nat} {L : List Nat} {s : Bool} (h : Wri w g B a n c L s) (f : Wfr w w' g2 a2) (h1 : g ≠ g2) (h2 : some g ≠ blkOf a2) (h3 : blkOf a ≠ some g2) (h4 : ∀ q, blkOf a = some q → some q ≠ blkOf a2) : Wri w' g B a n c L s :=
  ⟨(f.block g h.lt h1 h2).trans h.blk, h.own.block (fun q hq => f.block q (h.own.ge q hq).2 (fun e => h3 (by rw [hq, e])) (h4 q hq)), h.ne⟩
theorem newWriter_n (w : World) : Calls Tryd.prog 67 #[] w fun e w' => e = .returned (.pointer (some ⟨w.heap.size, 0, none⟩)) ∧ Hid (w' = w.alloc (.cells #[.slice none 0 0, .bool false] 107)) := by
  go_enter Tryd.func67, Tryd.ntmps67
  go_wp2
  go_ret
  exact ⟨rfl, rfl⟩
theorem Wri.new (w : World) (B : Nat) : Wri (w.alloc (.cells #[.slice none 0 0, .bool false] 107)) w.heap.size B none 0 0 [] false := ⟨heap_alloc_new w _, Own.nil _ _, by simp [blkOf]⟩
set_option maxHeartbeats 1000000 in
theorem num_n {w : World} {g B : Nat} {a : Option Addr} {n c N : Nat} {L : List Nat} {s : Bool} (hW : Hid (Wri w g B a n c L s)) (hN : N < 9223372036854775808) (hB : Hid (B ≤ w.heap.size)) (hb : Hid (n + 9 ≤ 140737488352256)) :
    Calls Tryd.prog 46 #[.pointer (some ⟨g, 0, none⟩), .int .i64 (N : Int)] w fun e w' => ∃ a' n' c', e = .returned (.tuple #[]) ∧ Hid (Wri w' g B a' n' c' (L ++ enc N) s ∧ Wfr w w' g a ∧ New w a a') := by
  have c0 := hW.out.c0
  have O := hW.out.own
  have OO : Hid (Own w B a n c L) := O
  have i1 : ¬ ((N : Int) < 0) := by omega
  have HN : Hid (N < 9223372036854775808) := hN
  clear O
  go_enter Tryd.func46, Tryd.ntmps46
  go_wp2_with (first
    | (go_at_call 79; refine (appendNumber_n OO HN hB hb).mono ?_; rintro e w1 ⟨a1, n1, c1, rfl, H1⟩
       obtain ⟨hb1, hw2, hf2⟩ := hW.out.put H1.out.gr H1.out.new H1.out.own
       have c01 : w1.cell? ⟨g, 0, none⟩ = some (.slice a n c) := by simp [World.cell?, hb1]
       have f01 : w1.frozen? ⟨g, 0, none⟩ = false := fz hb1 0
       have W2 : Hid (Wri (w1.setCell ⟨g, 0, none⟩ (.slice a1 n1 c1)) g B a1 n1 c1 (L ++ enc N) s ∧ Wfr w (w1.setCell ⟨g, 0, none⟩ (.slice a1 n1 c1)) g a ∧ New w a a1) := ⟨hw2, hf2, H1.out.new⟩
       clear hb1 hw2 hf2 H1))
  go_end0
  exact ⟨a1, n1, c1, rfl, W2.out⟩
theorem num_bad {w : World} {g B : Nat} {a : Option Addr} {n c : Nat} {L : List Nat} {s : Bool} {z : Int} (hW : Hid (Wri w g B a n c L s)) (hz : (Lit.int .i64 z).wf = true) (hn : z < 0) :
    Calls Tryd.prog 46 #[.pointer (some ⟨g, 0, none⟩), .int .i64 z] w fun e w' => e = .returned (.tuple #[]) ∧ Hid (Wri w' g B a n c L true ∧ Wfr w w' g a) := by
  have c1 := hW.out.c1
  have f1 := fz hW.out.blk 1
  have W2 : Hid (Wri (w.setCell ⟨g, 1, none⟩ (.bool true)) g B a n c L true ∧ Wfr w (w.setCell ⟨g, 1, none⟩ (.bool true)) g a) := hW.out.bad
  have bz := bounds_i64 hz
  go_enter Tryd.func46, Tryd.ntmps46
  go_wp2
  refine bodyPost_ret (results_none rfl _ _ _) rfl ?_
  exact ⟨rfl, W2.out⟩
theorem wpList_app9 {ops : Array Oper} {rest : List Oper} {o : Oper} {a : Act} {Q : Exit → Act → World → Prop} {w w' : World} {v v1 v2 : Value} (hgd : o.guard = none) (s x : Operand)
    (ho : o.op = .call { callee := .builtin .append, args := #[s, x], argTypes := #[35, 9] }) (hty : o.type = 35) (hs : a.eval s = v1) (hx : a.eval x = v2) (hrun : Hid ((Builtin.append_ #[35, 9] 35 #[v1, v2]).run Tryd.prog w = .ok v w'))
    (h : wpList Tryd.prog ops Q rest (a.put o.dst v) w') : wpList Tryd.prog ops Q (o :: rest) a w := by
  refine wpList_plain hgd fun K hK => ?_
  have hr := hrun.out
  unfold Oper.wp
  simp [execOp, ho, resolve, invoke, builtin, hs, hx, hty, hr, Result.andThen]
  exact hK _ _ h
set_option maxHeartbeats 1000000 in
theorem text_n {w : World} {g B : Nat} {a : Option Addr} {n c m : Nat} {L l : List Nat} {s : Bool} (hW : Hid (Wri w g B a n c L s)) (hl : Hid (∀ x ∈ l, x < 256)) (hm : Hid (m = l.length)) (hB : Hid (B ≤ w.heap.size)) (hb : Hid (n + m + 18 ≤ 140737488352256)) :
    Calls Tryd.prog 69 #[.pointer (some ⟨g, 0, none⟩), .string (spell l)] w fun e w' => ∃ a' n' c', e = .returned (.tuple #[]) ∧ Hid (Wri w' g B a' n' c' (L ++ (enc m ++ l)) s ∧ Wfr w w' g a ∧ New w a a') := by
  have es : (spell l).size = m := by rw [spell_size]; exact hm.out.symm
  have hm2 : m < 9223372036854775808 := by have := hb.out; omega
  have hb1 : Hid (n + 9 ≤ 140737488352256) := by have := hb.out; show _ ≤ _; omega
  go_enter Tryd.func69, Tryd.ntmps69
  go_wp2_with (first
    | (go_at_call 46; refine (num_n hW hm2 hB hb1).mono ?_; rintro e w1 ⟨a1, n1, c1, rfl, H1⟩
       have hn1 : n1 = n + (enc m).length := by rw [H1.out.1.own.len, List.length_append, hW.out.own.len]
       have he := enc_nine hm2
       obtain ⟨a2, c2, w2, hrun, own2, gr2, new2⟩ := app_anys H1.out.1.own hl.out hm.out (by have := hb.out; omega) (Nat.le_trans hB.out H1.out.2.1.size)
       have c0 := H1.out.1.c0
       have AP : Hid ((Builtin.append_ #[35, 9] 35 #[.slice a1 n1 c1, .string (spell l)]).run Tryd.prog w1 = .ok (.slice a2 (n1 + m) c2) w2) := hrun
       obtain ⟨hb2, hw2, hf2⟩ := H1.out.1.put gr2 new2 own2
       have c01 : w2.cell? ⟨g, 0, none⟩ = some (.slice a1 n1 c1) := by simp [World.cell?, hb2]
       have f01 : w2.frozen? ⟨g, 0, none⟩ = false := fz hb2 0
       rw [List.append_assoc] at hw2
       have W2 : Hid (Wri (w2.setCell ⟨g, 0, none⟩ (.slice a2 (n1 + m) c2)) g B a2 (n1 + m) c2 (L ++ (enc m ++ l)) s ∧ Wfr w (w2.setCell ⟨g, 0, none⟩ (.slice a2 (n1 + m) c2)) g a ∧ New w a a2) := ⟨hw2, H1.out.2.1.trans hf2 H1.out.2.2, H1.out.2.2.trans new2 H1.out.2.1.size⟩
       clear hrun own2 gr2 new2 hb2 hw2 hf2 hn1 he)
    | (at_builtin; refine wpList_app9 (by rfl) (.tmp 12) (.tmp 13) (by rfl) (by rfl) (by rfl) (by rfl) AP ?_))
  go_end0
  exact ⟨a2, n1 + m, c2, rfl, W2.out⟩
set_option maxHeartbeats 1000000 in
theorem wbytes_n {w : World} {g B : Nat} {a : Option Addr} {n c : Nat} {L l : List Nat} {s : Bool} {ab : Option Addr} {m cb : Nat} (hW : Hid (Wri w g B a n c L s)) (hS : Hid (Sln w ab m l)) (hc : Hid (ab = none → cb = 0)) (hap : Hid (∀ b off, l ≠ [] → ab = some ⟨b, off, none⟩ → b ≠ g ∧ some b ≠ blkOf a)) (hB : Hid (B ≤ w.heap.size)) (hb : Hid (n + m + 18 ≤ 140737488352256)) :
    Calls Tryd.prog 47 #[.pointer (some ⟨g, 0, none⟩), .slice ab m cb] w fun e w' => ∃ a' n' c', e = .returned (.tuple #[]) ∧ Hid (Wri w' g B a' n' c' (L ++ (enc m ++ l)) s ∧ Wfr w w' g a ∧ New w a a') := by
  have hm2 : m < 9223372036854775808 := by have := hb.out; omega
  have hb1 : Hid (n + 9 ≤ 140737488352256) := by have := hb.out; show _ ≤ _; omega
  go_enter Tryd.func47, Tryd.ntmps47
  go_wp2_with (first
    | (go_at_call 46; refine (num_n hW hm2 hB hb1).mono ?_; rintro e w1 ⟨a1, n1, c1, rfl, H1⟩
       have hn1 : n1 = n + (enc m).length := by rw [H1.out.1.own.len, List.length_append, hW.out.own.len]
       have he := enc_nine hm2
       obtain ⟨a2, c2, w2, hrun, own2, gr2, new2⟩ := app_any H1.out.1.own (H1.out.2.1.sln hS.out hap.out) hc.out (by have := hb.out; omega) (Nat.le_trans hB.out H1.out.2.1.size)
       have c0 := H1.out.1.c0
       have AP : Hid ((Builtin.append_ #[35, 35] 35 #[.slice a1 n1 c1, .slice ab m cb]).run Tryd.prog w1 = .ok (.slice a2 (n1 + m) c2) w2) := hrun
       obtain ⟨hb2, hw2, hf2⟩ := H1.out.1.put gr2 new2 own2
       have c01 : w2.cell? ⟨g, 0, none⟩ = some (.slice a1 n1 c1) := by simp [World.cell?, hb2]
       have f01 : w2.frozen? ⟨g, 0, none⟩ = false := fz hb2 0
       rw [List.append_assoc] at hw2
       have W2 : Hid (Wri (w2.setCell ⟨g, 0, none⟩ (.slice a2 (n1 + m) c2)) g B a2 (n1 + m) c2 (L ++ (enc m ++ l)) s ∧ Wfr w (w2.setCell ⟨g, 0, none⟩ (.slice a2 (n1 + m) c2)) g a ∧ New w a a2) := ⟨hw2, H1.out.2.1.trans hf2 H1.out.2.2, H1.out.2.2.trans new2 H1.out.2.1.size⟩
       clear hrun own2 gr2 new2 hb2 hw2 hf2 hn1 he)
    | (at_builtin; refine wpList_app (by rfl) (.tmp 12) (.tmp 13) (by rfl) (by rfl) (by rfl) (by rfl) AP ?_))
  go_end0
  exact ⟨a2, n1 + m, c2, rfl, W2.out⟩
theorem eql_nil (w : World) (a : Option Addr) (n c : Nat) : (binOp .eql 35 (.slice a n c) (.slice none 0 0)).run Tryd.prog w = .ok (.bool a.isNone) w := by
  simp [binOp, run_equal_slice_nil w 35 5 a n c Tryd.underlying35]
/- bytes.Clone: the same bytes in new memory -/
set_option maxHeartbeats 1000000 in
theorem clone_n {w : World} {a : Option Addr} {n c : Nat} {l : List Nat} (hS : Hid (Sln w a n l)) (hc : Hid (a = none → c = 0)) :
    Calls Tryd.prog 70 #[.slice a n c] w fun e w' => ∃ a' c', e = .returned (.slice a' n c') ∧ Hid (Own w' w.heap.size a' n c' l ∧ Below w.heap.size w w') := by
  cases a with
  | none =>
    have hl : l = [] := by
      rcases hS.out.sli.2.2 with h | ⟨b, off, h, _⟩
      · exact h
      · simp at h
    have hn : n = 0 := by rw [hS.out.len, hl]; rfl
    subst hl hn
    have h0 : c = 0 := hc.out rfl
    subst h0
    have EQ := eql_nil w none 0 0
    rw [show (none : Option Addr).isNone = true from rfl] at EQ
    go_enter Tryd.func70, Tryd.ntmps70
    go_wp2
    go_ret
    exact ⟨none, 0, rfl, Own.nil _ _, Below.refl _ _⟩
  | some ad =>
    have O0 : Own (w.alloc (.cells #[] 5)) w.heap.size (some ⟨w.heap.size, 0, none⟩) 0 0 [] := ⟨rfl, World.ownsRow_made w #[] 0 (Nat.le_refl _) (by unfold maxLen; omega) (by simp), by simp⟩
    have m := hS.out.sli.2.1
    have e := hS.out.len
    have b1 : Below w.heap.size w (w.alloc (.cells #[] 5)) := (Below.refl _ _).alloc (Nat.le_refl _) _
    obtain ⟨a2, c2, w2, hrun, own2, gr2, new2⟩ := app_any (c2 := c) O0 (hS.out.below b1) (by simp) (by omega) (by simp)
    rw [Nat.zero_add] at hrun own2
    have AP : Hid ((Builtin.append_ #[35, 35] 35 #[.slice (some ⟨w.heap.size, 0, none⟩) 0 0, .slice (some ad) n c]).run Tryd.prog (w.alloc (.cells #[] 5)) = .ok (.slice a2 n c2) w2) := hrun
    have F : Hid (Own w2 w.heap.size a2 n c2 l ∧ Below w.heap.size w w2) := ⟨by simpa using own2, b1.grown gr2 (by simp) (fun k e => by simp [blkOf] at e; omega)⟩
    clear hrun own2 gr2 new2 b1 O0 m e
    have EQ := eql_nil w (some ad) n c
    rw [show (some ad : Option Addr).isNone = false from rfl] at EQ
    go_enter Tryd.func70, Tryd.ntmps70
    go_wp2_with (at_builtin; refine wpList_app (by rfl) (.tmp 5) (.tmp 6) (by rfl) (by rfl) (by rfl) (by rfl) AP ?_)
    go_ret
    exact ⟨a2, c2, rfl, F.out⟩
set_option maxHeartbeats 1000000 in
theorem done_n {w : World} {g B : Nat} {a : Option Addr} {n c : Nat} {L : List Nat} (hW : Hid (Wri w g B a n c L false)) (hb : Hid (n ≤ 140737488352256)) :
    Calls Tryd.prog 35 #[.pointer (some ⟨g, 0, none⟩)] w fun e w' => ∃ a' c', e = .returned (.tuple #[.slice a' n c', .nilIface]) ∧ Hid (Own w' w.heap.size a' n c' L ∧ Below w.heap.size w w') := by
  have c0 := hW.out.c0
  have c1 := hW.out.c1
  have S : Hid (Sln w a n L) := hW.out.own.sln hb.out
  have Z : Hid (a = none → c = 0) := hW.out.own.cap0
  go_enter Tryd.func35, Tryd.ntmps35
  go_wp2_with (go_at_call 70; refine (clone_n S Z).mono ?_; rintro e w1 ⟨a1, c1', rfl, H1⟩)
  go_ret2
  exact ⟨a1, c1', rfl, H1.out⟩
theorem done_bad {w : World} {g B : Nat} {M : Nat → Prop} {a : Option Addr} {n c : Nat} {L : List Nat} {E : Nat → Addr} (hW : Hid (Wri w g B a n c L true)) (hE : Hid (Sent w M E)) (hM : M 4) :
    Calls Tryd.prog 35 #[.pointer (some ⟨g, 0, none⟩)] w fun e w' => e = .returned (.tuple #[.slice none 0 0, .iface 132 (.pointer (some (E 4)))]) ∧ Hid (∃ k, w' = w.drewN k) := by
  have c0 := hW.out.c0
  have c1 := hW.out.c1
  have ce := hE.out.c 4 hM
  unfold er at ce
  go_enter Tryd.func35, Tryd.ntmps35
  go_wp2
  go_quiet (fail)
  go_wp2
  go_ret2
  exact ⟨rfl, nq, rfl⟩
end Go.Proofs.YtoegfckafnlknaaDoor
