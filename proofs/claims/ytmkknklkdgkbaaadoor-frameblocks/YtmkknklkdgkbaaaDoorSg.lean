/- A Hash in memory, and how the digest grows piece by piece. -/
import Derived.Test.YtmkknklkdgkbaaaDoorSd
import Derived.Test.YtmkknklkdgkbaaaDoorSf
import Derived.Deep.RegionHeld
namespace Go.Proofs.YtmkknklkdgkbaaaDoor
open Go.ChangeShapes Go.WideShapes Go.ChangeAt Go.RowKit
set_option linter.unusedVariables false
set_option linter.unusedSimpArgs false
/- the digest, piece by piece -/
theorem after_length (s b : List Nat) : (Gs.after s b).length = 8 := rfl
theorem after_lt (s b : List Nat) : Lt32 (Gs.after s b) := by
  intro x hx
  simp only [Gs.after, Gs.addL, List.mem_cons, List.not_mem_nil, or_false] at hx
  rcases hx with h | h | h | h | h | h | h | h <;> (rw [h]; exact Gs.add_lt _ _)
theorem wordsN_length (A : List Nat) (n : Nat) : (Gs.wordsN A n).length = 8 := by
  cases n <;> rfl
theorem wordsN_lt (A : List Nat) (n : Nat) : Lt32 (Gs.wordsN A n) := by
  cases n with
  | zero =>
    have h : Lt32 Gs.start := by unfold Lt32; decide
    exact h
  | succ n => exact after_lt _ _
theorem wordsN_app (A x : List Nat) (n : Nat) (h : 64 * n ≤ A.length) : Gs.wordsN (A ++ x) n = Gs.wordsN A n := by
  induction n with
  | zero => rfl
  | succ n ih =>
    have e : ((A ++ x).drop (64 * n)).take 64 = (A.drop (64 * n)).take 64 := by
      rw [List.drop_append_of_le_length (by omega), List.take_append_of_le_length (by simp; omega)]
    show Gs.after (Gs.wordsN (A ++ x) n) _ = Gs.after (Gs.wordsN A n) _
    rw [ih (by omega), e]
/- what is left behind the filled blocks -/
def tl (A : List Nat) : List Nat := A.drop (64 * (A.length / 64))
theorem tl_length (A : List Nat) : (tl A).length = A.length % 64 := by
  simp [tl]
  omega
theorem tl_app (A x : List Nat) (h : A.length % 64 + x.length < 64) : tl (A ++ x) = tl A ++ x := by
  have e : (A ++ x).length / 64 = A.length / 64 := by simp; omega
  unfold tl
  rw [e, List.drop_append_of_le_length (by omega)]
theorem words_app (A x : List Nat) (h : A.length % 64 + x.length < 64) : Gs.words (A ++ x) = Gs.words A := by
  have e : (A ++ x).length / 64 = A.length / 64 := by simp; omega
  unfold Gs.words
  rw [e, wordsN_app _ _ _ (by omega)]
theorem rest_eq (A : List Nat) : Gs.rest A = Gs.pad (tl A) := rfl
theorem full_app (A x : List Nat) (h : A.length % 64 + x.length = 64) : Gs.words (A ++ x) = Gs.after (Gs.words A) (tl A ++ x) ∧ tl (A ++ x) = [] := by
  have e : (A ++ x).length / 64 = A.length / 64 + 1 := by simp; omega
  refine ⟨?_, ?_⟩
  · unfold Gs.words
    rw [e]
    show Gs.after (Gs.wordsN (A ++ x) (A.length / 64)) _ = _
    rw [wordsN_app _ _ _ (by omega), List.drop_append_of_le_length (by omega), List.take_of_length_le (by simp; omega)]
    rfl
  · apply List.eq_nil_of_length_eq_zero
    rw [tl_length]
    simp
    omega
theorem pad_length (l : List Nat) (h : l.length ≤ 64) : (Gs.pad l).length = 64 := by simp [Gs.pad]; omega
theorem pad_full (l : List Nat) (h : l.length = 64) : Gs.pad l = l := by simp [Gs.pad, h]
theorem rest_length (A : List Nat) : (Gs.rest A).length = 64 := pad_length _ (by rw [show A.drop (64 * (A.length / 64)) = tl A from rfl, tl_length]; omega)
theorem pad_lt {l : List Nat} (h : ∀ x ∈ l, x < 256) : ∀ x ∈ Gs.pad l, x < 256 := by
  intro x hx
  rcases List.mem_append.1 hx with h1 | h1
  · exact h x h1
  · have := List.eq_of_mem_replicate h1; omega
theorem rest_lt {A : List Nat} (h : ∀ x ∈ A, x < 256) : ∀ x ∈ Gs.rest A, x < 256 := pad_lt fun x hx => h x (List.mem_of_mem_drop hx)
theorem words_length (A : List Nat) : (Gs.words A).length = 8 := wordsN_length _ _
theorem words_lt (A : List Nat) : Lt32 (Gs.words A) := wordsN_lt _ _
/- the cells of a Hash -/
def hcells (ws rs : List Nat) (n : Nat) : List Value := ws.map (wv .u32) ++ rs.map (wv .u8) ++ [.int .i64 (n : Int)]
/- block g is a Hash -/
structure Hsh (w : World) (g : Nat) (ws rs : List Nat) (n : Nat) : Prop where
  blk : w.heap[g]? = some (.cells (hcells ws rs n).toArray 123 (0, 0))
  l1 : ws.length = 8
  l2 : rs.length = 64
section
variable {w w' : World} {g n : Nat} {ws rs : List Nat}
theorem Hsh.cellv (h : Hsh w g ws rs n) (i : Nat) : w.cell? ⟨g, i, none⟩ = (hcells ws rs n)[i]? := by
  have := h.blk
  simp [World.cell?, this]
theorem Hsh.frozen (h : Hsh w g ws rs n) (i : Nat) : w.frozen? ⟨g, i, none⟩ = false := by
  have := h.blk
  simp [World.frozen?, this]
theorem Hsh.lt (h : Hsh w g ws rs n) : g < w.heap.size := (Array.getElem?_eq_some_iff.1 h.blk).1
theorem Hsh.len (h : Hsh w g ws rs n) : w.cell? ⟨g, 72, none⟩ = some (.int .i64 (n : Int)) := by
  rw [h.cellv, hcells, List.getElem?_append_right (by simp [h.l1, h.l2])]
  simp [h.l1, h.l2]
theorem Hsh.wsR (h : Hsh w g ws rs n) : Rng .u32 w g 0 ws := by
  intro j v hv
  have hj : j < ws.length := by have := (List.getElem?_eq_some_iff.1 hv).1; simpa using this
  rw [h.cellv, hcells, List.append_assoc, List.getElem?_append_left (by simp; omega), Nat.zero_add]
  exact hv
theorem Hsh.rsR (h : Hsh w g ws rs n) : Rng .u8 w g 8 rs := by
  intro j v hv
  have hj : j < rs.length := by have := (List.getElem?_eq_some_iff.1 hv).1; simpa using this
  rw [h.cellv, hcells, List.append_assoc, List.getElem?_append_right (by simp [h.l1]), List.getElem?_append_left (by simp [h.l1]; omega)]
  have : 8 + j - (ws.map (wv .u32)).length = j := by simp [h.l1]
  rw [this]
  exact hv
theorem Hsh.there (h : Hsh w g ws rs n) (o m : Nat) (hm : o + m ≤ 73) : w.there g o m := by
  intro j hj
  refine ⟨?_, h.frozen _⟩
  rw [h.cellv]
  have : o + j < (hcells ws rs n).length := by simp [hcells, h.l1, h.l2]; omega
  simp [this]
theorem Hsh.oth {j : Nat} (h : Hsh w g ws rs n) (hb : Oth j w w') (hg : g ≠ j) : Hsh w' g ws rs n := ⟨(hb.block g hg).trans h.blk, h.l1, h.l2⟩
theorem Hsh.below {B : Nat} (h : Hsh w g ws rs n) (hb : Below B w w') (hg : g < B) : Hsh w' g ws rs n := ⟨(hb.block g hg).trans h.blk, h.l1, h.l2⟩
theorem Hsh.drewN (h : Hsh w g ws rs n) (q : Nat) : Hsh (w.drewN q) g ws rs n := ⟨h.blk, h.l1, h.l2⟩
end
/- a Hash that was given the bytes A -/
structure HS (w : World) (g : Nat) (A : List Nat) : Prop where
  h : Hsh w g (Gs.words A) (Gs.rest A) A.length
  lt : ∀ x ∈ A, x < 256
/- all but block g, and what is new, is as it was -/
structure But (g : Nat) (w w' : World) : Prop where
  os : w'.os = w.os
  tape : w'.tape = w.tape
  output : w'.output = w.output
  size : w.heap.size ≤ w'.heap.size
  block : ∀ k, k < w.heap.size → k ≠ g → w'.heap[k]? = w.heap[k]?
theorem But.refl (g : Nat) (w : World) : But g w w := ⟨rfl, rfl, rfl, Nat.le_refl _, fun _ _ _ => rfl⟩
theorem But.trans {g : Nat} {a b c : World} (h : But g a b) (k : But g b c) : But g a c :=
  ⟨k.os.trans h.os, k.tape.trans h.tape, k.output.trans h.output, Nat.le_trans h.size k.size, fun i h1 h2 => (k.block i (Nat.lt_of_lt_of_le h1 h.size) h2).trans (h.block i h1 h2)⟩
theorem But.oth {g : Nat} {a b : World} (h : Oth g a b) : But g a b := ⟨h.os, h.tape, h.output, Nat.le_of_eq h.size.symm, fun k _ hk => h.block k hk⟩
theorem But.ofBelow {g : Nat} {a b : World} (h : Below a.heap.size a b) : But g a b := ⟨h.os, h.tape, h.output, h.size, fun k hk _ => h.block k hk⟩
theorem But.below {B g : Nat} {w0 w w' : World} (hb : Below B w0 w) (h : But g w w') (hg : B ≤ g) (hs : B ≤ w.heap.size) : Below B w0 w' :=
  hb.trans ⟨h.os, h.tape, h.output, h.size, fun k hk => h.block k (Nat.lt_of_lt_of_le hk hs) (by omega)⟩
theorem But.drewN {g : Nat} {a w : World} (h : But g a w) (n : Nat) : But g a (w.drewN n) := h.trans ⟨rfl, rfl, rfl, Nat.le_refl _, fun _ _ _ => rfl⟩
theorem But.sln {g : Nat} {w w' : World} {a : Option Addr} {n : Nat} {l : List Nat} (h : But g w w') (s : Sln w a n l) (hg : ∀ b off, l ≠ [] → a = some ⟨b, off, none⟩ → b ≠ g) : Sln w' a n l := by
  refine ⟨s.len, s.sli.1, s.sli.2.1, ?_⟩
  by_cases h0 : l = []
  · exact .inl h0
  · obtain ⟨b, off, rfl, hl, hr⟩ := s.sli.2.2.resolve_left h0
    refine .inr ⟨b, off, rfl, Nat.lt_of_lt_of_le hl h.size, fun i hi => ?_⟩
    rw [World.cell?_of_block (w := w) (h.block b hl (hg b off h0 rfl))]
    exact hr i hi
theorem start_n (w : World) : Calls Tryd.prog 71 #[] w fun e w' => e = .returned (.agg (cs .u32 Gs.start)) ∧ Hid (Below w.heap.size w w') := by
  have R0 : Hid (Arr .u32 118 (w.alloc (.cells (cs .u32 Z8) 118)) w.heap.size Z8) := Arr.new w .u32 118 Z8
  have RE : Hid (Arr .u32 118 ((w.alloc (.cells (cs .u32 Z8) 118)).setRow w.heap.size (cs .u32 Gs.start)) w.heap.size Gs.start) := R0.out.setRow _
  have BE : Hid (Below w.heap.size w ((w.alloc (.cells (cs .u32 Z8) 118)).setRow w.heap.size (cs .u32 Gs.start))) := (Oth.setRow _).below ((Below.refl _ _).alloc (Nat.le_refl _) _) (Nat.le_refl _)
  go_enter Tryd.func71, Tryd.ntmps71
  go_wp2_with (refine wpList_st0 (t := 118) (l := Z8) (l2 := Gs.start) (by rfl) (by rfl) 118 (.tmp 0) (.tmp 1) (by rfl) (by rfl) (by rfl) R0 sz53 (by rfl) ?_)
  refine bodyPost_ret (v := .agg (cs .u32 Gs.start)) (res_arr (by rfl) (by rfl) RE.out und53 sz53) rfl ?_
  exact ⟨rfl, BE.out⟩
theorem built58 : Tryd.prog.built 123 [(0, .agg (cs .u32 Gs.start))] = some (hcells Gs.start (Gs.pad []) 0).toArray := by kernel_rfl
theorem wpList_new {ops : Array Oper} {rest : List Oper} {o : Oper} {a : Act} {w : World} {Q : Exit → Act → World → Prop} (hg : o.guard = none) (x : Operand) (ho : o.op = .build 123 #[(0, x)]) (hx : a.eval x = .agg (cs .u32 Gs.start))
    (h : wpList Tryd.prog ops Q rest (a.put o.dst (.agg (hcells Gs.start (Gs.pad []) 0).toArray)) w) : wpList Tryd.prog ops Q (o :: rest) a w := by
  have e : Tryd.prog.built 123 ((#[(0, x)] : Array (Nat × Operand)).map fun (i, x) => (i, a.eval x)).toList = some (hcells Gs.start (Gs.pad []) 0).toArray := by
    rw [← built58]
    simp [hx]
  refine wpList_build hg 123 #[(0, x)] ho (by rw [e]; rfl) ?_
  rw [e]
  exact h
theorem HS.new (w : World) : HS (w.alloc (.cells (hcells Gs.start (Gs.pad []) 0).toArray 123)) w.heap.size [] := ⟨⟨heap_alloc_new w _, rfl, rfl⟩, by simp⟩
theorem new_n (w : World) : Calls Tryd.prog 64 #[] w fun e w' => ∃ g, e = .returned (.pointer (some ⟨g, 0, none⟩)) ∧ Hid (w.heap.size ≤ g ∧ HS w' g [] ∧ Below w.heap.size w w') := by
  go_enter Tryd.func64, Tryd.ntmps64
  go_wp2_with (first
    | (go_at_call 71; refine (start_n _).mono ?_; rintro e w1 ⟨rfl, B1⟩)
    | (refine wpList_new (by rfl) (.tmp 1) (by rfl) (by rfl) ?_))
  go_ret
  exact ⟨_, rfl, B1.out.size, HS.new w1, B1.out.alloc B1.out.size _⟩
end Go.Proofs.YtmkknklkdgkbaaaDoor
