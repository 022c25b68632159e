/- What a copy's loop keeps. -/
import Derived.Test.YtfabnnbljkkihaaGreatDoorKb
namespace Go.Proofs.YtfabnnbljkkihaaGreatDoor
open Go.ChangeShapes Go.WideShapes Go.ChangeAt Go.RowKit
set_option maxRecDepth 20000
set_option linter.unusedVariables false
set_option linter.unusedSimpArgs false
/- i of n are copied into the row that was made first -/
def Cp {α δ : Type} (O : World → Nat → Nat → α → Prop) (d : α → δ) (t : TypeId) (E : Enc α) (w W : World) (n i : Nat) (X : List α) : Prop :=
  ∃ Y, Y.map d = (X.take i).map d ∧ Rw W w.heap.size (w.heap.size + 1) t E (some ⟨w.heap.size, 0, none⟩) i n Y ∧ Seg (O W) (w.heap.size + 1) W.heap.size Y ∧ Below w.heap.size w W ∧ w.heap.size < W.heap.size
def Stays {α : Type} (O : World → Nat → Nat → α → Prop) : Prop := ∀ W W' lo hi x, O W lo hi x → (∀ q, lo ≤ q → q < hi → q < W.heap.size → W'.heap[q]? = W.heap[q]?) → O W' lo hi x
section
variable {α δ : Type} {O : World → Nat → Nat → α → Prop} {d : α → δ} {t s : TypeId} {E : Enc α} {w W w2 w3 : World} {n i g : Nat} {X : List α} {x y : α}
theorem cp_start {Z : Value} {B : Nat} (hu : Tryz.prog.underlying s = some (.slice t)) (hinf : (Tryz.prog.info? t).map (fun i => (i.zero, i.size, i.bytes)) = some (some Z, E.z, B)) (hp : 0 < E.z) (hb : B * n ≤ 281474976710656) (hn : n ≤ 1048576) (X : List α) :
    ∃ w1, (Instr.makeSlice s (.int .i64 0) (.int .i64 (n : Int))).run Tryz.prog w = .ok (.slice (some ⟨w.heap.size, 0, none⟩) 0 n) w1 ∧ Cp O d t E w w1 n 0 X := by
  obtain ⟨i, hi, hz0, hz1, hz2⟩ := info_parts hinf
  obtain ⟨w1, h1, h2, h3⟩ := run_make_own (P := Tryz.prog) (w := w) w.heap.size s t i _ E.z hu hi hz0 hz1 .i64 .i64 n (by rw [hz2]; exact hb) (by unfold maxLen; omega) (Nat.le_refl _)
  have hlt : w.heap.size < w1.heap.size := (h2.lt w.heap.size rfl).2
  exact ⟨w1, h1, [], rfl, ⟨h2, (fun q e => by cases e; exact Nat.lt_succ_self _), hp⟩, .nil _ hlt, grown_below h3 (Nat.le_refl _) (fun q e => by cases e), hlt⟩
theorem cp_step (hO : Stays O) (h : Cp O d t E w W n i X) (hx : X[i]? = some x) (hin : i < n) (hu : Tryz.prog.underlying s = some (.slice t)) (hinf : (Tryz.prog.info? t).map (·.size) = some E.z)
    (B2 : Below W.heap.size W w2) (B3 : Below w2.heap.size w2 w3) (hd : d y = d x) (hy : O w3 w2.heap.size w3.heap.size y) :
    ∃ w6, (Builtin.append_ #[s, s] s #[.slice (some ⟨w.heap.size, 0, none⟩) i n, .slice (some ⟨w3.heap.size, 0, none⟩) 1 1]).run Tryz.prog (w3.alloc (.cells (E.e y).toArray t)) = .ok (.slice (some ⟨w.heap.size, 0, none⟩) (i + 1) n) w6 ∧ Cp O d t E w w6 n (i + 1) X := by
  obtain ⟨Y, h1, h2, h3, h4, h5⟩ := h
  have B4 : Below w3.heap.size w3 (w3.alloc (.cells (E.e y).toArray t)) := alloc1 w3 _
  have s3 : W.heap.size ≤ w3.heap.size := Nat.le_trans B2.size B3.size
  have R4 : Rw (w3.alloc (.cells (E.e y).toArray t)) w.heap.size (w.heap.size + 1) t E (some ⟨w.heap.size, 0, none⟩) i n Y := ((h2.below B2).below B3).below B4
  obtain ⟨w6, r1, r2, r3⟩ := R4.snoc (g := w3.heap.size) hu hinf (heap_alloc_new w3 _) hin
  have s6 : w3.heap.size ≤ w6.heap.size := Nat.le_trans B4.size r3.size
  have ne : ∀ q, w.heap.size + 1 ≤ q → q < w3.heap.size → w6.heap[q]? = w3.heap[q]? := fun q hq hq2 =>
    (r3.block q (Nat.lt_of_lt_of_le hq2 B4.size) (fun e => by cases e; exact absurd hq (Nat.not_succ_le_self _))).trans (B4.block q hq2)
  have old : ∀ q, w.heap.size + 1 ≤ q → q < W.heap.size → w6.heap[q]? = W.heap[q]? := fun q hq hq2 =>
    (ne q hq (Nat.lt_of_lt_of_le hq2 s3)).trans ((B3.block q (Nat.lt_of_lt_of_le hq2 B2.size)).trans (B2.block q hq2))
  refine ⟨w6, r1, Y ++ [y], ?_, r2, ?_, ?_, by omega⟩
  · obtain ⟨hlt, he⟩ := List.getElem?_eq_some_iff.1 hx
    rw [List.map_append, h1, List.take_add_one, hx]
    simp [hd]
  · refine .snoc W.heap.size w2.heap.size w3.heap.size _ Y y (h3.imp fun p q z hp hq hz => hO _ _ _ _ _ hz fun k k1 k2 k3 => old k (by omega) k3) B2.size B3.size (hO _ _ _ _ _ hy fun k k1 k2 k3 => ne k (by have := B2.size; omega) k3) s6
  · have e1 : Below w.heap.size w w3 := (h4.trans (B2.mono h4.size)).trans (B3.mono (Nat.le_trans h4.size B2.size))
    have e2 : Below w.heap.size w (w3.alloc (.cells (E.e y).toArray t)) := e1.trans (B4.mono e1.size)
    exact e2.trans (grown_below r3 e2.size (fun q e => by cases e; exact Nat.le_refl _))
theorem cp_end (h : Cp O d t E w W n n X) (hn : n = X.length) : ∃ Y, Y.map d = X.map d ∧ Rw W w.heap.size W.heap.size t E (some ⟨w.heap.size, 0, none⟩) n n Y ∧ Seg (O W) w.heap.size W.heap.size Y ∧ Below w.heap.size w W := by
  obtain ⟨Y, h1, h2, h3, h4, h5⟩ := h
  exact ⟨Y, by rw [h1, List.take_of_length_le (by omega)], h2.mono (Nat.le_refl _) (by omega), h3.dn (by omega), h4⟩
end
theorem box_any (W : World) (t : TypeId) (Z A : Array Value) : ∃ w2, Hid ((W.alloc (.cells Z t)).setRow W.heap.size A = w2) ∧ Hid (w2.heap[W.heap.size]? = some (.cells A t (0, 0)) ∧ Below W.heap.size W w2 ∧ w2.heap.size = W.heap.size + 1) :=
  ⟨_, rfl, setRow_heap _ _ _ _ _ _ (heap_alloc_new W _), below_setRow (alloc1 W _) (Nat.le_refl _) A, by rw [setRow_size]; simp⟩
theorem arr_sz {α : Type} {E : Enc α} {A : Array Value} {x : α} (h : A = (E.e x).toArray) : A.size = E.z := by rw [h]; simp [E.len]
theorem arr_all {α : Type} {E : Enc α} {A : Array Value} {x : α} (h : A = (E.e x).toArray) : A.all (·.oneCell') = true := by rw [h]; exact all_oneCell_toArray (E.one x)
theorem pcO_stays : Stays (fun _ _ _ p => PcO p) := fun _ _ _ _ _ h _ => h
theorem ptO_stays : Stays (fun _ _ _ (p : Ptd) => PcO p.pc) := fun _ _ _ _ _ h _ => h
theorem obO_stays (K : Nat) : Stays (ObO K) := fun _ _ _ _ _ h hb => h.keep hb
theorem ulC_stays (K : Nat) : Stays (fun W p q u => UlO K W p q u ∧ u.c = u.n) := fun _ _ _ _ _ h hb => ⟨h.1.keep hb, h.2⟩
end Go.Proofs.YtfabnnbljkkihaaGreatDoor
