/- Strings as rows of bytes, and slices of strings. -/
import Derived.Test.YthkoidfjmbfoiaaDoorMk
import Derived.Laws.IdiomStrings
import Derived.Laws.Concat
import Derived.SliceStrings
namespace Go.Proofs.YthkoidfjmbfoiaaDoor
open Go.ChangeShapes Go.WideShapes Go.ChangeAt Go.RowKit
set_option linter.unusedVariables false
set_option linter.unusedSimpArgs false
def bytesOf (s : ByteArray) : List Nat := s.data.toList.map UInt8.toNat
theorem bytesOf_length (s : ByteArray) : (bytesOf s).length = s.size := by
  unfold bytesOf
  rw [List.length_map, Array.length_toList]
  rfl
theorem bytesOf_lt (s : ByteArray) : ∀ x ∈ bytesOf s, x < 256 := by
  intro x hx
  obtain ⟨b, _, rfl⟩ := List.mem_map.1 hx
  exact b.toNat_lt
theorem bytesOf_append (a b : ByteArray) : bytesOf (a ++ b) = bytesOf a ++ bytesOf b := by simp [bytesOf]
theorem bytesOf_spell {l : List Nat} (h : ∀ x ∈ l, x < 256) : bytesOf (spell l) = l := by
  unfold bytesOf
  rw [spell_data]
  exact ofNat_back h
theorem spell_bytesOf (s : ByteArray) : spell (bytesOf s) = s := by
  have h : (spell (bytesOf s)).data.toList = s.data.toList := by
    rw [spell_data]
    unfold bytesOf
    rw [List.map_map]
    conv => rhs; rw [← List.map_id s.data.toList]
    refine List.map_congr_left fun x _ => ?_
    simp
  have h2 : (spell (bytesOf s)).data = s.data := by
    apply Array.ext'
    exact h
  cases hs : spell (bytesOf s)
  cases s
  rw [hs] at h2
  simp only at h2
  rw [h2]
/- what '[]byte(s)' lays -/
def cvC (X : World) (s : ByteArray) : Nat := grownCap X s.size 0 5
def cvW (X : World) (s : ByteArray) : World := X.drew.alloc (.cells (bytesRow s (cvC X s)) 5 ((bytesRow s (cvC X s)).size, (bytesRow s (cvC X s)).size + 1))
theorem run_cv (X : World) (s : ByteArray) : (convert 9 22 (.string s)).run Tryd.prog X = .ok (.slice (some ⟨X.heap.size, 0, none⟩) s.size (cvC X s)) (cvW X s) := run_bytes_of_string X 9 22 5 s Tryd.underlying9 Tryd.underlying22 Tryd.underlying5
theorem cvC_ge (X : World) (s : ByteArray) : s.size ≤ cvC X s := grownCap_ge X s.size 0 5
theorem cvW_below (X : World) (s : ByteArray) : Below X.heap.size X (cvW X s) := by
  have h1 : Below X.heap.size X X.drew := below_drewN (Below.refl _ _) 1
  exact h1.alloc (Nat.le_refl _) _
theorem cvW_sln (X : World) (s : ByteArray) (h : s.size ≤ 140737488352256) : Sln (cvW X s) (some ⟨X.heap.size, 0, none⟩) s.size (bytesOf s) := by
  refine ⟨(bytesOf_length s).symm, bytesOf_lt s, by rw [bytesOf_length]; exact h, .inr ⟨X.heap.size, 0, rfl, by simp [cvW], fun i hi => ?_⟩⟩
  have hi2 : i < s.data.size := by rw [bytesOf_length] at hi; exact hi
  have hb : (cvW X s).heap[X.heap.size]? = some (.cells (bytesRow s (cvC X s)) 5 ((bytesRow s (cvC X s)).size, (bytesRow s (cvC X s)).size + 1)) := heap_alloc_new X.drew _
  have hr := bytesRow_at s (cvC X s) i hi2
  rw [Nat.zero_add]
  unfold World.cell?
  rw [hb]
  have e : (bytesOf s).getD i 0 = (s.data[i]).toNat := by
    have h3 : i < s.data.toList.length := by simpa using hi2
    simp [bytesOf, List.getD]
    rw [Array.getElem?_eq_getElem hi2]
    rfl
  rw [e]
  simp [hr]
/- a slice of strings -/
structure Sws (w : World) (a : Option Addr) (n : Nat) (ws : List ByteArray) : Prop where
  len : n = ws.length
  le : n ≤ 140737488351232
  sz : ∀ s ∈ ws, s.size ≤ 140737488351232
  row : ws = [] ∨ ∃ b off, a = some ⟨b, off, none⟩ ∧ b < w.heap.size ∧ ∀ i, i < n → w.cell? ⟨b, off + i, none⟩ = some (.string (ws.getD i ByteArray.empty))
theorem Sws.below {w w' : World} {a : Option Addr} {n : Nat} {ws : List ByteArray} (h : Sws w a n ws) (hb : Below w.heap.size w w') : Sws w' a n ws := by
  refine ⟨h.len, h.le, h.sz, ?_⟩
  rcases h.row with h0 | ⟨b, off, rfl, hl, hr⟩
  · exact .inl h0
  · exact .inr ⟨b, off, rfl, Nat.lt_of_lt_of_le hl hb.size, fun i hi => (hb.cell (p := ⟨b, off + i, none⟩) hl).trans (hr i hi)⟩
theorem Sws.at_ {w : World} {a : Option Addr} {n : Nat} {ws : List ByteArray} (h : Sws w a n ws) {i : Nat} (hi : i < n) : ∃ b off, a = some ⟨b, off, none⟩ ∧ w.cell? ⟨b, off + i, none⟩ = some (.string (ws.getD i ByteArray.empty)) := by
  have hne : ws ≠ [] := by intro h0; have := h.len; rw [h0] at this; simp at this; omega
  obtain ⟨b, off, h1, _, r⟩ := h.row.resolve_left hne
  exact ⟨b, off, h1, r i hi⟩
theorem Sws.size {w : World} {a : Option Addr} {n : Nat} {ws : List ByteArray} (h : Sws w a n ws) {i : Nat} (hi : i < n) : (ws.getD i ByteArray.empty).size ≤ 140737488351232 := by
  have hl : i < ws.length := by rw [← h.len]; exact hi
  have e : ws.getD i ByteArray.empty = ws[i] := by simp [List.getD, hl]
  rw [e]
  exact h.sz _ (List.getElem_mem hl)
theorem Sws.take {w : World} {a : Option Addr} {n m : Nat} {ws : List ByteArray} (h : Sws w a n ws) (hm : m ≤ n) : Sws w a m (ws.take m) := by
  have e := h.len
  refine ⟨by simp; omega, Nat.le_trans hm h.le, fun s hs => h.sz s (List.mem_of_mem_take hs), ?_⟩
  rcases h.row with h0 | ⟨b, off, rfl, hl, hr⟩
  · exact .inl (by rw [h0]; simp)
  · refine .inr ⟨b, off, rfl, hl, fun i hi => ?_⟩
    rw [hr i (by omega)]
    have : (ws.take m).getD i ByteArray.empty = ws.getD i ByteArray.empty := by simp [List.getD, hi]
    rw [this]
/- keys derived by words -/
def bol : List Nat := [66, 79, 76, 76, 65, 82, 68]
def deriveN (k : List Nat) (ws : List ByteArray) : Nat → List Nat
  | 0 => k
  | i + 1 => Gs.mac (deriveN k ws i) (bytesOf (ws.getD i ByteArray.empty))
def derive (s : ByteArray) (ws : List ByteArray) : List Nat := deriveN (bol ++ bytesOf s) ws ws.length
theorem deriveN_lt {k : List Nat} (h : ∀ x ∈ k, x < 256) (ws : List ByteArray) (i : Nat) : ∀ x ∈ deriveN k ws i, x < 256 := by
  cases i with
  | zero => exact h
  | succ i => exact mac_lt _ _
theorem deriveN_take (k : List Nat) (ws : List ByteArray) (m : Nat) : ∀ i, i ≤ m → deriveN k (ws.take m) i = deriveN k ws i := by
  intro i
  induction i with
  | zero => intro _; rfl
  | succ i ih =>
    intro hi
    have e : (ws.take m).getD i ByteArray.empty = ws.getD i ByteArray.empty := by
      have : i < m := by omega
      simp [List.getD, this]
    show Gs.mac (deriveN k (ws.take m) i) (bytesOf ((ws.take m).getD i ByteArray.empty)) = Gs.mac (deriveN k ws i) (bytesOf (ws.getD i ByteArray.empty))
    rw [ih (by omega), e]
def bolB : ByteArray := { data := #[66, 79, 76, 76, 65, 82, 68] }
theorem bytesOf_bol (s : ByteArray) : bytesOf (bolB ++ s) = bol ++ bytesOf s := by rw [bytesOf_append]; rfl
theorem size_bol (s : ByteArray) : (bolB ++ s).size = 7 + s.size := by rw [← bytesOf_length, bytesOf_bol]; simp [bytesOf_length, bol]; omega
theorem add_bol (w : World) (s : ByteArray) (h : s.size ≤ 140737488351232) : (Op.stringOp .add { data := #[66, 79, 76, 76, 65, 82, 68] } s).run Tryd.prog w = .ok (.string (bolB ++ s)) w := by
  have e : bolB.size = 7 := rfl
  exact run_string_add_sum w bolB s (by rw [e]; omega)
end Go.Proofs.YthkoidfjmbfoiaaDoor
