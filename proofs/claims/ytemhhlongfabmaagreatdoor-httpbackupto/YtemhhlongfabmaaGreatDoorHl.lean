/- A row of bytes of the call's own that bears a mark behind its last cell; appends of strings and of slices. -/
import Derived.Test.YtemhhlongfabmaaGreatDoorHk
import Derived.Lib.AppendStr
namespace Go.Proofs.YtemhhlongfabmaaGreatDoor
open Go.ChangeShapes Go.WideShapes Go.ChangeAt Go.RowKit
set_option maxRecDepth 20000
set_option linter.unusedVariables false
set_option linter.unusedSimpArgs false
structure Om (w : World) (B : Nat) (a : Option Addr) (n c : Nat) (L : List Nat) : Prop where
  len : n = L.length
  lt : ∀ x ∈ L, x < 256
  nc : n ≤ c
  row : ∃ g cur fr, a = some ⟨g, 0, none⟩ ∧ B ≤ g ∧ w.heap[g]? = some (.cells cur 5 fr) ∧ (fr = (0, 0) ∨ cur.size ≤ fr.1) ∧ c ≤ maxLen ∧ c ≤ cur.size ∧ cur.toList.take n = L.map bv
theorem Om.lt_ {w : World} {B : Nat} {a : Option Addr} {n c : Nat} {L : List Nat} (h : Om w B a n c L) : ∀ q, blkOf a = some q → B ≤ q ∧ q < w.heap.size := by
  obtain ⟨g, cur, fr, rfl, h1, h2, _⟩ := h.row
  intro q hq
  cases hq
  exact ⟨h1, (Array.getElem?_eq_some_iff.1 h2).1⟩
theorem Om.keep1 {w w' : World} {B : Nat} {a : Option Addr} {n c : Nat} {L : List Nat} (h : Om w B a n c L) (hb : ∀ q, blkOf a = some q → w'.heap[q]? = w.heap[q]?) : Om w' B a n c L := by
  obtain ⟨g, cur, fr, rfl, h1, h2, h3⟩ := h.row
  exact ⟨h.len, h.lt, h.nc, g, cur, fr, rfl, h1, (hb g rfl).trans h2, h3⟩
theorem Om.below {w w' : World} {B : Nat} {a : Option Addr} {n c : Nat} {L : List Nat} (h : Om w B a n c L) (hb : Below w.heap.size w w') : Om w' B a n c L := h.keep1 fun q hq => hb.block q (h.lt_ q hq).2
theorem Om.cells {w : World} {B g : Nat} {n c : Nat} {L : List Nat} (h : Om w B (some ⟨g, 0, none⟩) n c L) : ∀ j u, (L.map bv)[j]? = some u → w.cell? ((⟨g, 0, none⟩ : Addr).add j) = some u := by
  obtain ⟨g', cur, fr, e, h1, h2, h3, h4, h5, h6⟩ := h.row
  cases e
  intro j u hu
  rw [add_mid', Nat.zero_add]
  rw [← h6, List.getElem?_take] at hu
  split at hu
  · simp [World.cell?, h2]
    simpa using hu
  · cases hu
theorem Om.row_ {w : World} {B g : Nat} {n c : Nat} {L : List Nat} (h : Om w B (some ⟨g, 0, none⟩) n c L) : Row w g 0 L := fun i hi => by
  have := h.cells i (bv (L.getD i 0)) (by rw [List.getElem?_map, List.getElem?_eq_getElem hi]; simp [List.getD, hi])
  rw [add_mid'] at this
  exact this
theorem Om.sln {w : World} {B : Nat} {a : Option Addr} {n c : Nat} {L : List Nat} (h : Om w B a n c L) (hn : n ≤ 140737488354304) : Sln w a n L := by
  have hr := h.lt_
  obtain ⟨g, cur, fr, rfl, h1, h2, h3⟩ := h.row
  exact ⟨h.len, h.lt, by rw [← h.len]; exact hn, .inr ⟨g, 0, rfl, (hr g rfl).2, h.row_⟩⟩
theorem cur_setCells {g : Nat} {t : TypeId} {fr : Nat × Nat} : ∀ (vs : List Value) (o : Nat) (W : World) (cur : Array Value), W.heap[g]? = some (.cells cur t fr) → (W.setCells g o vs).heap[g]? = some (.cells (setL cur.toList o vs).toArray t fr)
  | [], o, W, cur, h => by simpa [setL, World.setCells] using h
  | v :: vs, o, W, cur, h => by
    have h1 : (W.setCell ⟨g, o, none⟩ v).heap[g]? = some (.cells (cur.setIfInBounds o v) t fr) := set_blk h o v
    have h2 := cur_setCells vs (o + 1) (W.setCell ⟨g, o, none⟩ v) _ h1
    rw [Array.toList_setIfInBounds] at h2
    exact h2
theorem Om.stored {w : World} {B g : Nat} {n c : Nat} {L l : List Nat} (h : Om w B (some ⟨g, 0, none⟩) n c L) (hl : ∀ x ∈ l, x < 256) (hroom : n + l.length ≤ c) :
    (storeCells ⟨g, n, none⟩ (l.map bv) 0).run Tryz.prog w = .ok () (w.setCells g n (l.map bv)) ∧ Om (w.setCells g n (l.map bv)) B (some ⟨g, 0, none⟩) (n + l.length) c (L ++ l) ∧ w.grownBy (w.setCells g n (l.map bv)) (some g) := by
  obtain ⟨g', cur, fr, e, h1, h2, h3, h4, h5, h6⟩ := h.row
  cases e
  have hin : ∀ j, j < (l.map bv).length → n + j < cur.size := fun j hj => by rw [List.length_map] at hj; omega
  have hs := run_storeCells_cells (P := Tryz.prog) g n (l.map bv) 0 w (fun j hj => by
      have := hin j hj
      simp [World.cell?, h2, this]) (fun j hj => by
      have := hin j hj
      simp only [World.frozen?, h2, Nat.add_zero]
      rcases h3 with rfl | h3
      · simp
      · simp; omega) (map_one l)
  rw [Nat.add_zero] at hs
  have hc := ch_setCells (g := g) (l.map bv) n w
  refine ⟨hs, ⟨by rw [List.length_append, ← h.len], ?_, hroom, g, _, fr, rfl, h1, cur_setCells (l.map bv) n w cur h2, ?_, h4, ?_, ?_⟩, ⟨hc.os, hc.tape, hc.output, hc.size, fun k hk ne => hc.block k hk (fun e => ne (by rw [e]))⟩⟩
  · intro x hx
    rcases List.mem_append.1 hx with hx | hx
    · exact h.lt x hx
    · exact hl x hx
  · rw [setL_eq _ _ _ (by simp; omega)]
    refine h3.imp id (fun h3 => ?_)
    simp
    omega
  · rw [setL_eq _ _ _ (by simp; omega)]
    simp
    omega
  · have e2 : (cur.toList.take n ++ l.map bv).length = n + l.length := by simp; omega
    rw [setL_eq _ _ _ (by simp; omega), List.map_append, ← h6]
    show List.take (n + l.length) (cur.toList.take n ++ l.map bv ++ _) = _
    rw [← e2]
    exact List.take_left
theorem Om.new {w : World} {B n c : Nat} {L : List Nat} {cur : Array Value} (hB : B ≤ w.heap.size) (hl : n = L.length) (hlt : ∀ x ∈ L, x < 256) (hnc : n ≤ c) (hcm : c ≤ maxLen) (hs : c ≤ cur.size) (ht : cur.toList.take n = L.map bv) : Om (w.drew.alloc (.cells cur 5)) B (some ⟨w.heap.size, 0, none⟩) n c L :=
  ⟨hl, hlt, hnc, w.heap.size, cur, (0, 0), rfl, hB, heap_alloc_new w.drew _, .inl rfl, hcm, hs, ht⟩
theorem take_grown {L l : List Nat} {n m : Nat} {z : Array Value} (hn : n = L.length) (hm : m = l.length) : (((L.map bv).toArray ++ (l.map bv).toArray ++ z).toList).take (n + m) = (L ++ l).map bv := by
  have e : n + m = (L.map bv ++ l.map bv).length := by simp; omega
  simp only [Array.toList_append]
  rw [e, List.map_append]
  exact List.take_left
theorem om_str {w : World} {B : Nat} {a : Option Addr} {n c : Nat} {L : List Nat} {m : Nat} {l : List Nat} (ho : Om w B a n c L) (hl : ∀ x ∈ l, x < 256) (hm : m = l.length) (hb : n + m ≤ 140737488354304) (hB : B ≤ w.heap.size) :
    ∃ a' c' w', (Builtin.append_ #[22, 9] 22 #[.slice a n c, .string (spell l)]).run Tryz.prog w = .ok (.slice a' (n + m) c') w' ∧ Om w' B a' (n + m) c' (L ++ l) ∧ w.grownBy w' (blkOf a) ∧ New w a a' := by
  obtain ⟨i, hi, hz0, hz1, hz2⟩ := info_parts info5
  have es : (spell l).size = m := by rw [spell_size, hm]
  obtain ⟨g, cur, fr, rfl, h1, h2, h3, h4, h5, h6⟩ := ho.row
  by_cases hroom : n + m ≤ c
  · subst hm
    obtain ⟨r1, r2, r3⟩ := ho.stored hl hroom
    refine ⟨_, c, _, ?_, r2, r3, fun q hq => .inl hq⟩
    have hf := Lib.run_firstCells_string (P := Tryz.prog) w 1 (spell l)
    rw [spell_cells hl, es] at hf
    have r1' : (storeCells ⟨g, n, none⟩ (l.map bv) 0).run Tryz.prog w = .ok () (w.setCells g n (l.map bv)) := r1
    simp [Builtin.append_, run_underlying Tryz.underlying22, run_underlying Tryz.underlying9, sizeOf, typeInfo, hi, hz1, Builtin.lenOf, es, hroom, hf, Addr.add_lit, r1']
  · have hr := Lib.run_append_grow_string (P := Tryz.prog) w 22 9 22 5 i (.int .u8 0) Tryz.underlying22 Tryz.underlying9 hi hz0 ⟨g, 0, none⟩ n c (L.map bv) (by simp [ho.len, hz1]) ho.cells (spell l) (by omega) (by omega) (growslice_fits (by omega) (by rw [hz2]; omega))
    rw [es, spell_cells hl] at hr
    have hge := grownCap_ge w (n + m) c 5
    have hcm := grownCap_le_maxLen w (n + m) c 5 (by simp only [maxLen]; omega)
    refine ⟨_, _, _, hr, Om.new hB (by rw [List.length_append, ← ho.len, hm]) ?_ hge hcm ?_ (take_grown ho.len hm), ⟨rfl, rfl, rfl, by simp, fun k hk _ => Below.heap_alloc w.drew _ k hk⟩, fun q hq => ?_⟩
    · intro x hx
      rcases List.mem_append.1 hx with hx | hx
      · exact ho.lt x hx
      · exact hl x hx
    · simp [Builtin.zeroCells, Value.cells]
      have := ho.len
      omega
    · cases hq
      exact .inr (Nat.le_refl _)
theorem om_sln {w : World} {B : Nat} {a : Option Addr} {n c : Nat} {L : List Nat} {a2 : Option Addr} {m c2 : Nat} {l : List Nat} (ho : Om w B a n c L) (hS : Sln w a2 m l) (hc : a2 = none → c2 = 0) (hb : n + m ≤ 140737488354304) (hB : B ≤ w.heap.size) :
    ∃ a' c' w', (Builtin.append_ #[22, 22] 22 #[.slice a n c, .slice a2 m c2]).run Tryz.prog w = .ok (.slice a' (n + m) c') w' ∧ Om w' B a' (n + m) c' (L ++ l) ∧ w.grownBy w' (blkOf a) ∧ New w a a' := by
  obtain ⟨i, hi, hz0, hz1, hz2⟩ := info_parts info5
  have hm := hS.len
  obtain ⟨g, cur, fr, rfl, h1, h2, h3, h4, h5, h6⟩ := ho.row
  by_cases hl0 : l = []
  · subst hl0
    have m0 : m = 0 := hm
    subst m0
    refine ⟨_, c, w, ?_, by simpa using ho, ⟨rfl, rfl, rfl, Nat.le_refl _, fun _ _ _ => rfl⟩, fun q hq => .inl hq⟩
    have hnc := ho.nc
    cases a2 with
    | none => simp [Builtin.append_, run_underlying Tryz.underlying22, sizeOf, typeInfo, hi, hz1, Builtin.lenOf, hnc, Builtin.firstCells, loadCells, loadCellsFrom, storeCells]
    | some ad => simp [Builtin.append_, run_underlying Tryz.underlying22, sizeOf, typeInfo, hi, hz1, Builtin.lenOf, hnc, Builtin.firstCells, loadCells, loadCellsFrom, storeCells]
  · obtain ⟨b, off, rfl, _, r⟩ := hS.sli.2.2.resolve_left hl0
    by_cases hroom : n + m ≤ c
    · subst hm
      obtain ⟨r1, r2, r3⟩ := ho.stored hS.lt hroom
      refine ⟨_, c, _, ?_, r2, r3, fun q hq => .inl hq⟩
      have hf := run_firstCells_some (P := Tryz.prog) w 1 l.length ⟨b, off, none⟩ l.length c2 (l.map bv) (by simp) (map_cells r)
      simp [Builtin.append_, run_underlying Tryz.underlying22, sizeOf, typeInfo, hi, hz1, Builtin.lenOf, hroom, hf, Addr.add_lit, r1]
    · have hr := run_append_grow (P := Tryz.prog) w 22 22 5 i (.int .u8 0) Tryz.underlying22 hi hz0 ⟨g, 0, none⟩ n c (L.map bv) (by simp [ho.len, hz1]) ho.cells ⟨b, off, none⟩ m c2 (l.map bv) (by simp [hm, hz1]) (map_cells r) (by omega) (by omega) (growslice_fits (by omega) (by rw [hz2]; omega))
      have hge := grownCap_ge w (n + m) c 5
      have hcm := grownCap_le_maxLen w (n + m) c 5 (by simp only [maxLen]; omega)
      refine ⟨_, _, _, hr, Om.new hB (by rw [List.length_append, ← ho.len, hm]) ?_ hge hcm ?_ (take_grown ho.len hm), ⟨rfl, rfl, rfl, by simp, fun k hk _ => Below.heap_alloc w.drew _ k hk⟩, fun q hq => ?_⟩
      · intro x hx
        rcases List.mem_append.1 hx with hx | hx
        · exact ho.lt x hx
        · exact hS.lt x hx
      · simp [Builtin.zeroCells, Value.cells]
        have := ho.len
        omega
      · cases hq
        exact .inr (Nat.le_refl _)
/- []byte(s) -/
def cvC (X : World) (s : ByteArray) : Nat := grownCap X s.size 0 5
def cvW (X : World) (s : ByteArray) : World := X.drew.alloc (.cells (bytesRow s (cvC X s)) 5 ((bytesRow s (cvC X s)).size, (bytesRow s (cvC X s)).size + 1))
theorem run_cv (X : World) (s : ByteArray) : (convert 9 22 (.string s)).run Tryz.prog X = .ok (.slice (some ⟨X.heap.size, 0, none⟩) s.size (cvC X s)) (cvW X s) := run_bytes_of_string X 9 22 5 s Tryz.underlying9 Tryz.underlying22 Tryz.underlying5
theorem cvW_below (X : World) (s : ByteArray) : Below X.heap.size X (cvW X s) := by
  have h1 : Below X.heap.size X X.drew := below_drewN (Below.refl _ _) 1
  exact h1.alloc (Nat.le_refl _) _
theorem cvW_om (X : World) (l : List Nat) (hl : ∀ x ∈ l, x < 256) (B : Nat) (hB : B ≤ X.heap.size) (hz : l.length ≤ maxLen) : Om (cvW X (spell l)) B (some ⟨X.heap.size, 0, none⟩) l.length (cvC X (spell l)) l := by
  have hs := spell_size l
  have hge := grownCap_ge X (spell l).size 0 5
  have hcm := grownCap_le_maxLen X (spell l).size 0 5 (by rw [hs]; exact hz)
  refine ⟨rfl, hl, by rw [← hs]; exact hge, X.heap.size, _, _, rfl, hB, heap_alloc_new X.drew _, .inr (Nat.le_refl _), hcm, ?_, ?_⟩
  · have e : (spell l).data.size = (spell l).size := rfl
    unfold bytesRow
    rw [Array.size_append, Array.size_map, Array.size_replicate, e]
    show grownCap X (spell l).size 0 5 ≤ (spell l).size + (grownCap X (spell l).size 0 5 - (spell l).size)
    omega
  · have e : ((spell l).data.map (fun b => Value.int .u8 b.toNat)).toList = l.map bv := by
      rw [← spell_cells hl]
      simp [Lib.strCells]
    unfold bytesRow
    rw [Array.toList_append, e]
    have e2 : l.length = (l.map bv).length := by simp
    rw [e2]
    exact List.take_left
end Go.Proofs.YtemhhlongfabmaaGreatDoor
