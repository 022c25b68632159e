/- Both networks side by side. -/
import Derived.Test.YtkjebbpmafhpgaaDoorPc
import Derived.Test.YtkjebbpmafhpgaaDoorPe
namespace Go.Proofs.YtkjebbpmafhpgaaDoor
open Go.ChangeShapes Go.WideShapes Go.ChangeAt Go.RowKit
set_option maxRecDepth 20000
set_option linter.unusedVariables false
set_option linter.unusedSimpArgs false
/- both networks, with the same letters -/
structure Pr (w : World) (lo d e : Nat) (a b : Option Addr) (X : List Lt) (g : Int) : Prop where
  nt : Nt w lo d a X g
  rt : Rt w lo e b X g
/- their blocks -/
def Pk (d e : Nat) (a b : Option Addr) (q : Nat) : Prop := (q = d ∨ blkOf a = some q) ∨ (q = e ∨ blkOf b = some q)
structure PF (w w' : World) (d e : Nat) (a b a' b' : Option Addr) : Prop where
  ch : Ch w w' (Pk d e a b)
  nwa : ∀ q, blkOf a' = some q → blkOf a = some q ∨ w.heap.size ≤ q
  nwb : ∀ q, blkOf b' = some q → blkOf b = some q ∨ w.heap.size ≤ q
section
variable {w w' w2 : World} {lo d e : Nat} {a b a' b' a2 b2 : Option Addr} {X X' : List Lt} {g g' : Int}
theorem Nt.ty (h : Nt w lo d a X g) {q : Nat} (hq : q = d ∨ blkOf a = some q) : ∃ cur t, w.heap[q]? = some (.cells cur t (0, 0)) ∧ (t = 58 ∨ t = 71) := by
  obtain ⟨n, c, h1, h2⟩ := h.st
  rcases hq with rfl | hq
  · exact ⟨_, _, h1, .inl rfl⟩
  · obtain ⟨cur, h3, _⟩ := h2.blk hq
    exact ⟨_, _, h3, .inr rfl⟩
theorem Rt.ty (h : Rt w lo d a X g) {q : Nat} (hq : q = d ∨ blkOf a = some q) : ∃ cur t, w.heap[q]? = some (.cells cur t (0, 0)) ∧ (t = 30 ∨ t = 38) := by
  obtain ⟨n, c, h1, h2⟩ := h.st
  rcases hq with rfl | hq
  · exact ⟨_, _, h1, .inl rfl⟩
  · obtain ⟨cur, h3, _⟩ := h2.blk hq
    exact ⟨_, _, h3, .inr rfl⟩
theorem nr_off (h : Nt w lo d a X g) (k : Rt w lo e b X' g') {q : Nat} (h1 : q = d ∨ blkOf a = some q) (h2 : q = e ∨ blkOf b = some q) : False := by
  obtain ⟨c1, t1, e1, k1⟩ := h.ty h1
  obtain ⟨c2, t2, e2, k2⟩ := k.ty h2
  rw [e1] at e2
  simp only [Option.some.injEq, Obj.cells.injEq] at e2
  rcases k1 with rfl | rfl <;> rcases k2 with rfl | rfl <;> exact absurd e2.2.1 (by decide)
theorem Nt.lt2 (h : Nt w lo d a X g) {q : Nat} (hq : q = d ∨ blkOf a = some q) : lo ≤ q ∧ q < w.heap.size := by
  rcases hq with rfl | hq
  · exact ⟨h.dl, h.dlt⟩
  · exact ⟨(h.alt hq).1, (h.alt hq).2.1⟩
theorem Rt.lt2 (h : Rt w lo d a X g) {q : Nat} (hq : q = d ∨ blkOf a = some q) : lo ≤ q ∧ q < w.heap.size := by
  rcases hq with rfl | hq
  · exact ⟨h.dl, h.dlt⟩
  · exact ⟨(h.alt hq).1, (h.alt hq).2.1⟩
/- a call on the one leaves the other -/
theorem Rt.nf (k : Rt w lo e b X' g') (h : Nt w lo d a X g) (hf : NF w w' d a a') : Rt w' lo e b X' g' :=
  k.keep fun q hq => hf.ch.block q (k.lt2 hq).2 (fun hs => nr_off h k hs hq)
theorem Nt.rf (h : Nt w lo d a X g) (k : Rt w lo e b X' g') (hf : NF w w' e b b') : Nt w' lo d a X g :=
  h.keep fun q hq => hf.ch.block q (h.lt2 hq).2 (fun hs => nr_off h k hq hs)
theorem Pr.below (h : Pr w lo d e a b X g) (hb : Below w.heap.size w w') : Pr w' lo d e a b X g := ⟨h.nt.below hb, h.rt.below hb⟩
theorem Pr.lt (h : Pr w lo d e a b X g) {q : Nat} (hq : Pk d e a b q) : lo ≤ q ∧ q < w.heap.size := by
  rcases hq with hq | hq
  · exact h.nt.lt2 hq
  · exact h.rt.lt2 hq
theorem PF.below (hb : Below w.heap.size w w') : PF w w' d e a b a b := ⟨Ch.below hb, fun q h => .inl h, fun q h => .inl h⟩
theorem PF.nf (hf : NF w w' d a a') : PF w w' d e a b a' b := ⟨hf.ch.weak fun q _ h => .inl h, hf.nw, fun q h => .inl h⟩
theorem PF.rf (hf : NF w w' e b b') : PF w w' d e a b a b' := ⟨hf.ch.weak fun q _ h => .inr h, fun q h => .inl h, hf.nw⟩
theorem PF.trans (hP : Pr w lo d e a b X g) (h : PF w w' d e a b a' b') (k : PF w' w2 d e a' b' a2 b2) : PF w w2 d e a b a2 b2 := by
  refine ⟨h.ch.then k.ch (fun q _ hq => hq) (fun q hq hs => ?_), fun q hq => ?_, fun q hq => ?_⟩
  · rcases hs with (hs | hs) | (hs | hs)
    · exact .inl (.inl hs)
    · rcases h.nwa q hs with h1 | h1
      · exact .inl (.inr h1)
      · omega
    · exact .inr (.inl hs)
    · rcases h.nwb q hs with h1 | h1
      · exact .inr (.inr h1)
      · omega
  · rcases k.nwa q hq with h1 | h1
    · exact h.nwa q h1
    · exact .inr (Nat.le_trans h.ch.size h1)
  · rcases k.nwb q hq with h1 | h1
    · exact h.nwb q h1
    · exact .inr (Nat.le_trans h.ch.size h1)
end
/- a block of bytes that may be written -/
structure Bq (w : World) (g m : Nat) : Prop where
  h : ∃ cur fr, w.heap[g]? = some (.cells cur 5 fr) ∧ (∀ i, i < m → ∃ x : Nat, x < 256 ∧ cur[i]? = some (.int .u8 (x : Int))) ∧ (m ≤ fr.1 ∨ fr = (0, 0))
section
variable {w w' : World} {g m : Nat}
theorem Bq.at_ (h : Bq w g m) {i : Nat} (hi : i < m) : ∃ x : Nat, x < 256 ∧ w.cell? ⟨g, i, none⟩ = some (.int .u8 (x : Int)) ∧ w.frozen? ⟨g, i, none⟩ = false := by
  obtain ⟨cur, fr, h1, h2, h3⟩ := h.h
  obtain ⟨x, hx, hc⟩ := h2 i hi
  refine ⟨x, hx, by simp [World.cell?, h1, hc], ?_⟩
  obtain ⟨f1, f2⟩ := fr
  rcases h3 with h3 | h3
  · have : ¬ (f1 ≤ i) := by simp at h3; omega
    simp [World.frozen?, h1, this]
  · simp at h3
    simp [World.frozen?, h1, h3.1, h3.2]
theorem Bq.put (h : Bq w g m) (i y : Nat) (hy : y < 256) : Bq (w.setCell ⟨g, i, none⟩ (.int .u8 (y : Int))) g m := by
  obtain ⟨cur, fr, h1, h2, h3⟩ := h.h
  refine ⟨_, fr, set_blk h1 i _, fun j hj => ?_, h3⟩
  obtain ⟨x, hx, hc⟩ := h2 j hj
  by_cases e : i = j
  · subst e
    have := (Array.getElem?_eq_some_iff.1 hc).1
    exact ⟨y, hy, by simp [this]⟩
  · exact ⟨x, hx, by rw [Array.getElem?_setIfInBounds_ne e]; exact hc⟩
theorem Bq.ty (h : Bq w g m) : ∃ cur fr, w.heap[g]? = some (.cells cur 5 fr) := by
  obtain ⟨cur, fr, h1, _⟩ := h.h
  exact ⟨cur, fr, h1⟩
theorem Bq.below (h : Bq w g m) (hb : Below w.heap.size w w') : Bq w' g m := by
  obtain ⟨cur, fr, h1, h2⟩ := h.h
  exact ⟨cur, fr, (hb.block g (Array.getElem?_eq_some_iff.1 h1).1).trans h1, h2⟩
theorem Bq.marks {n : Nat} {l : List Nat} (h : Blk w g (l ++ Go.Proofs.YtkjebbpmafhpgaaDoor.marks)) (hl : ∀ x ∈ l, x < 256) (hn : n = l.length) : Bq w g n := by
  refine ⟨_, _, h, fun i hi => ?_, .inr rfl⟩
  have hi2 : i < l.length := by omega
  refine ⟨l[i], hl _ (List.getElem_mem hi2), ?_⟩
  have e : ((l ++ Go.Proofs.YtkjebbpmafhpgaaDoor.marks).map bv)[i]? = some (bv l[i]) := by rw [List.getElem?_map, List.getElem?_append_left hi2, List.getElem?_eq_getElem hi2]; rfl
  rw [List.getElem?_toArray]
  exact e
theorem Bq.row {s : ByteArray} {c : Nat} (h : w.heap[g]? = some (.cells (bytesRow s c) 5 ((bytesRow s c).size, (bytesRow s c).size + 1))) (hc : s.size ≤ c) : Bq w g s.size := by
  refine ⟨_, _, h, fun i hi => ?_, .inl ?_⟩
  · have hi2 : i < s.data.size := hi
    exact ⟨(s.data[i]).toNat, (s.data[i]).toNat_lt, bytesRow_at s c i hi2⟩
  · show s.size ≤ (bytesRow s c).size
    rcases Nat.eq_zero_or_pos s.size with h0 | h0
    · omega
    · have := (Array.getElem?_eq_some_iff.1 (bytesRow_at s c (s.size - 1) (show s.size - 1 < s.data.size from by show s.size - 1 < s.size; omega))).1
      omega
end
theorem Pr.put {w : World} {lo d e gb m i : Nat} {a b : Option Addr} {X : List Lt} {g : Int} (h : Pr w lo d e a b X g) (hB : Bq w gb m) (v : Value) : Pr (w.setCell ⟨gb, i, none⟩ v) lo d e a b X g := by
  obtain ⟨cur, fr, hg⟩ := hB.ty
  refine ⟨h.nt.keep fun q hq => Below.heap_setCell _ _ _ _ ?_, h.rt.keep fun q hq => Below.heap_setCell _ _ _ _ ?_⟩
  · rintro rfl
    obtain ⟨c1, t1, e1, k1⟩ := h.nt.ty hq
    rw [e1] at hg
    simp only [Option.some.injEq, Obj.cells.injEq] at hg
    rcases k1 with rfl | rfl <;> exact absurd hg.2.1 (by decide)
  · rintro rfl
    obtain ⟨c1, t1, e1, k1⟩ := h.rt.ty hq
    rw [e1] at hg
    simp only [Option.some.injEq, Obj.cells.injEq] at hg
    rcases k1 with rfl | rfl <;> exact absurd hg.2.1 (by decide)
theorem Sln.keepb {w w' : World} {a : Option Addr} {n : Nat} {l : List Nat} (h : Sln w a n l) (hs : w.heap.size ≤ w'.heap.size) (hb : ∀ q, l ≠ [] → blkOf a = some q → q < w.heap.size → w'.heap[q]? = w.heap[q]?) : Sln w' a n l := by
  refine ⟨h.len, h.sli.1, h.sli.2.1, ?_⟩
  by_cases h9 : l = []
  · exact .inl h9
  rcases h.sli.2.2 with h0 | ⟨b, off, rfl, hl, hr⟩
  · exact .inl h0
  · exact .inr ⟨b, off, rfl, Nat.lt_of_lt_of_le hl hs, fun i hi => (World.cell?_of_block (a := ⟨b, off + i, none⟩) (hb b h9 rfl hl)).trans (hr i hi)⟩
theorem Sln.nf {w w' : World} {d : Nat} {a a' ab : Option Addr} {n : Nat} {l : List Nat} (h : Sln w ab n l) (hf : NF w w' d a a') (hap : ∀ q, l ≠ [] → blkOf ab = some q → ¬ (q = d ∨ blkOf a = some q)) : Sln w' ab n l :=
  h.keepb hf.ch.size fun q h9 hq hl => hf.ch.block q hl (hap q h9 hq)
theorem blk_nf {w w' : World} {lo d g : Nat} {a a' : Option Addr} {X : List Lt} {gg : Int} {cur : Array Value} {t : TypeId} {fr : Nat × Nat} (h : Nt w lo d a X gg) (hf : NF w w' d a a') (hg : w.heap[g]? = some (.cells cur t fr)) (ht : t ≠ 58 ∧ t ≠ 71) : w'.heap[g]? = some (.cells cur t fr) := by
  refine (hf.ch.block g (Array.getElem?_eq_some_iff.1 hg).1 (fun hs => ?_)).trans hg
  obtain ⟨c1, t1, e1, k1⟩ := h.ty hs
  rw [hg] at e1
  simp only [Option.some.injEq, Obj.cells.injEq] at e1
  rcases k1 with rfl | rfl
  · exact ht.1 e1.2.1
  · exact ht.2 e1.2.1
theorem blk_rf {w w' : World} {lo d g : Nat} {a a' : Option Addr} {X : List Lt} {gg : Int} {cur : Array Value} {t : TypeId} {fr : Nat × Nat} (h : Rt w lo d a X gg) (hf : NF w w' d a a') (hg : w.heap[g]? = some (.cells cur t fr)) (ht : t ≠ 30 ∧ t ≠ 38) : w'.heap[g]? = some (.cells cur t fr) := by
  refine (hf.ch.block g (Array.getElem?_eq_some_iff.1 hg).1 (fun hs => ?_)).trans hg
  obtain ⟨c1, t1, e1, k1⟩ := h.ty hs
  rw [hg] at e1
  simp only [Option.some.injEq, Obj.cells.injEq] at e1
  rcases k1 with rfl | rfl
  · exact ht.1 e1.2.1
  · exact ht.2 e1.2.1
end Go.Proofs.YtkjebbpmafhpgaaDoor
