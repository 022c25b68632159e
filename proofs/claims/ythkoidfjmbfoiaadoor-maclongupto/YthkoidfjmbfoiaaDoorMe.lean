/- What the document's code of a message under a key does to a machine, for all keys and messages. -/
import Derived.Test.YthkoidfjmbfoiaaDoorMd
import Derived.Test.YthkoidfjmbfoiaaDoorRn
import Derived.Deep.DeepCutAuto
namespace Go.Proofs.YthkoidfjmbfoiaaDoor
open Go.ChangeShapes Go.WideShapes Go.ChangeAt Go.RowKit
set_option linter.unusedVariables false
set_option linter.unusedSimpArgs false
theorem own_blk {w : World} {g : Nat} {L : List Nat} (h : Blk w g L) (hm : L.length ≤ 140737488352256) : w.ownsRow g 5 1 (.slice (some ⟨g, 0, none⟩) L.length L.length) L.length (L.map bv) :=
  ⟨by simp, .inr ⟨g, L.length, (L.map bv).toArray, rfl, Nat.le_refl _, h, Nat.le_refl _, by unfold maxLen; omega, by simp, by rw [Nat.mul_one]; exact List.take_of_length_le (by simp)⟩⟩
/- a slice's content appended onto a row that fills its block -/
theorem app_blk {wr : World} {g k : Nat} {L l : List Nat} {a : Option Addr} {n c : Nat} (hB : Blk wr g L) (hk : k = L.length) (hS : Sln wr a n l) (hc : a = none → c = 0) (hm : L.length ≤ 140737488352256) (hb : L.length + n ≤ 140737488355328) :
    ∃ g' cap' w', (Builtin.append_ #[22, 22] 22 #[.slice (some ⟨g, 0, none⟩) k k, .slice a n c]).run Tryd.prog wr = .ok (.slice (some ⟨g', 0, none⟩) (k + n) cap') w' ∧ Row w' g' 0 (L ++ l) ∧ g ≤ g' ∧ g' < w'.heap.size ∧ k + n ≤ cap' ∧ wr.grownBy w' (some g) := by
  subst hk
  obtain ⟨i, hi, hz0, hz1, hz2⟩ := info_parts info5
  have own := own_blk hB hm
  have e := hS.len
  have fin : ∀ (v' : Value) (w' : World), 0 < L.length + n ∨ v' = .slice (some ⟨g, 0, none⟩) (L.length + n) L.length → w'.ownsRow g 5 1 v' (L.length + n) (L.map bv ++ l.map bv) → ∃ g' cap', v' = .slice (some ⟨g', 0, none⟩) (L.length + n) cap' ∧ Row w' g' 0 (L ++ l) ∧ g ≤ g' ∧ g' < w'.heap.size ∧ L.length + n ≤ cap' := by
    intro v' w' hpos hown
    rcases hown.2 with ⟨h1, h0⟩ | ⟨g', cap', cur, rfl, hg, hgg, hcap, _⟩
    · rcases hpos with h | h
      · omega
      · rw [h1] at h; simp at h
    · refine ⟨g', cap', rfl, ?_, hg, (Array.getElem?_eq_some_iff.1 hgg).1, hcap⟩
      rw [← List.map_append] at hown
      exact own_row hown
  by_cases hl : l = []
  · subst hl
    have e0 : n = 0 := e
    subst e0
    obtain ⟨w', hr, ho, hg⟩ := app_fits own hS hc (by omega)
    obtain ⟨g', cap', h1, h2, h3, h4, h5⟩ := fin _ w' (.inr rfl) ho
    rw [h1] at hr
    exact ⟨g', cap', w', hr, h2, h3, h4, h5, hg⟩
  · obtain ⟨b, off, rfl, _, r⟩ := hS.sli.2.2.resolve_left hl
    obtain ⟨v', w', hrun, hown, hgr, _⟩ := run_append_own (P := Tryd.prog) wr g 22 22 5 i (.int .u8 0) 1 1 Tryd.underlying22 hi hz0 hz1 hz2 rfl (by decide) _ L.length (L.map bv) own ⟨b, off, none⟩ n c (l.map bv) (by simp [e]) (map_cells r) (map_one _) (by unfold maxLen; omega) (by omega) (Nat.le_of_lt hB.lt)
    have hpos : 0 < n := by rw [e]; exact List.length_pos_iff.2 hl
    obtain ⟨g', cap', h1, h2, h3, h4, h5⟩ := fin v' w' (.inl (by omega)) hown
    rw [h1] at hrun
    exact ⟨g', cap', w', hrun, h2, h3, h4, h5, hgr⟩
theorem Row.sln {w : World} {g n : Nat} {l : List Nat} (h : Row w g 0 l) (hg : g < w.heap.size) (hn : n = l.length) (h1 : ∀ x ∈ l, x < 256) (h2 : l.length ≤ 140737488352256) : Sln w (some ⟨g, 0, none⟩) n l := ⟨hn, h1, h2, .inr ⟨g, 0, rfl, hg, h⟩⟩
theorem Blk.grown {w w' : World} {g k : Nat} {l : List Nat} (h : Blk w g l) (hg : w.grownBy w' (some k)) (hne : g ≠ k) : Blk w' g l := (hg.block g h.lt (by simpa using hne)).trans h
theorem Arr.grown {j : IntKind} {t : TypeId} {w w' : World} {g k : Nat} {l : List Nat} (h : Arr j t w g l) (hg : w.grownBy w' (some k)) (hne : g ≠ k) : Arr j t w' g l := (hg.block g h.lt (by simpa using hne)).trans h
theorem Kp.grown {w wr w' : World} {k : Nat} (h : Kp w wr) (hg : wr.grownBy w' (some k)) (hk : w.heap.size < k) : Kp w w' :=
  ⟨h.out.grown hg (by omega), h.bel.grown hg h.bel.size (fun j e => by simp at e; omega)⟩
/- what lies there while the two blocks are filled -/
structure Rk (w wr : World) (gi go : Nat) (a : Option Addr) (n : Nat) (kk li lo : List Nat) : Prop where
  kp : Kp w wr
  ks : Sln wr a n kk
  bi : Blk wr gi li
  bo : Blk wr go lo
  ne : gi ≠ go
  ri : w.heap.size < gi
  ro : w.heap.size < go
  ap : ∀ b off, kk ≠ [] → a = some ⟨b, off, none⟩ → b ≠ gi ∧ b ≠ go
theorem Rk.put {w wr : World} {gi go : Nat} {a : Option Addr} {n : Nat} {kk li lo : List Nat} (h : Rk w wr gi go a n kk li lo) (k x y : Nat) :
    Rk w ((wr.setCell ⟨gi, k, none⟩ (.int .u8 (x : Nat))).setCell ⟨go, k, none⟩ (.int .u8 (y : Nat))) gi go a n kk (li.set k x) (lo.set k y) := by
  have o1 : Oth gi wr (wr.setCell ⟨gi, k, none⟩ (.int .u8 (x : Nat))) := (Oth.refl _ wr).setCell k _
  have o2 : Oth go (wr.setCell ⟨gi, k, none⟩ (.int .u8 (x : Nat))) ((wr.setCell ⟨gi, k, none⟩ (.int .u8 (x : Nat))).setCell ⟨go, k, none⟩ (.int .u8 (y : Nat))) := (Oth.refl _ _).setCell k _
  have h1 := h.ri; have h2 := h.ro
  refine ⟨⟨(h.kp.out.oth o1 (by omega)).oth o2 (by omega), o2.below (o1.below h.kp.bel (by omega)) (by omega)⟩, ?_, (h.bi.set k x).oth o2 h.ne, (h.bo.oth o1 (Ne.symm h.ne)).set k y, h.ne, h1, h2, h.ap⟩
  have s1 := But.sln (But.oth o1) h.ks (fun b off h3 h4 => (h.ap b off h3 h4).1)
  exact But.sln (But.oth o2) s1 (fun b off h3 h4 => (h.ap b off h3 h4).2)
theorem pad_getD {kk : List Nat} {k : Nat} (hk : k < 64) : (Gs.pad kk).getD k 0 = kk.getD k 0 := by
  unfold Gs.pad
  simp only [List.getD]
  by_cases h : k < kk.length
  · rw [List.getElem?_append_left h]
  · rw [List.getElem?_append_right (by omega), List.getElem?_replicate]
    rw [show kk[k]? = none from by simp; omega]
    split <;> rfl
theorem xor_snoc (P : List Nat) (m k : Nat) (hk : k < P.length) : Gs.xorL (P.take (k + 1)) m = Gs.xorL (P.take k) m ++ [P.getD k 0 ^^^ m] := by
  rw [take_succ_getD hk]
  simp [Gs.xorL]
theorem xor_len (P : List Nat) (m k : Nat) (hk : k ≤ P.length) : (Gs.xorL (P.take k) m).length = k := by simp [Gs.xorL]; omega
end Go.Proofs.YthkoidfjmbfoiaaDoor
