/- A script copied into a row of the call's own, and more ops put behind it. -/
import Derived.Test.YtnhnpkedkdefnaaDoorWg
import Derived.Test.YtnhnpkedkdefnaaDoorXd
namespace Go.Proofs.YtnhnpkedkdefnaaDoor
open Go.ChangeShapes Go.WideShapes Go.ChangeAt Go.RowKit Go.Deep
set_option linter.unusedVariables false
set_option linter.unusedSimpArgs false
/- an op and where its bytes lie -/
structure Oq where
  x : Opt
  a : Option Addr
  n : Nat
  c : Nat
instance : Inhabited Oq := ⟨⟨o0, none, 0, 0⟩⟩
def Oq.cells (q : Oq) : List Value := [.int .i64 q.x.kind, .int .i64 q.x.which, .int .i64 q.x.num, .slice q.a q.n q.c]
structure Oq.ok (q : Oq) (w : World) : Prop where
  w0 : (Lit.int .i64 q.x.kind).wf = true
  w1 : (Lit.int .i64 q.x.which).wf = true
  w2 : (Lit.int .i64 q.x.num).wf = true
  sl : Sln w q.a q.n q.x.bs
  nc : q.n ≤ q.c
  cap : q.c ≤ 140737488351232
  z : q.a = none → q.c = 0
theorem Oq.ok.below {q : Oq} {w w' : World} (h : q.ok w) (hb : Below w.heap.size w w') : q.ok w' := ⟨h.w0, h.w1, h.w2, h.sl.below hb, h.nc, h.cap, h.z⟩
def qcells (qs : List Oq) : List Value := qs.flatMap Oq.cells
theorem qcells_cons (q : Oq) (qs : List Oq) : qcells (q :: qs) = q.cells ++ qcells qs := by simp [qcells]
theorem qcells_app (p q : List Oq) : qcells (p ++ q) = qcells p ++ qcells q := by simp [qcells]
theorem qcells_len (qs : List Oq) : (qcells qs).length = qs.length * 4 := by
  induction qs with
  | nil => rfl
  | cons q qs ih => rw [qcells_cons, List.length_append, ih, List.length_cons]; simp [Oq.cells]; omega
theorem qcells_get : ∀ (qs : List Oq) (i r : Nat), i < qs.length → r < 4 → (qcells qs)[i * 4 + r]? = (qs.getD i default).cells[r]?
  | [], i, r, h, _ => by simp at h
  | q :: qs, 0, r, _, hr => by
    rw [qcells_cons, List.getElem?_append_left (by simp [Oq.cells]; omega)]
    simp
  | q :: qs, i + 1, r, h, hr => by
    rw [qcells_cons, List.getElem?_append_right (by simp [Oq.cells]; omega), show (i + 1) * 4 + r - q.cells.length = i * 4 + r by simp [Oq.cells]; omega, qcells_get qs i r (by simp at h; omega) hr]
    simp
theorem qcells_one (qs : List Oq) : ∀ u ∈ qcells qs, u.oneCell' = true := by
  intro u hu
  obtain ⟨q, _, hq⟩ := List.mem_flatMap.1 hu
  simp only [Oq.cells, List.mem_cons, List.not_mem_nil, or_false] at hq
  rcases hq with rfl | rfl | rfl | rfl <;> rfl
theorem ops_mk {w : World} {b o : Nat} {qs : List Oq} (hb : b < w.heap.size) (hc : ∀ j u, (qcells qs)[j]? = some u → w.cell? ⟨b, o + j, none⟩ = some u) (ok : ∀ q ∈ qs, q.ok w) : Ops w (some ⟨b, o, none⟩) qs.length (qs.map (·.x)) := by
  refine ⟨by simp, .inr ⟨b, o, rfl, hb, fun i hi => ?_⟩⟩
  have hm : qs.getD i default ∈ qs := by
    have e : qs.getD i default = qs[i] := by simp [List.getD, hi]
    rw [e]
    exact List.getElem_mem hi
  have K := ok _ hm
  have g : ∀ r, r < 4 → ∀ u, (qs.getD i default).cells[r]? = some u → w.cell? ⟨b, o + i * 4 + r, none⟩ = some u := fun r hr u hu => by
    rw [Nat.add_assoc]
    exact hc _ u (by rw [qcells_get qs i r hi hr]; exact hu)
  have n0 : (qs.map (·.x)).getD i o0 = (qs.getD i default).x := by simp [List.getD, hi]
  rw [n0]
  exact ⟨_, _, _, g 0 (by omega) _ rfl, g 1 (by omega) _ rfl, g 2 (by omega) _ rfl, g 3 (by omega) _ rfl, K.w0, K.w1, K.w2, K.sl, K.nc, K.cap, K.z⟩
theorem ops_of {w : World} {a : Option Addr} {n : Nat} {L : List Opt} (h : Ops w a n L) : ∃ qs : List Oq, qs.map (·.x) = L ∧ (∀ q ∈ qs, q.ok w) ∧ (n = 0 ∨ ∃ b o, a = some ⟨b, o, none⟩ ∧ ∀ j u, (qcells qs)[j]? = some u → w.cell? ⟨b, o + j, none⟩ = some u) := by
  rcases h.row with h0 | ⟨b, o, ha, hb, hall⟩
  · have hl := h.len
    obtain rfl : L = [] := List.length_eq_zero_iff.1 (by omega)
    exact ⟨[], rfl, by simp, .inl h0⟩
  · have each : ∀ i, i < n → ∃ q : Oq, q.x = L.getD i o0 ∧ Opc w b (o + i * 4) q.x q.a q.n q.c := fun i hi => by
      obtain ⟨a', n', c', hc⟩ := hall i hi
      exact ⟨⟨L.getD i o0, a', n', c'⟩, rfl, hc⟩
    obtain ⟨f, hf⟩ := choose_lt each
    have hl := h.len
    refine ⟨(List.range n).map f, ?_, ?_, .inr ⟨b, o, ha, ?_⟩⟩
    · apply List.ext_getElem
      · simp [hl]
      · intro i h1 h2
        simp only [List.map_map, List.getElem_map, List.getElem_range, Function.comp]
        rw [(hf i (by omega)).1]
        simp [List.getD, h2]
    · intro q hq
      obtain ⟨i, hi, rfl⟩ := List.mem_map.1 hq
      have k := (hf i (List.mem_range.1 hi)).2
      exact ⟨k.w0, k.w1, k.w2, k.sl, k.nc, k.cap, k.z⟩
    · intro j u hu
      have hj : j < n * 4 := by
        have := (List.getElem?_eq_some_iff.1 hu).1
        rw [qcells_len] at this
        simpa using this
      have hi : j / 4 < n := by omega
      have e : j = j / 4 * 4 + j % 4 := by omega
      have k := (hf (j / 4) hi).2
      have g := qcells_get ((List.range n).map f) (j / 4) (j % 4) (by simpa using hi) (by omega)
      rw [← e, hu] at g
      have n0 : ((List.range n).map f).getD (j / 4) default = f (j / 4) := by simp [List.getD, hi]
      rw [n0] at g
      rw [e, ← Nat.add_assoc]
      have h4 : j % 4 = 0 ∨ j % 4 = 1 ∨ j % 4 = 2 ∨ j % 4 = 3 := by omega
      rcases h4 with h4 | h4 | h4 | h4 <;> rw [h4] at g ⊢ <;> simp only [Oq.cells, List.getElem?_cons_zero, List.getElem?_cons_succ, Option.some.injEq] at g <;> rw [g]
      · exact k.c0
      · exact k.c1
      · exact k.c2
      · exact k.c3
theorem info31 : (Tryd.prog.info? 31).map (fun i => (i.zero, i.size, i.bytes)) = some (some (.agg #[.int .i64 0, .int .i64 0, .int .i64 0, .slice none 0 0]), 4, 48) := by kernel_rfl
/- a row of ops of the call's own -/
def Oow (w : World) (B g k cap : Nat) (qs : List Oq) : Prop := w.ownsRow B 31 4 (.slice (some ⟨g, 0, none⟩) k cap) k (qcells qs)
theorem oow_new (w : World) : Oow (w.alloc (.cells #[] 31)) w.heap.size w.heap.size 0 0 [] := World.ownsRow_made w #[] 0 (Nat.le_refl _) (by unfold maxLen; omega) (by simp)
theorem Oow.cells {w : World} {B g k cap : Nat} {qs : List Oq} (h : Oow w B g k cap qs) : B ≤ g ∧ g < w.heap.size ∧ ∀ j u, (qcells qs)[j]? = some u → w.cell? ⟨g, 0 + j, none⟩ = some u := by
  unfold Oow at h
  rcases h.2 with ⟨h1, _⟩ | ⟨g', cap', cur, h1, h2, h3, h4, h5, h6, h7⟩
  · simp at h1
  · simp only [Value.slice.injEq, Option.some.injEq, Addr.mk.injEq, and_true] at h1
    obtain ⟨rfl, _, rfl⟩ := h1
    refine ⟨h2, (Array.getElem?_eq_some_iff.1 h3).1, fun j u hu => ?_⟩
    rw [Nat.zero_add]
    rw [← h7] at hu
    have hj : j < k * 4 := by
      have := (List.getElem?_eq_some_iff.1 hu).1
      simp at this
      omega
    rw [List.getElem?_take_of_lt hj] at hu
    unfold World.cell?
    rw [h3]
    simpa using hu
theorem Oow.ops {w : World} {B g k cap : Nat} {qs : List Oq} (h : Oow w B g k cap qs) (ok : ∀ q ∈ qs, q.ok w) : Ops w (some ⟨g, 0, none⟩) k (qs.map (·.x)) := by
  have hk : k = qs.length := by have := h.1; rw [qcells_len] at this; omega
  rw [hk]
  exact ops_mk h.cells.2.1 h.cells.2.2 ok
theorem app_ops {w : World} {B g k cap : Nat} {ps qs : List Oq} {a : Option Addr} {n c : Nat} (own : Oow w B g k cap ps) (hn : n = qs.length) (hX : n = 0 ∨ ∃ b o, a = some ⟨b, o, none⟩ ∧ ∀ j u, (qcells qs)[j]? = some u → w.cell? ⟨b, o + j, none⟩ = some u) (hz : a = none → c = 0) (hb : k + n ≤ 1000000000) (hB : B ≤ w.heap.size) :
    ∃ g' cap' w', (Builtin.append_ #[22, 22] 22 #[.slice (some ⟨g, 0, none⟩) k cap, .slice a n c]).run Tryd.prog w = .ok (.slice (some ⟨g', 0, none⟩) (k + n) cap') w' ∧ Oow w' B g' (k + n) cap' (ps ++ qs) ∧ w.grownBy w' (some g) := by
  obtain ⟨x, hx, hz0, hz1, hz2⟩ := info_parts info31
  cases a with
  | none =>
    have c0 := hz rfl
    have n0 : n = 0 := by
      rcases hX with h | ⟨b, o, h, _⟩
      · exact h
      · simp at h
    subst n0 c0
    obtain rfl : qs = [] := List.length_eq_zero_iff.1 hn.symm
    exact ⟨g, cap, w, run_append_owned_none (P := Tryd.prog) w B 22 22 31 x 4 Tryd.underlying22 hx _ k _ own, by simpa using own, grown_refl _ _⟩
  | some ad =>
    have hcell : ∀ j u, (qcells qs)[j]? = some u → w.cell? (ad.add j) = some u := by
      intro j u hu
      rcases hX with h | ⟨b, o, h, hc⟩
      · obtain rfl : qs = [] := List.length_eq_zero_iff.1 (by omega)
        simp [qcells] at hu
      · simp only [Option.some.injEq] at h
        subst h
        rw [Addr.add_mid]
        exact hc j u hu
    obtain ⟨v', w', hrun, hown, hgr, hnil⟩ := run_append_own (P := Tryd.prog) w B 22 22 31 x _ 4 48 Tryd.underlying22 hx hz0 hz1 hz2 rfl (by decide) _ k (qcells ps) own ad n c (qcells qs) (by rw [qcells_len, hn]) hcell (qcells_one qs) (by unfold maxLen; omega) (by omega) hB
    rcases hown.2 with ⟨h0, _⟩ | ⟨g', cap', cur, rfl, _⟩
    · have := (hnil.1 h0).1
      simp at this
    · exact ⟨g', cap', w', hrun, by unfold Oow; rw [qcells_app]; exact hown, hgr⟩
end Go.Proofs.YtnhnpkedkdefnaaDoor
