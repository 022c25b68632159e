/- Three new ballots, made in whatever order. -/
import Derived.Test.YtdfnjcjpblkmcaaDoorAl
namespace Go.Proofs.YtdfnjcjpblkmcaaDoor
open Go.ChangeShapes Go.WideShapes Go.ChangeAt Go.RowKit
set_option maxRecDepth 20000
set_option linter.unusedVariables false
set_option linter.unusedSimpArgs false
abbrev zb : Obj := .cells #[.int .i64 0, .int .i64 0] 34
theorem put_comm {a : Act} {s t : Nat} (h : s ≠ t) (x y : Value) : (a.put (some s) x).put (some t) y = (a.put (some t) y).put (some s) x := by
  simp only [Act.put]
  rw [Array.setIfInBounds_comm _ _ h]
section
variable {ops : Array Oper} {Q : Exit → Act → World → Prop} {md : Region.Mode} {S : Array Bool → World → Prop}
theorem alloc_op {i d : Nat} {o : Oper} (ho : ops[i]? = some o) (h1 : o.op = .alloc 34) (h2 : o.dst = some d) (h3 : o.guard = none) {K : Act → World → Prop} {a : Act} {w : World} (h : K (a.put (some d) (.pointer (some ⟨w.heap.size, 0, none⟩))) (w.alloc zb)) : wpOp Tryd.prog ops Q i K a w := by
  refine wpOp_step ho (fun K' hK => ?_)
  have hw : Region.wanted o (yielded ops a.tmps) = true := by simp [Region.wanted, h3]
  rw [if_pos hw]
  unfold Oper.wp
  simp [execOp, h1, go_sem]
  rw [h2]
  exact hK _ _ h
theorem till_alloc {i d : Nat} {o : Oper} (ho : ops[i]? = some o) (h1 : o.op = .alloc 34) (h2 : o.dst = some d) (h3 : o.guard = none) {f : Nat} {L : Array Bool} {a : Act} {w : World} (hr : Region.ready md ops L = [i]) (hS : S (L.setIfInBounds i true) (w.alloc zb)) (h : wpTill Tryd.prog md ops Q S f (L.setIfInBounds i true) (a.put (some d) (.pointer (some ⟨w.heap.size, 0, none⟩))) (w.alloc zb)) : wpTill Tryd.prog md ops Q S (f + 1) L a w := by
  refine ⟨fun h0 => (by rw [hr] at h0; cases h0), fun j hj => ?_⟩
  rw [hr] at hj
  obtain rfl : j = i := by simpa using hj
  exact alloc_op ho h1 h2 h3 ⟨hS, h⟩
theorem till_alloc2 {i j d e : Nat} {o p : Oper} (ho : ops[i]? = some o) (h1 : o.op = .alloc 34) (h2 : o.dst = some d) (h3 : o.guard = none) (hp : ops[j]? = some p) (k1 : p.op = .alloc 34) (k2 : p.dst = some e) (k3 : p.guard = none) (hij : i ≠ j) (hde : d ≠ e) {f : Nat} {L : Array Bool} {a : Act} {w : World} (hr : Region.ready md ops L = [i, j]) (hri : Region.ready md ops (L.setIfInBounds i true) = [j]) (hrj : Region.ready md ops (L.setIfInBounds j true) = [i])
    (hS : ∀ L', S L' (w.alloc zb) ∧ S L' ((w.alloc zb).alloc zb))
    (h : ∀ x y, (x = w.heap.size ∧ y = w.heap.size + 1) ∨ (x = w.heap.size + 1 ∧ y = w.heap.size) → wpTill Tryd.prog md ops Q S f ((L.setIfInBounds i true).setIfInBounds j true) ((a.put (some d) (.pointer (some ⟨x, 0, none⟩))).put (some e) (.pointer (some ⟨y, 0, none⟩))) ((w.alloc zb).alloc zb)) : wpTill Tryd.prog md ops Q S (f + 2) L a w := by
  have sz : (w.alloc zb).heap.size = w.heap.size + 1 := by simp
  refine ⟨fun h0 => (by rw [hr] at h0; cases h0), fun k hk => ?_⟩
  rw [hr] at hk
  rcases List.mem_cons.1 hk with rfl | hk
  · refine alloc_op ho h1 h2 h3 ⟨(hS _).1, till_alloc hp k1 k2 k3 hri (hS _).2 ?_⟩
    rw [sz]
    exact h _ _ (.inl ⟨rfl, rfl⟩)
  · obtain rfl : k = j := by simpa using hk
    refine alloc_op hp k1 k2 k3 ⟨(hS _).1, till_alloc ho h1 h2 h3 hrj (hS _).2 ?_⟩
    rw [sz, put_comm (Ne.symm hde), Array.setIfInBounds_comm _ _ (Ne.symm hij)]
    exact h _ _ (.inr ⟨rfl, rfl⟩)
/- three of them: what is said of the blocks is that they are new, and apart -/
theorem till_alloc3 {i j k d e g : Nat} {o p q : Oper} (ho : ops[i]? = some o) (h1 : o.op = .alloc 34) (h2 : o.dst = some d) (h3 : o.guard = none) (hp : ops[j]? = some p) (k1 : p.op = .alloc 34) (k2 : p.dst = some e) (k3 : p.guard = none) (hq : ops[k]? = some q) (l1 : q.op = .alloc 34) (l2 : q.dst = some g) (l3 : q.guard = none)
    (hij : i ≠ j) (hik : i ≠ k) (hjk : j ≠ k) (hde : d ≠ e) (hdg : d ≠ g) (heg : e ≠ g) {f : Nat} {L : Array Bool} {a : Act} {w : World} (hr : Region.ready md ops L = [i, j, k])
    (ri : Region.ready md ops (L.setIfInBounds i true) = [j, k]) (rj : Region.ready md ops (L.setIfInBounds j true) = [i, k]) (rk : Region.ready md ops (L.setIfInBounds k true) = [i, j])
    (rij : Region.ready md ops ((L.setIfInBounds i true).setIfInBounds j true) = [k]) (rik : Region.ready md ops ((L.setIfInBounds i true).setIfInBounds k true) = [j]) (rjk : Region.ready md ops ((L.setIfInBounds j true).setIfInBounds k true) = [i])
    (hS : ∀ L', S L' (w.alloc zb) ∧ S L' ((w.alloc zb).alloc zb) ∧ S L' (((w.alloc zb).alloc zb).alloc zb))
    (h : ∀ x y z, (w.heap.size ≤ x ∧ x < w.heap.size + 3) → (w.heap.size ≤ y ∧ y < w.heap.size + 3) → (w.heap.size ≤ z ∧ z < w.heap.size + 3) → x ≠ y → x ≠ z → y ≠ z → wpTill Tryd.prog md ops Q S f (((L.setIfInBounds i true).setIfInBounds j true).setIfInBounds k true) (((a.put (some d) (.pointer (some ⟨x, 0, none⟩))).put (some e) (.pointer (some ⟨y, 0, none⟩))).put (some g) (.pointer (some ⟨z, 0, none⟩))) (((w.alloc zb).alloc zb).alloc zb)) : wpTill Tryd.prog md ops Q S (f + 3) L a w := by
  have sz : (w.alloc zb).heap.size = w.heap.size + 1 := by simp
  refine ⟨fun h0 => (by rw [hr] at h0; cases h0), fun m hm => ?_⟩
  rw [hr] at hm
  rcases List.mem_cons.1 hm with rfl | hm
  · refine alloc_op ho h1 h2 h3 ⟨(hS _).1, till_alloc2 hp k1 k2 k3 hq l1 l2 l3 hjk heg ri rij rik (fun L' => (hS L').2) ?_⟩
    rw [sz]
    intro x y hxy
    exact h _ x y (by omega) (by omega) (by omega) (by omega) (by omega) (by omega)
  · rcases List.mem_cons.1 hm with rfl | hm
    · refine alloc_op hp k1 k2 k3 ⟨(hS _).1, till_alloc2 ho h1 h2 h3 hq l1 l2 l3 hik hdg rj (by rw [Array.setIfInBounds_comm _ _ (Ne.symm hij)]; exact rij) rjk (fun L' => (hS L').2) ?_⟩
      rw [sz]
      intro x y hxy
      rw [put_comm (Ne.symm hde), Array.setIfInBounds_comm _ _ (Ne.symm hij)]
      exact h x _ y (by omega) (by omega) (by omega) (by omega) (by omega) (by omega)
    · obtain rfl : m = k := by simpa using hm
      refine alloc_op hq l1 l2 l3 ⟨(hS _).1, till_alloc2 ho h1 h2 h3 hp k1 k2 k3 hij hde rk (by rw [Array.setIfInBounds_comm _ _ (Ne.symm hik)]; exact rik) (by rw [Array.setIfInBounds_comm _ _ (Ne.symm hjk)]; exact rjk) (fun L' => (hS L').2) ?_⟩
      rw [sz]
      intro x y hxy
      rw [put_comm (Ne.symm hdg), put_comm (Ne.symm heg), Array.setIfInBounds_comm _ _ (Ne.symm hik), Array.setIfInBounds_comm _ _ (Ne.symm hjk)]
      exact h x y _ (by omega) (by omega) (by omega) (by omega) (by omega) (by omega)
end
theorem three_zb (w : World) : Below w.heap.size w (((w.alloc zb).alloc zb).alloc zb) ∧ (((w.alloc zb).alloc zb).alloc zb).heap.size = w.heap.size + 3 ∧ ∀ x, w.heap.size ≤ x → x < w.heap.size + 3 → (((w.alloc zb).alloc zb).alloc zb).heap[x]? = some zb := by
  have e1 : (w.alloc zb).heap.size = w.heap.size + 1 := by simp
  have e2 : ((w.alloc zb).alloc zb).heap.size = w.heap.size + 2 := by simp
  refine ⟨(alloc2 w zb zb).alloc (by rw [e2]; omega) zb, by simp, fun x h1 h2 => ?_⟩
  have hx : x = w.heap.size ∨ x = w.heap.size + 1 ∨ x = w.heap.size + 2 := by omega
  rcases hx with rfl | rfl | rfl
  · rw [Below.heap_alloc _ _ _ (by omega), Below.heap_alloc _ _ _ (by omega), heap_alloc_new]
  · rw [Below.heap_alloc _ _ _ (by omega), ← e1, heap_alloc_new]
  · rw [← e2, heap_alloc_new]
end Go.Proofs.YtdfnjcjpblkmcaaDoor
