/- Orders of a region where several operations may come up; appends of one element, and where the row lies then. -/
import Derived.Test.YtdfnjcjpblkmcaaDoorAj
namespace Go.Proofs.YtdfnjcjpblkmcaaDoor
open Go.ChangeShapes Go.WideShapes Go.ChangeAt Go.RowKit
set_option maxRecDepth 20000
set_option linter.unusedVariables false
set_option linter.unusedSimpArgs false
section
variable {P : Program} {ops : Array Oper} {Q : Exit → Act → World → Prop} {md : Region.Mode} {S : Array Bool → World → Prop}
/- what is to be shown of an operation that comes up -/
def TillOp (P : Program) (md : Region.Mode) (ops : Array Oper) (Q : Exit → Act → World → Prop) (S : Array Bool → World → Prop) (f : Nat) (L : Array Bool) (a : Act) (w : World) (i : Nat) : Prop :=
  ∃ o, ops[i]? = some o ∧ ∀ K' : Act → World → Prop, Shut (∀ a w, S (L.setIfInBounds i true) w → (S (L.setIfInBounds i true) w → wpTill P md ops Q S f (L.setIfInBounds i true) a w) → K' a w) → if Region.wanted o (yielded ops a.tmps) = true then Oper.wp P o a w K' Q else K' (a.put o.dst undef) w
theorem till_some {is : List Nat} {f : Nat} {L : Array Bool} {a : Act} {w : World} (hr : Region.ready md ops L = is) (hne : is ≠ []) (h : ∀ i ∈ is, TillOp P md ops Q S f L a w i) : wpTill P md ops Q S (f + 1) L a w := by
  refine ⟨fun h0 => (by rw [hr] at h0; exact absurd h0 hne), fun j hj => ?_⟩
  rw [hr] at hj
  obtain ⟨o, ho, hK⟩ := h j hj
  exact wpOp_step ho (fun K' hK' => hK K' (fun a w hS hW => hK' a w ⟨hS, hW hS⟩))
theorem till_two {i j : Nat} {f : Nat} {L : Array Bool} {a : Act} {w : World} (hr : Region.ready md ops L = [i, j]) (h1 : TillOp P md ops Q S f L a w i) (h2 : TillOp P md ops Q S f L a w j) : wpTill P md ops Q S (f + 1) L a w :=
  till_some hr (by simp) (fun k hk => by
    rcases List.mem_cons.1 hk with rfl | hk
    · exact h1
    · obtain rfl : k = j := by simpa using hk
      exact h2)
theorem till_three {i j l : Nat} {f : Nat} {L : Array Bool} {a : Act} {w : World} (hr : Region.ready md ops L = [i, j, l]) (h1 : TillOp P md ops Q S f L a w i) (h2 : TillOp P md ops Q S f L a w j) (h3 : TillOp P md ops Q S f L a w l) : wpTill P md ops Q S (f + 1) L a w :=
  till_some hr (by simp) (fun k hk => by
    rcases List.mem_cons.1 hk with rfl | hk
    · exact h1
    · rcases List.mem_cons.1 hk with rfl | hk
      · exact h2
      · obtain rfl : k = l := by simpa using hk
        exact h3)
end
/- a condition that lapses once operation z has come up -/
def tillP (z : Nat) (C : World → Prop) (L : Array Bool) (W : World) : Prop := L.getD z false = true ∨ C W
theorem tillP_set {z i : Nat} {C : World → Prop} (h : i ≠ z) {L : Array Bool} {W : World} : tillP z C (L.setIfInBounds i true) W ↔ tillP z C L W := by
  unfold tillP
  rw [getD_set_ne false h]
theorem tillP_out {z : Nat} {C : World → Prop} {L : Array Bool} {W : World} (hL : L.getD z true = false) (h : tillP z C L W) : C W := h.resolve_left (by rw [offD hL]; decide)
/- an append whose run is known, at an operation -/
theorem wp_app {o : Oper} {a : Act} {w w' : World} {K : Act → World → Prop} {Q : Exit → Act → World → Prop} {v v1 v2 : Value} {t : TypeId} (s x : Operand) (ho : o.op = .call { callee := .builtin .append, args := #[s, x], argTypes := #[t, t] }) (hty : o.type = t) (hs : a.eval s = v1) (hx : a.eval x = v2) (hrun : Hid ((Builtin.append_ #[t, t] t #[v1, v2]).run Tryd.prog w = .ok v w')) (h : K (a.put o.dst v) w') : Oper.wp Tryd.prog o a w K Q := by
  have hr := hrun.out
  unfold Oper.wp
  simp [execOp, ho, resolve, invoke, builtin, hs, hx, hty, hr, Result.andThen]
  exact h
/- one element that lies in a block of its own, appended onto a row of the call's own: where the row lies then -/
theorem app_one {t e : TypeId} {z by' : Nat} {zv : Value} (ht : Tryd.prog.underlying t = some (.slice e)) (hinf : (Tryd.prog.info? e).map (fun i => (i.zero, i.size, i.bytes)) = some (some zv, z, by')) (hzs : zv.cells.size = z) (hz0 : 0 < z) {W : World} {B : Nat} {a : Option Addr} {n c : Nat} {xs : List Value} (own : W.ownsRow B e z (.slice a n c) n xs) {p : Nat} {cs : List Value} {fr : Nat × Nat} (hp : W.heap[p]? = some (.cells cs.toArray e fr)) (hl : cs.length = z) (h1 : ∀ u ∈ cs, u.oneCell' = true) (hb : (n + 1) * by' ≤ 140737488355328) (hn : n + 1 ≤ maxLen) (hB : B ≤ W.heap.size) :
    ∃ a' c' W', (Builtin.append_ #[t, t] t #[.slice a n c, .slice (some ⟨p, 0, none⟩) 1 1]).run Tryd.prog W = .ok (.slice a' (n + 1) c') W' ∧ W'.ownsRow B e z (.slice a' (n + 1) c') (n + 1) (xs ++ cs) ∧ W.grownBy W' (blkOf a) ∧ (∀ q, blkOf a' = some q → blkOf a = some q ∨ W.heap.size ≤ q) := by
  obtain ⟨i, hi, hz, hs1, hs2⟩ := info_parts hinf
  have hc : ∀ j u, cs[j]? = some u → W.cell? ((⟨p, 0, none⟩ : Addr).add j) = some u := fun j u hu => by
    rw [Addr.add_mid, Nat.zero_add]
    simp [World.cell?, hp, hu]
  obtain ⟨v', W', hrun, hown, hgr, _⟩ := run_append_own (P := Tryd.prog) W B t t e i zv z by' ht hi hz hs1 hs2 hzs hz0 (.slice a n c) n xs own ⟨p, 0, none⟩ 1 1 cs (by omega) hc h1 hn hb hB
  rw [ownBlock_slice] at hgr
  obtain ⟨a', c', rfl⟩ := rown_slice hown
  refine ⟨a', c', W', hrun, hown, hgr, ?_⟩
  subst hs2
  have hml : n + 1 ≤ 9223372036854775807 := by simp only [maxLen] at hn; omega
  rcases own.2 with ⟨h2, h0⟩ | ⟨g, cap, cur, h2, h3, h4, h5, h6⟩
  · simp at h2
    obtain ⟨rfl, rfl, rfl⟩ := h2
    have hr2 := run_append_nil (P := Tryd.prog) W t t e i zv ht hi hz ⟨p, 0, none⟩ 1 1 cs (by rw [hs1]; omega) hc (by omega) (by omega) (by omega)
    rw [hrun] at hr2
    simp only [Result.ok.injEq, Value.slice.injEq] at hr2
    rw [hr2.1.1]
    intro q hq
    simp [blkOf] at hq
    exact .inr (by omega)
  · simp only [Value.slice.injEq, true_and] at h2
    obtain ⟨rfl, rfl⟩ := h2
    by_cases hroom : n + 1 ≤ c
    · obtain ⟨w2, hr2, _, _⟩ := run_append_fits (P := Tryd.prog) W B t t e i z ht hi hs1 g n c xs own ⟨p, 0, none⟩ 1 1 cs (by omega) hc h1 hroom
      rw [hrun] at hr2
      simp only [Result.ok.injEq, Value.slice.injEq] at hr2
      rw [hr2.1.1]
      exact fun q hq => .inl hq
    · have hr2 := run_append_grow (P := Tryd.prog) W t t e i zv ht hi hz ⟨g, 0, none⟩ n c xs (by rw [hs1]; exact own.1) (fun j u hu => own.cells (g := g) rfl j u hu) ⟨p, 0, none⟩ 1 1 cs (by rw [hs1]; omega) hc (by omega) (by omega) (growslice_fits (by omega) (by omega))
      rw [hrun] at hr2
      simp only [Result.ok.injEq, Value.slice.injEq] at hr2
      rw [hr2.1.1]
      intro q hq
      simp [blkOf] at hq
      exact .inr (by omega)
theorem info34 : (Tryd.prog.info? 34).map (fun i => (i.zero, i.size, i.bytes)) = some (some (.agg #[.int .i64 0, .int .i64 0]), 2, 16) := by kernel_rfl
theorem info35 : (Tryd.prog.info? 35).map (fun i => (i.zero, i.size, i.bytes)) = some (some (.slice none 0 0), 1, 24) := by kernel_rfl
theorem info25 : (Tryd.prog.info? 25).map (fun i => (i.zero, i.size, i.bytes)) = some (some (.pointer none), 1, 8) := by kernel_rfl
end Go.Proofs.YtdfnjcjpblkmcaaDoor
