/- What the laws' own Bytes does, for all slices: it returns a copy in new memory with six marked places behind it. -/
import Derived.Test.YtokkjdgfhpocdabDoorWm
namespace Go.Proofs.YtokkjdgfhpocdabDoor
open Go.ChangeShapes Go.WideShapes Go.ChangeAt Go.RowKit
set_option linter.unusedVariables false
set_option linter.unusedSimpArgs false
def marks : List Nat := [201, 202, 203, 204, 205, 206]
theorem map_cells {w : World} {b off : Nat} {l : List Nat} (r : Row w b off l) : ∀ j u, (l.map bv)[j]? = some u → w.cell? ((⟨b, off, none⟩ : Addr).add j) = some u := by
  intro j v hv
  simp at hv
  obtain ⟨x, hx, rfl⟩ := hv
  obtain ⟨hj, _⟩ := List.getElem?_eq_some_iff.1 hx
  have h4 := r j hj
  have h5 : l.getD j 0 = x := by simp [hx]
  rw [h5] at h4
  rw [show (⟨b, off, none⟩ : Addr).add j = ⟨b, off + j, none⟩ from by simp [Addr.add]]
  exact h4
theorem map_one (l : List Nat) : ∀ u ∈ l.map bv, u.oneCell' = true := by
  intro v hv
  obtain ⟨x, _, rfl⟩ := List.mem_map.1 hv
  rfl
/- a slice's content appended onto a row of the call's own, where there is room -/
theorem app_fits {w : World} {base g k cap : Nat} {xs : List Value} {a : Option Addr} {n c : Nat} {l : List Nat} (hown : w.ownsRow base 5 1 (.slice (some ⟨g, 0, none⟩) k cap) k xs) (h : Sln w a n l) (hc : a = none → c = 0) (hroom : k + n ≤ cap) :
    ∃ w', (Builtin.append_ #[22, 22] 22 #[.slice (some ⟨g, 0, none⟩) k cap, .slice a n c]).run Tryd.prog w = .ok (.slice (some ⟨g, 0, none⟩) (k + n) cap) w' ∧ w'.ownsRow base 5 1 (.slice (some ⟨g, 0, none⟩) (k + n) cap) (k + n) (xs ++ l.map bv) ∧ w.grownBy w' (some g) := by
  obtain ⟨i, hi, hz0, hz1, hz2⟩ := info_parts info5
  have e := h.len
  by_cases hl : l = []
  · subst hl
    have e0 : n = 0 := e
    subst e0
    cases a with
    | none =>
      have c0 := hc rfl
      subst c0
      exact ⟨w, run_append_owned_none (P := Tryd.prog) w base 22 22 5 i 1 Tryd.underlying22 hi _ k xs hown, by simpa using hown, World.grownBy.refl _ _⟩
    | some ad => exact run_append_fits (P := Tryd.prog) w base 22 22 5 i 1 Tryd.underlying22 hi hz1 g k cap xs hown ad 0 c [] rfl (by simp) (by simp) hroom
  · obtain ⟨b, off, rfl, _, r⟩ := h.sli.2.2.resolve_left hl
    exact run_append_fits (P := Tryd.prog) w base 22 22 5 i 1 Tryd.underlying22 hi hz1 g k cap xs hown ⟨b, off, none⟩ n c (l.map bv) (by simp [e]) (map_cells r) (map_one l) hroom
theorem own_full {w : World} {base g n : Nat} {l : List Nat} (h : w.ownsRow base 5 1 (.slice (some ⟨g, 0, none⟩) n n) n (l.map bv)) : Blk w g l := by
  rcases h.2 with ⟨h1, _⟩ | ⟨g', cap, cur, h1, _, hg, _, _, hs, ht⟩
  · simp at h1
  · simp only [Value.slice.injEq, Option.some.injEq, Addr.mk.injEq, and_true, true_and] at h1
    obtain ⟨rfl, rfl⟩ := h1
    have e : cur = (l.map bv).toArray := by
      have h2 : cur.toList.take (n * 1) = cur.toList := by rw [List.take_of_length_le (by simp [hs])]
      rw [h2] at ht
      rw [← ht]
    rw [e] at hg
    exact hg
/- an append whose run is known, at a list of operations -/
theorem wpList_app {ops : Array Oper} {rest : List Oper} {o : Oper} {a : Act} {Q : Exit → Act → World → Prop} {w w' : World} {v v1 v2 : Value} (hgd : o.guard = none) (s x : Operand)
    (ho : o.op = .call { callee := .builtin .append, args := #[s, x], argTypes := #[22, 22] }) (hty : o.type = 22) (hs : a.eval s = v1) (hx : a.eval x = v2) (hrun : Hid ((Builtin.append_ #[22, 22] 22 #[v1, v2]).run Tryd.prog w = .ok v w'))
    (h : wpList Tryd.prog ops Q rest (a.put o.dst v) w') : wpList Tryd.prog ops Q (o :: rest) a w := by
  refine wpList_plain hgd fun K hK => ?_
  have hr := hrun.out
  unfold Oper.wp
  simp [execOp, ho, resolve, invoke, builtin, hs, hx, hty, hr, Result.andThen]
  exact hK _ _ h
end Go.Proofs.YtokkjdgfhpocdabDoor
