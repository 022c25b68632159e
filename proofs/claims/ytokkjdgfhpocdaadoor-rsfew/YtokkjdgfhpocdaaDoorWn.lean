/- What the laws' own Bytes does, for all slices: it returns a copy in new memory with six marked places behind it. -/
import Derived.Test.YtokkjdgfhpocdaaDoorWm
namespace Go.Proofs.YtokkjdgfhpocdaaDoor
open Go.ChangeShapes Go.WideShapes Go.ChangeAt Go.RowKit
set_option linter.unusedVariables false
set_option linter.unusedSimpArgs false
def marks : List Nat := [201, 202, 203, 204, 205, 206]
theorem make_room (n : Nat) (h : n + 6 ≤ 281474976710656) (w : World) : (Instr.makeSlice 33 (.int .i64 0) (.int .i64 ((n : Int) + 6))).run Tryd.prog w = .ok (.slice (some ⟨w.heap.size, 0, none⟩) 0 (n + 6)) (w.alloc (.cells (madeCells #[.int .u8 0] (n + 6)) 5)) := by
  obtain ⟨i, hi, hz0, hz1, hz2⟩ := info_parts info5
  have hr := run_make (P := Tryd.prog) w 33 5 i (.int .u8 0) Tryd.underlying33 hi hz0 .i64 .i64 0 ((n : Int) + 6) (by omega) (by omega) (by rw [hz2]; omega) (by omega)
  rw [hz1] at hr
  have e : ((n : Int) + 6).toNat = n + 6 := by omega
  rw [e] at hr
  simpa [Value.cells] using hr
theorem map_cells {w : World} {b off : Nat} {l : List Nat} (r : Row w b off l) : ∀ j u, (l.map bv)[j]? = some u → w.cell? ((⟨b, off, none⟩ : Addr).add j) = some u := by
  intro j v hv
  simp at hv
  obtain ⟨x, hx, rfl⟩ := hv
  obtain ⟨hj, _⟩ := List.getElem?_eq_some_iff.1 hx
  have h4 := r j hj
  have h5 : l.getD j 0 = x := by simp [hx]
  rw [h5] at h4
  rw [show (⟨b, off, none⟩ : Addr).add j = ⟨b, off + j, none⟩ from by simp [Addr.add]]
  exact h4
theorem map_one (l : List Nat) : ∀ u ∈ l.map bv, u.oneCell' = true := by
  intro v hv
  obtain ⟨x, _, rfl⟩ := List.mem_map.1 hv
  rfl
/- a slice's content appended onto a row of the call's own, where there is room -/
theorem app_fits {w : World} {base g k cap : Nat} {xs : List Value} {a : Option Addr} {n c : Nat} {l : List Nat} (hown : w.ownsRow base 5 1 (.slice (some ⟨g, 0, none⟩) k cap) k xs) (h : Sln w a n l) (hc : a = none → c = 0) (hroom : k + n ≤ cap) :
    ∃ w', (Builtin.append_ #[33, 33] 33 #[.slice (some ⟨g, 0, none⟩) k cap, .slice a n c]).run Tryd.prog w = .ok (.slice (some ⟨g, 0, none⟩) (k + n) cap) w' ∧ w'.ownsRow base 5 1 (.slice (some ⟨g, 0, none⟩) (k + n) cap) (k + n) (xs ++ l.map bv) ∧ w.grownBy w' (some g) := by
  obtain ⟨i, hi, hz0, hz1, hz2⟩ := info_parts info5
  have e := h.len
  by_cases hl : l = []
  · subst hl
    have e0 : n = 0 := e
    subst e0
    cases a with
    | none =>
      have c0 := hc rfl
      subst c0
      exact ⟨w, run_append_owned_none (P := Tryd.prog) w base 33 33 5 i 1 Tryd.underlying33 hi _ k xs hown, by simpa using hown, World.grownBy.refl _ _⟩
    | some ad => exact run_append_fits (P := Tryd.prog) w base 33 33 5 i 1 Tryd.underlying33 hi hz1 g k cap xs hown ad 0 c [] rfl (by simp) (by simp) hroom
  · obtain ⟨b, off, rfl, _, r⟩ := h.sli.2.2.resolve_left hl
    exact run_append_fits (P := Tryd.prog) w base 33 33 5 i 1 Tryd.underlying33 hi hz1 g k cap xs hown ⟨b, off, none⟩ n c (l.map bv) (by simp [e]) (map_cells r) (map_one l) hroom
theorem own_full {w : World} {base g n : Nat} {l : List Nat} (h : w.ownsRow base 5 1 (.slice (some ⟨g, 0, none⟩) n n) n (l.map bv)) : Blk w g l := by
  rcases h.2 with ⟨h1, _⟩ | ⟨g', cap, cur, h1, _, hg, _, _, hs, ht⟩
  · simp at h1
  · simp only [Value.slice.injEq, Option.some.injEq, Addr.mk.injEq, and_true, true_and] at h1
    obtain ⟨rfl, rfl⟩ := h1
    have e : cur = (l.map bv).toArray := by
      have h2 : cur.toList.take (n * 1) = cur.toList := by rw [List.take_of_length_le (by simp [hs])]
      rw [h2] at ht
      rw [← ht]
    rw [e] at hg
    exact hg
/- an append whose run is known, at a list of operations -/
theorem wpList_app {ops : Array Oper} {rest : List Oper} {o : Oper} {a : Act} {Q : Exit → Act → World → Prop} {w w' : World} {v v1 v2 : Value} (hgd : o.guard = none) (s x : Operand)
    (ho : o.op = .call { callee := .builtin .append, args := #[s, x], argTypes := #[33, 33] }) (hty : o.type = 33) (hs : a.eval s = v1) (hx : a.eval x = v2) (hrun : Hid ((Builtin.append_ #[33, 33] 33 #[v1, v2]).run Tryd.prog w = .ok v w'))
    (h : wpList Tryd.prog ops Q rest (a.put o.dst v) w') : wpList Tryd.prog ops Q (o :: rest) a w := by
  refine wpList_plain hgd fun K hK => ?_
  have hr := hrun.out
  unfold Oper.wp
  simp [execOp, ho, resolve, invoke, builtin, hs, hx, hty, hr, Result.andThen]
  exact hK _ _ h
set_option maxHeartbeats 1000000 in
theorem bytes_n {a : Option Addr} {n k : Nat} {l : List Nat} {w : World} (h : Hid (Sln w a n l)) (hk : Hid (a = none → k = 0)) :
    Calls Tryd.prog 15 #[.slice a n k] w fun e w' => ∃ g N, e = .returned (.slice (some ⟨g, 0, none⟩) n N) ∧ Hid (N = n + 6 ∧ g = w.heap.size ∧ Blk w' g (l ++ marks) ∧ Below w.heap.size w w') := by
  have m := h.out.sli.2.1
  have e := h.out.len
  rw [← e] at m
  have mk := make_room n (by omega)
  have hb0 : Below w.heap.size w (w.alloc (.cells (madeCells #[.int .u8 0] (n + 6)) 5)) := (Below.refl _ _).alloc (Nat.le_refl _) _
  have own0 : (w.alloc (.cells (madeCells #[.int .u8 0] (n + 6)) 5)).ownsRow w.heap.size 5 1 (.slice (some ⟨w.heap.size, 0, none⟩) 0 (n + 6)) 0 [] := World.ownsRow_made w _ (n + 6) (Nat.le_refl _) (by unfold maxLen; omega) (by simp [size_madeCells])
  obtain ⟨w1, ap1, own1, gr1⟩ := app_fits own0 (h.out.below hb0) hk.out (by omega)
  rw [Nat.zero_add] at ap1 own1
  have hb1 : Below w.heap.size w w1 := hb0.grown gr1 (by simp) (fun k e => by simp at e; omega)
  have own1' := own1.alloc (.cells #[.int .u8 201, .int .u8 202, .int .u8 203, .int .u8 204, .int .u8 205, .int .u8 206] 5)
  have hb2 : Below w.heap.size w (w1.alloc (.cells #[.int .u8 201, .int .u8 202, .int .u8 203, .int .u8 204, .int .u8 205, .int .u8 206] 5)) := hb1.alloc hb1.size _
  have bm : Blk (w1.alloc (.cells #[.int .u8 201, .int .u8 202, .int .u8 203, .int .u8 204, .int .u8 205, .int .u8 206] 5)) w1.heap.size marks := by
    show (w1.heap.push _)[w1.heap.size]? = _
    simp [marks, bv]
  have sm := bm.sln (by decide) (by decide)
  obtain ⟨w2, ap2, own2, gr2⟩ := app_fits (c := 6) own1' sm (by simp) (by simp [marks])
  have hb3 : Below w.heap.size w w2 := hb2.grown gr2 hb2.size (fun k e => by simp at e; omega)
  have bf : Blk w2 w.heap.size (l ++ marks) := by
    have h6 : marks.length = 6 := rfl
    rw [h6] at own2
    have e2 : ([] ++ l.map bv ++ marks.map bv) = (l ++ marks).map bv := by simp
    rw [e2] at own2
    exact own_full own2
  have B3 : Hid (Below w.heap.size w w2) := hb3
  have BF : Hid (Blk w2 w.heap.size (l ++ marks)) := bf
  have h6 : marks.length = 6 := rfl
  rw [h6] at ap2
  have AP1 : Hid ((Builtin.append_ #[33, 33] 33 #[.slice (some ⟨w.heap.size, 0, none⟩) 0 (n + 6), .slice a n k]).run Tryd.prog (w.alloc (.cells (madeCells #[.int .u8 0] (n + 6)) 5)) = .ok (.slice (some ⟨w.heap.size, 0, none⟩) n (n + 6)) w1) := ap1
  have AP2 : Hid ((Builtin.append_ #[33, 33] 33 #[.slice (some ⟨w.heap.size, 0, none⟩) n (n + 6), .slice (some ⟨w1.heap.size, 0, none⟩) 6 6]).run Tryd.prog (w1.alloc (.cells #[.int .u8 201, .int .u8 202, .int .u8 203, .int .u8 204, .int .u8 205, .int .u8 206] 5)) = .ok (.slice (some ⟨w.heap.size, 0, none⟩) (n + 6) (n + 6)) w2) := ap2
  clear bf hb3 gr2 own2 sm bm hb2 own1' hb1 own1 gr1 own0 hb0 e h6 ap1 ap2
  go_enter Tryd.func15, Tryd.ntmps15
  go_wp2_with (first | (at_builtin; refine wpList_app (by rfl) (.tmp 7) (.tmp 8) (by rfl) (by rfl) (by rfl) (by rfl) AP1 ?_) | (at_builtin; refine wpList_app (by rfl) (.tmp 9) (.tmp 10) (by rfl) (by rfl) (by rfl) (by rfl) AP2 ?_))
  go_ret
  exact ⟨_, n + 6, rfl, rfl, rfl, BF.out, B3.out⟩
end Go.Proofs.YtokkjdgfhpocdaaDoor
