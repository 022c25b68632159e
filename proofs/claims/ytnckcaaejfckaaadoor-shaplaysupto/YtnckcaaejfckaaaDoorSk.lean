/- What Hex of package sha does to a machine, for all slices. -/
import Derived.Test.YtnckcaaejfckaaaDoorSj
namespace Go.Proofs.YtnckcaaejfckaaaDoor
open Go.ChangeShapes Go.WideShapes Go.ChangeAt Go.RowKit
set_option linter.unusedVariables false
set_option linter.unusedSimpArgs false
def hexd (x : Nat) : Nat := if x < 10 then 48 + x else 87 + x
def hexL : List Nat → List Nat
  | [] => []
  | c :: r => hexd (c / 16) :: hexd (c % 16) :: hexL r
theorem hexL_length (l : List Nat) : (hexL l).length = 2 * l.length := by
  induction l with
  | nil => rfl
  | cons c r ih => simp [hexL, ih]; omega
theorem hexL_app (a b : List Nat) : hexL (a ++ b) = hexL a ++ hexL b := by
  induction a with
  | nil => rfl
  | cons c r ih => simp [hexL, ih]
theorem hexd_lt {x : Nat} (h : x < 16) : hexd x < 256 := by unfold hexd; split <;> omega
theorem hexL_lt {l : List Nat} (h : ∀ x ∈ l, x < 256) : ∀ x ∈ hexL l, x < 256 := by
  induction l with
  | nil => simp [hexL]
  | cons c r ih =>
    intro x hx
    have hc := h c (by simp)
    simp only [hexL, List.mem_cons] at hx
    rcases hx with h1 | h1 | h1
    · rw [h1]; exact hexd_lt (by omega)
    · rw [h1]; exact hexd_lt (by omega)
    · exact ih (fun y hy => h y (by simp [hy])) x h1
theorem idx16 (x : Nat) (hx : x < 16) (w : World) : (Instr.index 9 (.string { data := #[48, 49, 50, 51, 52, 53, 54, 55, 56, 57, 97, 98, 99, 100, 101, 102] }) (.int .u8 (x : Int))).run Tryd.prog w = .ok (.int .u8 ((hexd x : Nat) : Int)) w := by
  rw [run_index_string w _ _ _ _ Tryd.underlying9, dif_pos ⟨by omega, by show (x : Int) < 16; omega⟩]
  match x, hx with
  | 0, _ => rfl
  | 1, _ => rfl
  | 2, _ => rfl
  | 3, _ => rfl
  | 4, _ => rfl
  | 5, _ => rfl
  | 6, _ => rfl
  | 7, _ => rfl
  | 8, _ => rfl
  | 9, _ => rfl
  | 10, _ => rfl
  | 11, _ => rfl
  | 12, _ => rfl
  | 13, _ => rfl
  | 14, _ => rfl
  | 15, _ => rfl
  | n + 16, h => exact absurd h (by omega)
theorem yields_idx {ops : Array Oper} {o : Oper} {a : Act} {x t : Nat} (hw : Region.wanted o (yielded ops a.tmps) = true) (ho : o.op = .index 9 (.const (.string { data := #[48, 49, 50, 51, 52, 53, 54, 55, 56, 57, 97, 98, 99, 100, 101, 102] })) (.tmp t)) (hx : a.eval (.tmp t) = .int .u8 (x : Int)) (h : x < 16) :
    Yields Tryd.prog ops o (.int .u8 ((hexd x : Nat) : Int)) a := by
  refine .inl ⟨hw, fun w => ?_⟩
  have e : a.eval (.const (.string { data := #[48, 49, 50, 51, 52, 53, 54, 55, 56, 57, 97, 98, 99, 100, 101, 102] })) = .string { data := #[48, 49, 50, 51, 52, 53, 54, 55, 56, 57, 97, 98, 99, 100, 101, 102] } := rfl
  unfold execOp
  simp only [ho, hx, e, Sem.run_bind, idx16 x h w]
  rfl
/- the digits gathered so far -/
def Hx (w wr : World) (g n k : Nat) (l : List Nat) : Prop := wr.ownsRow w.heap.size 5 1 (.slice (some ⟨g, 0, none⟩) (2 * k) (2 * n)) (2 * k) ((hexL (l.take k)).map bv) ∧ Below w.heap.size w wr
theorem and15 : ∀ c : Nat, c < 256 → bits BinOp.and IntKind.u8 (c : Int) 15 = ((c % 16 : Nat) : Int) := by
  intro c hc
  have := u8_and_nat c 15 hc (by decide)
  rw [nat_mask4] at this
  exact this
theorem app_two {w wr : World} {g n k : Nat} {l : List Nat} (h : Hx w wr g n k l) (hk : k < n) (hn : n = l.length) (hb : l.getD k 0 < 256) (x y : Nat) (hx : x = hexd (l.getD k 0 / 16)) (hy : y = hexd (l.getD k 0 % 16)) :
    ∃ w', (Builtin.append_ #[22, 22] 22 #[.slice (some ⟨g, 0, none⟩) (2 * k) (2 * n), .slice (some ⟨wr.heap.size, 0, none⟩) 2 2]).run Tryd.prog (wr.alloc (.cells #[.int .u8 (x : Int), .int .u8 (y : Int)] 5)) = .ok (.slice (some ⟨g, 0, none⟩) (2 * (k + 1)) (2 * n)) w' ∧ Hx w w' g n (k + 1) l := by
  have b1 : Blk (wr.alloc (.cells #[.int .u8 (x : Int), .int .u8 (y : Int)] 5)) wr.heap.size [x, y] := by
    show (wr.heap.push _)[wr.heap.size]? = _
    simp [bv]
  have hx2 : x < 256 := by rw [hx]; exact hexd_lt (by omega)
  have hy2 : y < 256 := by rw [hy]; exact hexd_lt (by omega)
  have s1 := b1.sln (by intro z hz; simp at hz; omega) (by simp)
  obtain ⟨w', hrun, hown, hgr⟩ := app_fits (c := 2) (h.1.alloc _) s1 (by simp) (by simp; omega)
  have e2 : [x, y].length = 2 := rfl
  rw [e2] at hrun hown
  have e3 : 2 * k + 2 = 2 * (k + 1) := by omega
  rw [e3] at hrun hown
  refine ⟨w', hrun, ?_, ?_⟩
  · have e4 : (hexL (l.take (k + 1))) = hexL (l.take k) ++ [x, y] := by
      rw [take_succ_getD (by omega), hexL_app, hx, hy]
      rfl
    rw [e4, List.map_append]
    exact hown
  · have hb := h.2.alloc h.2.size (.cells #[.int .u8 (x : Int), .int .u8 (y : Int)] 5)
    exact hb.grown hgr hb.size (fun j e => by simp at e; have := own_lt h.1; omega)
theorem make_hex (n : Nat) (h : 2 * n ≤ 281474976710656) (w : World) : (Instr.makeSlice 22 (.int .i64 0) (.int .i64 (2 * (n : Int)))).run Tryd.prog w = .ok (.slice (some ⟨w.heap.size, 0, none⟩) 0 (2 * n)) (w.alloc (.cells (madeCells #[.int .u8 0] (2 * n)) 5)) := by
  obtain ⟨i, hi, hz0, hz1, hz2⟩ := info_parts info5
  have hr := run_make (P := Tryd.prog) w 22 5 i (.int .u8 0) Tryd.underlying22 hi hz0 .i64 .i64 0 (2 * (n : Int)) (by omega) (by omega) (by rw [hz2]; omega) (by omega)
  rw [hz1] at hr
  have e : (2 * (n : Int)).toNat = 2 * n := by omega
  rw [e] at hr
  simpa [Value.cells] using hr
set_option maxRecDepth 20000 in
set_option maxHeartbeats 1000000 in
theorem hex_n {w : World} {a : Option Addr} {n k : Nat} {l : List Nat} (hS : Hid (Sln w a n l)) (m : 2 * n ≤ 140737488352256) :
    Calls Tryd.prog 14 #[.slice a n k] w fun e w' => ∃ t, e = .returned (.string t) ∧ Hid (t = spell (hexL l) ∧ Below w.heap.size w w') := by
  have mk := make_hex n (by omega) w
  have H0 : Hid (Hx w (w.alloc (.cells (madeCells #[.int .u8 0] (2 * n)) 5)) w.heap.size n 0 l) := ⟨World.ownsRow_made w _ (2 * n) (Nat.le_refl _) (by unfold maxLen; omega) (by simp [size_madeCells]), (Below.refl _ _).alloc (Nat.le_refl _) _⟩
  have M : Hid (2 * n ≤ 140737488352256) := m
  go_enter Tryd.func14, Tryd.ntmps14
  go_wp2
  clear mk
  go_loopw [12, 3] (fun ti tv wr => ∃ j g : Nat, j ≤ n ∧ ti = .int .i64 j ∧ tv = .slice (some ⟨g, 0, none⟩) (2 * j) (2 * n) ∧ Hid (Hx w wr g n j l)) (fun ti _ _ => n - (intOf ti).toNat)
  case atStart => exact ⟨0, w.heap.size, by omega, rfl, rfl, H0.out⟩
  case round =>
    obtain ⟨j, g, hj, rfl, rfl, HX⟩ := hrel
    by_cases hlt : j < n
    · obtain ⟨b, off, ha, c1⟩ := row_at (hS.out.below HX.out.2) hlt
      subst ha
      obtain ⟨c, HC⟩ : ∃ c, Hid (l.getD j 0 = c) := ⟨_, rfl⟩
      have hc : c < 256 := by rw [← HC.out]; exact getD_lt hS.out.lt j
      rw [HC.out] at c1
      obtain ⟨x, X⟩ : ∃ x, Hid (hexd (c / 16) = x) := ⟨_, rfl⟩
      obtain ⟨y, Y⟩ : ∃ y, Hid (hexd (c % 16) = y) := ⟨_, rfl⟩
      obtain ⟨w2, AP0, HX2⟩ := app_two (wr := wr.drew) ⟨HX.out.1.drew, HX.out.2.drew⟩ hlt hS.out.len (by rw [HC.out]; exact hc) x y (by rw [HC.out, X.out]) (by rw [HC.out, Y.out])
      obtain ⟨c1', C1'⟩ : ∃ z, z = c / 16 := ⟨_, rfl⟩
      obtain ⟨c2', C2'⟩ : ∃ z, z = c % 16 := ⟨_, rfl⟩
      have a15 := and15 c hc
      rw [← C2'] at a15
      have sh : (c : Int) / 16 = (c1' : Int) := by omega
      have X' : Hid (hexd c1' = x) := by rw [C1']; exact X.out
      have Y' : Hid (hexd c2' = y) := by rw [C2']; exact Y.out
      have l1 : c1' < 16 := by omega
      have l2 : c2' < 16 := by omega
      have H2 : Hid (Hx w w2 g n (j + 1) l) := HX2
      have i1 : (0 : Int) ≤ (j : Int) := by omega
      have i2 : (j : Int) < (n : Int) := by omega
      clear C1' C2' HX2
      go_wp2
      refine wp_region_any (by kernel_rfl) ?_
      clear c1 i1 i2
      refine wpAny_take (i := 0) (v := .slice (some ⟨g, 0, none⟩) (2 * j) (2 * n)) rfl (by kernel_rfl) (by kernel_rfl) (by kernel_rfl) (fun _ _ _ h => h) (Or.inl ⟨by rfl, fun w => by go_simp⟩) ?_
      simp only [List.getElem_toArray, List.getElem_cons_zero, List.getElem_cons_succ, Act.put, List.setIfInBounds_toArray, List.set_cons_zero, List.set_cons_succ]
      refine wpAny_take (i := 1) (v := .int .u8 (c : Int)) rfl (by kernel_rfl) (by kernel_rfl) (by kernel_rfl) (fun _ _ _ h => h) (Or.inl ⟨by rfl, fun w => by go_simp⟩) ?_
      simp only [List.getElem_toArray, List.getElem_cons_zero, List.getElem_cons_succ, Act.put, List.setIfInBounds_toArray, List.set_cons_zero, List.set_cons_succ]
      refine wpAny_take (i := 2) (v := .int .u8 (c1' : Int)) rfl (by kernel_rfl) (by kernel_rfl) (by kernel_rfl) (fun _ _ _ h => h) (Or.inl ⟨by rfl, fun w => by go_simp⟩) ?_
      simp only [List.getElem_toArray, List.getElem_cons_zero, List.getElem_cons_succ, Act.put, List.setIfInBounds_toArray, List.set_cons_zero, List.set_cons_succ]
      refine wpAny_take (i := 3) (v := .int .u8 ((hexd c1' : Nat) : Int)) rfl (by kernel_rfl) (by kernel_rfl) (by kernel_rfl) (fun _ _ _ h => h) (yields_idx (by rfl) (by rfl) (by rfl) l1) ?_
      simp only [List.getElem_toArray, List.getElem_cons_zero, List.getElem_cons_succ, Act.put, List.setIfInBounds_toArray, List.set_cons_zero, List.set_cons_succ]
      refine wpAny_take (i := 4) (v := .int .u8 (c : Int)) rfl (by kernel_rfl) (by kernel_rfl) (by kernel_rfl) (fun _ _ _ h => h) (Or.inl ⟨by rfl, fun w => by go_simp⟩) ?_
      simp only [List.getElem_toArray, List.getElem_cons_zero, List.getElem_cons_succ, Act.put, List.setIfInBounds_toArray, List.set_cons_zero, List.set_cons_succ]
      refine wpAny_take (i := 5) (v := .int .u8 (c2' : Int)) rfl (by kernel_rfl) (by kernel_rfl) (by kernel_rfl) (fun _ _ _ h => h) (Or.inl ⟨by rfl, fun w => by go_simp⟩) ?_
      simp only [List.getElem_toArray, List.getElem_cons_zero, List.getElem_cons_succ, Act.put, List.setIfInBounds_toArray, List.set_cons_zero, List.set_cons_succ]
      refine wpAny_take (i := 6) (v := .int .u8 ((hexd c2' : Nat) : Int)) rfl (by kernel_rfl) (by kernel_rfl) (by kernel_rfl) (fun _ _ _ h => h) (yields_idx (by rfl) (by rfl) (by rfl) l2) ?_
      simp only [List.getElem_toArray, List.getElem_cons_zero, List.getElem_cons_succ, Act.put, List.setIfInBounds_toArray, List.set_cons_zero, List.set_cons_succ]
      refine wpAny_seq' (k := 7) (by kernel_rfl) (by kernel_rfl) ?_
      simp only [List.drop_succ_cons, List.drop_zero]
      rw [X'.out, Y'.out]
      generalize hw4 : ({ heap := wr.heap, tape := wr.tape, drawn := wr.drawn + 1, os := wr.os, output := wr.output } : World) = w4
      have hw5 : wr.drew = w4 := hw4
      rw [hw5] at AP0
      have AP : Hid ((Builtin.append_ #[22, 22] 22 #[.slice (some ⟨g, 0, none⟩) (2 * j) (2 * n), .slice (some ⟨w4.heap.size, 0, none⟩) 2 2]).run Tryd.prog (w4.alloc (.cells #[.int .u8 (x : Int), .int .u8 (y : Int)] 5)) = .ok (.slice (some ⟨g, 0, none⟩) (2 * (j + 1)) (2 * n)) w2) := AP0
      clear AP0 hw4 hw5 a15 sh
      go_wp2_with (at_builtin; refine wpList_app (by rfl) (.tmp 16) (.tmp 23) (by rfl) (by rfl) (by rfl) (by rfl) AP ?_)
      go_roundw
      case rel => exact ⟨j + 1, g, by omega, by go_num, rfl, H2.out⟩
      case measure => simp [intOf]; omega
    · have e : j = n := by omega
      subst e
      have ht : l.take j = l := List.take_of_length_le (by rw [← hS.out.len]; omega)
      have own := HX.out.1
      rw [ht] at own
      have SL : Hid (Sln wr (some ⟨g, 0, none⟩) (2 * j) (hexL l)) := own_sln own (hexL_lt hS.out.lt) (by rw [hexL_length, ← hS.out.len]; have := M.out; omega)
      have cv := conv_n (k := 2 * j) SL
      have i2 : ¬ ((j : Int) < (j : Int)) := by omega
      clear own
      go_wp2
      go_ret
      exact ⟨_, rfl, rfl, HX.out.2⟩
end Go.Proofs.YtnckcaaejfckaaaDoor
