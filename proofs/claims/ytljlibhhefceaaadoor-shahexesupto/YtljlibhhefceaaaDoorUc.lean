/- What the document's Hex does, for all slices. -/
import Derived.Test.YtljlibhhefceaaaDoorSk
import Derived.Test.YtljlibhhefceaaaDoorRc
namespace Go.Proofs.YtljlibhhefceaaaDoor
open Go.ChangeShapes Go.WideShapes Go.ChangeAt Go.RowKit
set_option linter.unusedVariables false
set_option linter.unusedSimpArgs false
set_option linter.unnecessarySimpa false
theorem yields_idx2 {ops : Array Oper} {o : Oper} {a : Act} {x t u : Nat} (hw : Region.wanted o (yielded ops a.tmps) = true) (ho : o.op = .index 9 (.tmp u) (.tmp t)) (hs : a.eval (.tmp u) = .string { data := #[48, 49, 50, 51, 52, 53, 54, 55, 56, 57, 97, 98, 99, 100, 101, 102] }) (hx : a.eval (.tmp t) = .int .u8 (x : Int)) (h : x < 16) :
    Yields Tryd.prog ops o (.int .u8 ((hexd x : Nat) : Int)) a := by
  refine .inl ⟨hw, fun w => ?_⟩
  unfold execOp
  simp only [ho, hx, hs, Sem.run_bind, idx16 x h w]
  rfl
def Rx (w wr : World) (g cap k : Nat) (l : List Nat) : Prop := wr.ownsRow w.heap.size 5 1 (.slice (some ⟨g, 0, none⟩) (2 * k) cap) (2 * k) ((hexL (l.take k)).map bv) ∧ Below w.heap.size w wr
theorem app_twoR {w wr : World} {g cap n k : Nat} {l : List Nat} (h : Rx w wr g cap k l) (hk : k < n) (hn : n = l.length) (hb : l.getD k 0 < 256) (x y : Nat) (hx : x = hexd (l.getD k 0 / 16)) (hy : y = hexd (l.getD k 0 % 16)) (hm : 2 * n ≤ 140737488351232) :
    ∃ g' cap' w', (Builtin.append_ #[22, 22] 22 #[.slice (some ⟨g, 0, none⟩) (2 * k) cap, .slice (some ⟨wr.heap.size, 0, none⟩) 2 2]).run Tryd.prog (wr.alloc (.cells #[.int .u8 (x : Int), .int .u8 (y : Int)] 5)) = .ok (.slice (some ⟨g', 0, none⟩) (2 * (k + 1)) cap') w' ∧ Rx w w' g' cap' (k + 1) l := by
  have b1 : Blk (wr.alloc (.cells #[.int .u8 (x : Int), .int .u8 (y : Int)] 5)) wr.heap.size [x, y] := by
    show (wr.heap.push _)[wr.heap.size]? = _
    simp [bv]
  have hx2 : x < 256 := by rw [hx]; exact hexd_lt (by omega)
  have hy2 : y < 256 := by rw [hy]; exact hexd_lt (by omega)
  have s1 := b1.sln (by intro z hz; simp at hz; omega) (by simp)
  have ll : (hexL (l.take k)).length = 2 * k := by rw [hexL_length]; simp; omega
  have hbel := h.2.alloc h.2.size (.cells #[.int .u8 (x : Int), .int .u8 (y : Int)] 5)
  have own := World.ownsRow.alloc h.1 (.cells #[.int .u8 (x : Int), .int .u8 (y : Int)] 5)
  rw [← ll] at own
  obtain ⟨i, hi, hz0, hz1, hz2⟩ := info_parts info5
  obtain ⟨v', w', hrun, hown, hgr, hnil⟩ := run_append_own (P := Tryd.prog) (w := wr.alloc (.cells #[.int .u8 (x : Int), .int .u8 (y : Int)] 5)) w.heap.size 22 22 5 i (.int .u8 0) 1 1 Tryd.underlying22 hi hz0 hz1 hz2 rfl (by decide) _ (hexL (l.take k)).length ((hexL (l.take k)).map bv) own ⟨wr.heap.size, 0, none⟩ 2 2 ([x, y].map bv) rfl (fun j u hu => by
      have hj : j < 2 := by
        have := (List.getElem?_eq_some_iff.1 hu).1
        simpa using this
      have hc := b1.cell (i := j) (by simpa using hj)
      rw [show (⟨wr.heap.size, 0, none⟩ : Addr).add j = ⟨wr.heap.size, j, none⟩ from by unfold Addr.add; split <;> simp_all]
      match j, hj with
      | 0, _ => simp [bv] at hu; subst hu; simpa using hc
      | 1, _ => simp [bv] at hu; subst hu; simpa using hc) (map_one _) (by unfold maxLen; rw [ll]; omega) (by rw [ll]; omega) hbel.size
  rcases hown.2 with ⟨h0, _⟩ | ⟨g', cap', cur, rfl, _⟩
  · have := hnil.1 h0
    simp at this
  · rw [ll] at hrun hown
    have e3 : 2 * k + 2 = 2 * (k + 1) := by omega
    rw [e3] at hrun hown
    refine ⟨g', cap', w', hrun, ?_, ?_⟩
    · have e4 : (hexL (l.take (k + 1))) = hexL (l.take k) ++ [x, y] := by
        rw [take_succ_getD (by omega), hexL_app, hx, hy]
        rfl
      rw [e4, List.map_append]
      exact hown
    · exact hbel.grown hgr hbel.size (fun j e => by simp [Value.ownBlock] at e; have := own_lt h.1; omega)
set_option maxRecDepth 20000 in
set_option maxHeartbeats 1000000 in
theorem refhex_n {w : World} {a : Option Addr} {n k : Nat} {l : List Nat} (hS : Hid (Sln w a n l)) (m : 2 * n ≤ 140737488351232) :
    Calls Tryd.prog 19 #[.slice a n k] w fun e w' => ∃ t, e = .returned (.string t) ∧ Hid (t = spell (hexL l) ∧ Below w.heap.size w w') := by
  have H0 : Hid (Rx w (w.alloc (.cells #[] 5)) w.heap.size 0 0 l) := ⟨World.ownsRow_made w _ 0 (Nat.le_refl _) (by unfold maxLen; omega) rfl, (Below.refl _ _).alloc (Nat.le_refl _) _⟩
  have M : Hid (2 * n ≤ 140737488351232) := m
  go_enter Tryd.func19, Tryd.ntmps19
  go_wp2
  go_loopw [10, 4] (fun ti tv wr => ∃ j g cap : Nat, j ≤ n ∧ ti = .int .i64 j ∧ tv = .slice (some ⟨g, 0, none⟩) (2 * j) cap ∧ Hid (Rx w wr g cap j l)) (fun ti _ _ => n - (intOf ti).toNat)
  case atStart => exact ⟨0, w.heap.size, 0, by omega, rfl, rfl, H0.out⟩
  case round =>
    obtain ⟨j, g, cap, hj, rfl, rfl, HX⟩ := hrel
    clear H0
    by_cases hlt : j < n
    · obtain ⟨b, off, ha, c1⟩ := row_at (hS.out.below HX.out.2) hlt
      subst ha
      obtain ⟨c, HC⟩ : ∃ c, Hid (l.getD j 0 = c) := ⟨_, rfl⟩
      have hc : c < 256 := by rw [← HC.out]; exact getD_lt hS.out.lt j
      rw [HC.out] at c1
      obtain ⟨x, X⟩ : ∃ x, Hid (hexd (c / 16) = x) := ⟨_, rfl⟩
      obtain ⟨y, Y⟩ : ∃ y, Hid (hexd (c % 16) = y) := ⟨_, rfl⟩
      obtain ⟨g2, cap2, w2, AP0, HX2⟩ := app_twoR (wr := wr.drew) ⟨HX.out.1.drew, HX.out.2.drew⟩ hlt hS.out.len (by rw [HC.out]; exact hc) x y (by rw [HC.out, X.out]) (by rw [HC.out, Y.out]) M.out
      obtain ⟨c1', C1'⟩ : ∃ z, z = c / 16 := ⟨_, rfl⟩
      obtain ⟨c2', C2'⟩ : ∃ z, z = c % 16 := ⟨_, rfl⟩
      have sh : (c : Int) / 16 = (c1' : Int) := by omega
      have sm : (c : Int) % 16 = (c2' : Int) := by omega
      have td : Int.tdiv (c : Int) 16 = (c1' : Int) := by rw [Int.tdiv_eq_ediv_of_nonneg (by omega)]; exact sh
      have tm : Int.tmod (c : Int) 16 = (c2' : Int) := by rw [Int.tmod_eq_emod_of_nonneg (by omega)]; exact sm
      have wr1 : IntKind.u8.wrap (c1' : Int) = (c1' : Int) := by rw [IntKind.wrap_u8]; omega
      have wr2 : IntKind.u8.wrap (c2' : Int) = (c2' : Int) := by rw [IntKind.wrap_u8]; omega
      have X' : Hid (hexd c1' = x) := by rw [C1']; exact X.out
      have Y' : Hid (hexd c2' = y) := by rw [C2']; exact Y.out
      have l1 : c1' < 16 := by omega
      have l2 : c2' < 16 := by omega
      have H2 : Hid (Rx w w2 g2 cap2 (j + 1) l) := HX2
      have i1 : (0 : Int) ≤ (j : Int) := by omega
      have i2 : (j : Int) < (n : Int) := by omega
      clear C1' C2' HX2
      go_wp2
      refine wp_region_any (by kernel_rfl) ?_
      clear c1 i1 i2
      refine wpAny_take (i := 0) (v := .slice (some ⟨g, 0, none⟩) (2 * j) cap) rfl (by kernel_rfl) (by kernel_rfl) (by kernel_rfl) (fun _ _ _ h => h) (Or.inl ⟨by rfl, fun w => by go_simp⟩) ?_
      simp only [List.getElem_toArray, List.getElem_cons_zero, List.getElem_cons_succ, Act.put, List.setIfInBounds_toArray, List.set_cons_zero, List.set_cons_succ]
      refine wpAny_take (i := 1) (v := .string { data := #[48, 49, 50, 51, 52, 53, 54, 55, 56, 57, 97, 98, 99, 100, 101, 102] }) rfl (by kernel_rfl) (by kernel_rfl) (by kernel_rfl) (fun _ _ _ h => h) (Or.inl ⟨by rfl, fun w => by go_simp⟩) ?_
      simp only [List.getElem_toArray, List.getElem_cons_zero, List.getElem_cons_succ, Act.put, List.setIfInBounds_toArray, List.set_cons_zero, List.set_cons_succ]
      refine wpAny_take (i := 2) (v := .int .u8 (c : Int)) rfl (by kernel_rfl) (by kernel_rfl) (by kernel_rfl) (fun _ _ _ h => h) (Or.inl ⟨by rfl, fun w => by go_simp⟩) ?_
      simp only [List.getElem_toArray, List.getElem_cons_zero, List.getElem_cons_succ, Act.put, List.setIfInBounds_toArray, List.set_cons_zero, List.set_cons_succ]
      refine wpAny_take (i := 3) (v := .int .u8 (c1' : Int)) rfl (by kernel_rfl) (by kernel_rfl) (by kernel_rfl) (fun _ _ _ h => h) (Or.inl ⟨by rfl, fun w => by go_simp⟩) ?_
      simp only [List.getElem_toArray, List.getElem_cons_zero, List.getElem_cons_succ, Act.put, List.setIfInBounds_toArray, List.set_cons_zero, List.set_cons_succ]
      refine wpAny_take (i := 4) (v := (.int .u8 ((hexd c1' : Nat) : Int))) rfl (by kernel_rfl) (by kernel_rfl) (by kernel_rfl) (fun _ _ _ h => h) (yields_idx2 (by rfl) (by rfl) (by rfl) (by rfl) l1) ?_
      simp only [List.getElem_toArray, List.getElem_cons_zero, List.getElem_cons_succ, Act.put, List.setIfInBounds_toArray, List.set_cons_zero, List.set_cons_succ]
      refine wpAny_take (i := 5) (v := .string { data := #[48, 49, 50, 51, 52, 53, 54, 55, 56, 57, 97, 98, 99, 100, 101, 102] }) rfl (by kernel_rfl) (by kernel_rfl) (by kernel_rfl) (fun _ _ _ h => h) (Or.inl ⟨by rfl, fun w => by go_simp⟩) ?_
      simp only [List.getElem_toArray, List.getElem_cons_zero, List.getElem_cons_succ, Act.put, List.setIfInBounds_toArray, List.set_cons_zero, List.set_cons_succ]
      refine wpAny_take (i := 6) (v := .int .u8 (c : Int)) rfl (by kernel_rfl) (by kernel_rfl) (by kernel_rfl) (fun _ _ _ h => h) (Or.inl ⟨by rfl, fun w => by go_simp⟩) ?_
      simp only [List.getElem_toArray, List.getElem_cons_zero, List.getElem_cons_succ, Act.put, List.setIfInBounds_toArray, List.set_cons_zero, List.set_cons_succ]
      refine wpAny_take (i := 7) (v := (.int .u8 (c2' : Int))) rfl (by kernel_rfl) (by kernel_rfl) (by kernel_rfl) (fun _ _ _ h => h) (Or.inl ⟨by rfl, fun w => by go_simp⟩) ?_
      simp only [List.getElem_toArray, List.getElem_cons_zero, List.getElem_cons_succ, Act.put, List.setIfInBounds_toArray, List.set_cons_zero, List.set_cons_succ]
      refine wpAny_take (i := 8) (v := (.int .u8 ((hexd c2' : Nat) : Int))) rfl (by kernel_rfl) (by kernel_rfl) (by kernel_rfl) (fun _ _ _ h => h) (yields_idx2 (by rfl) (by rfl) (by rfl) (by rfl) l2) ?_
      simp only [List.getElem_toArray, List.getElem_cons_zero, List.getElem_cons_succ, Act.put, List.setIfInBounds_toArray, List.set_cons_zero, List.set_cons_succ]
      refine wpAny_seq' (k := 9) (by kernel_rfl) (by kernel_rfl) ?_
      simp only [List.drop_succ_cons, List.drop_zero]
      rw [X'.out, Y'.out]
      generalize hw4 : ({ heap := wr.heap, tape := wr.tape, drawn := wr.drawn + 1, os := wr.os, output := wr.output } : World) = w4
      have hw5 : wr.drew = w4 := hw4
      rw [hw5] at AP0
      have AP : Hid ((Builtin.append_ #[22, 22] 22 #[.slice (some ⟨g, 0, none⟩) (2 * j) cap, .slice (some ⟨w4.heap.size, 0, none⟩) 2 2]).run Tryd.prog (w4.alloc (.cells #[.int .u8 (x : Int), .int .u8 (y : Int)] 5)) = .ok (.slice (some ⟨g2, 0, none⟩) (2 * (j + 1)) cap2) w2) := AP0
      clear AP0 hw4 hw5 sh sm td tm
      go_wp2_with (at_builtin; refine wpList_app (by rfl) (.tmp 14) (.tmp 23) (by rfl) (by rfl) (by rfl) (by rfl) AP ?_)
      go_roundw
      case rel => exact ⟨j + 1, g2, cap2, by omega, by go_num, rfl, H2.out⟩
      case measure => simp [intOf]; omega
    · have e : j = n := by omega
      subst e
      have ht : l.take j = l := List.take_of_length_le (by rw [← hS.out.len]; omega)
      have own := HX.out.1
      rw [ht] at own
      have SL : Hid (Sln wr (some ⟨g, 0, none⟩) (2 * j) (hexL l)) := own_sln own (hexL_lt hS.out.lt) (by rw [hexL_length, ← hS.out.len]; have := M.out; omega)
      have cv := conv_n (k := cap) SL
      have i2 : ¬ ((j : Int) < (j : Int)) := by omega
      clear own
      go_wp2
      go_ret
      exact ⟨_, rfl, rfl, HX.out.2⟩
end Go.Proofs.YtljlibhhefceaaaDoor
