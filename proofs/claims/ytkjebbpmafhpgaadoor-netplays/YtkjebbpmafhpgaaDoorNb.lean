/- slices.Delete of one letter (f37). -/
import Derived.Test.YtkjebbpmafhpgaaDoorNa
namespace Go.Proofs.YtkjebbpmafhpgaaDoor
open Go.ChangeShapes Go.WideShapes Go.ChangeAt Go.RowKit
set_option maxRecDepth 20000
set_option linter.unusedVariables false
set_option linter.unusedSimpArgs false
theorem wp_app3 {op : Oper} {a : Act} {K : Act → World → Prop} {Q : Exit → Act → World → Prop} {w w' : World} {v v1 v2 : Value} {t : TypeId} (s x : Operand)
    (ho : op.op = .call { callee := .builtin .append, args := #[s, x], argTypes := #[t, t] }) (hty : op.type = t) (hs : a.eval s = v1) (hx : a.eval x = v2) (hrun : Hid ((Builtin.append_ #[t, t] t #[v1, v2]).run Tryd.prog w = .ok v w'))
    (h : K (a.put op.dst v) w') : Oper.wp Tryd.prog op a w K Q := by
  have hr := hrun.out
  unfold Oper.wp
  simp [execOp, ho, resolve, invoke, builtin, hs, hx, hty, hr, Result.andThen]
  exact h
set_option maxHeartbeats 8000000 in
theorem del_L {w : World} {lo b n c p : Nat} {X : List Lt} (hA : Hid (Rw w lo 71 EL (some ⟨b, 0, none⟩) n c X)) (hn : n ≤ 4096) (hp : p < n) :
    Calls Tryd.prog 37 #[.slice (some ⟨b, 0, none⟩) n c, .int .i64 p, .int .i64 ((p : Int) + 1)] w fun e w' => e = .returned (.slice (some ⟨b, 0, none⟩) (n - 1) c) ∧ Hid (Rw w' lo 71 EL (some ⟨b, 0, none⟩) (n - 1) c (X.eraseIdx p) ∧ Ch w w' (fun q => q = b)) := by
  have ncap : n ≤ c := hA.out.cap
  obtain ⟨w1, w2, r1, r2, f1, f2⟩ := del_steps hA.out hp Tryd.underlying56 inf71 rfl (by kernel_rfl)
  have F : Hid (Rw w2 lo 71 EL (some ⟨b, 0, none⟩) (n - 1) c (X.eraseIdx p) ∧ Ch w w2 (fun q => q = b)) := ⟨f1, f2⟩
  clear f1 f2
  have i1 : (p : Int) < (n : Int) := by omega
  have i2 : p + 1 ≤ n := by omega
  have i3 : (0 : Int) ≤ (p : Int) + 1 := by omega
  have i4 : ¬ ((p : Int) = (p : Int) + 1) := by omega
  have i5 : n - 1 ≤ n := by omega
  have i6 : ¬ (c = n - 1) := by omega
  have i7 : p ≤ n := by omega
  have i8 : ¬ ((n : Int) < (p : Int) + 1) := by omega
  have i12 : p ≤ c := by omega
  have i13 : n - 1 ≤ c := by omega
  have i14 : p + 1 ≤ c := by omega
  have i15 : (p : Int) ≤ (c : Int) := by omega
  have i16 : (p : Int) + 1 ≤ (c : Int) := by omega
  have i11 : (p : Int) + 1 ≤ (n : Int) := by omega
  have wq : IntKind.i64.wrap ((p : Int) + 1) = (p : Int) + 1 := by rw [IntKind.wrap_i64]; omega
  go_enter Tryd.func37, Tryd.ntmps37
  by_cases hl : ¬ (c = p + 1)
  · skip
    have HA : Hid ((Builtin.append_ #[56, 56] 56 #[.slice (some ⟨b, 0, none⟩) p c, .slice (some ⟨b, (p + 1) * 4, none⟩) (n - (p + 1)) (c - (p + 1))]).run Tryd.prog w.drew = .ok (.slice (some ⟨b, 0, none⟩) (n - 1) c) w1) := by
      have h9 := r1 ⟨b, (p + 1) * 4, none⟩ (c - (p + 1)) (fun _ => rfl)
      exact h9
    have cl : (Builtin.clear_ #[56] 0 #[.slice (some ⟨b, (n - 1) * 4, none⟩) (n - (n - 1)) (c - (n - 1))]).run Tryd.prog w1 = .ok (.tuple #[]) w2 := by rw [show n - (n - 1) = 1 by omega]; exact r2 0 (c - (n - 1))
    have i9 : ¬ (c = p + 1) := hl
    go_upto_region 5 with (fail)
    refine wp_region_till (S := fun L W => True) (by kernel_rfl) trivial (fun hS => ?_)
    refine till_take (i := 0) (v := .slice (some ⟨b, 0, none⟩) n c) rfl (by kernel_rfl) (by kernel_rfl) (by kernel_rfl) (fun _ _ _ h => h) (fun L w => Iff.rfl) (Or.inl ⟨by rfl, fun w => by go_simp⟩) hS (fun hSb => ?_)
    simp only [List.getElem_toArray, List.getElem_cons_zero, List.getElem_cons_succ, Act.put, List.setIfInBounds_toArray, List.set_cons_zero, List.set_cons_succ]
    clear hS
    refine till_take (i := 1) (v := .int .i64 (p : Int)) rfl (by kernel_rfl) (by kernel_rfl) (by kernel_rfl) (fun _ _ _ h => h) (fun L w => Iff.rfl) (Or.inl ⟨by rfl, fun w => by go_simp⟩) hSb (fun hS => ?_)
    simp only [List.getElem_toArray, List.getElem_cons_zero, List.getElem_cons_succ, Act.put, List.setIfInBounds_toArray, List.set_cons_zero, List.set_cons_succ]
    clear hSb
    refine till_take (i := 2) (v := .slice (some ⟨b, 0, none⟩) p c) rfl (by kernel_rfl) (by kernel_rfl) (by kernel_rfl) (fun _ _ _ h => h) (fun L w => Iff.rfl) (Or.inl ⟨by rfl, fun w => by go_simp⟩) hS (fun hSb => ?_)
    simp only [List.getElem_toArray, List.getElem_cons_zero, List.getElem_cons_succ, Act.put, List.setIfInBounds_toArray, List.set_cons_zero, List.set_cons_succ]
    clear hS
    refine till_take (i := 3) (v := .slice (some ⟨b, 0, none⟩) n c) rfl (by kernel_rfl) (by kernel_rfl) (by kernel_rfl) (fun _ _ _ h => h) (fun L w => Iff.rfl) (Or.inl ⟨by rfl, fun w => by go_simp⟩) hSb (fun hS => ?_)
    simp only [List.getElem_toArray, List.getElem_cons_zero, List.getElem_cons_succ, Act.put, List.setIfInBounds_toArray, List.set_cons_zero, List.set_cons_succ]
    clear hSb
    refine till_take (i := 4) (v := .int .i64 ((p : Int) + 1)) rfl (by kernel_rfl) (by kernel_rfl) (by kernel_rfl) (fun _ _ _ h => h) (fun L w => Iff.rfl) (Or.inl ⟨by rfl, fun w => by go_simp⟩) hS (fun hSb => ?_)
    simp only [List.getElem_toArray, List.getElem_cons_zero, List.getElem_cons_succ, Act.put, List.setIfInBounds_toArray, List.set_cons_zero, List.set_cons_succ]
    clear hS
    refine till_take (i := 5) (v := .slice (some ⟨b, (p + 1) * 4, none⟩) (n - (p + 1)) (c - (p + 1))) rfl (by kernel_rfl) (by kernel_rfl) (by kernel_rfl) (fun _ _ _ h => h) (fun L w => Iff.rfl) (Or.inl ⟨by rfl, fun w => by go_simp⟩) hSb (fun hS => ?_)
    simp only [List.getElem_toArray, List.getElem_cons_zero, List.getElem_cons_succ, Act.put, List.setIfInBounds_toArray, List.set_cons_zero, List.set_cons_succ]
    clear hSb
    refine till_one (i := 6) (by kernel_rfl) rfl (fun K hK => ?_)
    simp only [List.getElem_toArray, List.getElem_cons_zero, List.getElem_cons_succ]
    rw [if_pos (by rfl)]
    refine wp_app3 (.tmp 22) (.tmp 25) (by rfl) (by rfl) (by rfl) (by rfl) HA ?_
    refine hK.out _ _ (trivial) (fun hSb => ?_)
    clear hK K
    try simp only [List.getElem_toArray, List.getElem_cons_zero, List.getElem_cons_succ, Act.put, List.setIfInBounds_toArray, List.set_cons_zero, List.set_cons_succ]
    clear hS
    refine till_take (i := 7) (v := .slice (some ⟨b, 0, none⟩) (n - 1) c) rfl (by kernel_rfl) (by kernel_rfl) (by kernel_rfl) (fun _ _ _ h => h) (fun L w => Iff.rfl) (Or.inl ⟨by rfl, fun w => by go_simp⟩) hSb (fun hS => ?_)
    simp only [List.getElem_toArray, List.getElem_cons_zero, List.getElem_cons_succ, Act.put, List.setIfInBounds_toArray, List.set_cons_zero, List.set_cons_succ]
    clear hSb
    refine till_done (by kernel_rfl) ?_ _
    clear hS
    show (Exit.then _ _) .normal _ _
    go_wp2
    go_ret
    exact ⟨rfl, F.out⟩
  · skip
    have HA : Hid ((Builtin.append_ #[56, 56] 56 #[.slice (some ⟨b, 0, none⟩) p c, .slice (some ⟨b, 0, none⟩) (n - (p + 1)) (c - (p + 1))]).run Tryd.prog w.drew = .ok (.slice (some ⟨b, 0, none⟩) (n - 1) c) w1) := by
      have h9 := r1 ⟨b, 0, none⟩ (c - (p + 1)) (fun h => absurd h (by omega))
      exact h9
    have cl : (Builtin.clear_ #[56] 0 #[.slice (some ⟨b, (n - 1) * 4, none⟩) (n - (n - 1)) (c - (n - 1))]).run Tryd.prog w1 = .ok (.tuple #[]) w2 := by rw [show n - (n - 1) = 1 by omega]; exact r2 0 (c - (n - 1))
    have i9 : (c = p + 1) = True := eq_true (by omega)
    go_upto_region 5 with (fail)
    refine wp_region_till (S := fun L W => True) (by kernel_rfl) trivial (fun hS => ?_)
    refine till_take (i := 0) (v := .slice (some ⟨b, 0, none⟩) n c) rfl (by kernel_rfl) (by kernel_rfl) (by kernel_rfl) (fun _ _ _ h => h) (fun L w => Iff.rfl) (Or.inl ⟨by rfl, fun w => by go_simp⟩) hS (fun hSb => ?_)
    simp only [List.getElem_toArray, List.getElem_cons_zero, List.getElem_cons_succ, Act.put, List.setIfInBounds_toArray, List.set_cons_zero, List.set_cons_succ]
    clear hS
    refine till_take (i := 1) (v := .int .i64 (p : Int)) rfl (by kernel_rfl) (by kernel_rfl) (by kernel_rfl) (fun _ _ _ h => h) (fun L w => Iff.rfl) (Or.inl ⟨by rfl, fun w => by go_simp⟩) hSb (fun hS => ?_)
    simp only [List.getElem_toArray, List.getElem_cons_zero, List.getElem_cons_succ, Act.put, List.setIfInBounds_toArray, List.set_cons_zero, List.set_cons_succ]
    clear hSb
    refine till_take (i := 2) (v := .slice (some ⟨b, 0, none⟩) p c) rfl (by kernel_rfl) (by kernel_rfl) (by kernel_rfl) (fun _ _ _ h => h) (fun L w => Iff.rfl) (Or.inl ⟨by rfl, fun w => by go_simp⟩) hS (fun hSb => ?_)
    simp only [List.getElem_toArray, List.getElem_cons_zero, List.getElem_cons_succ, Act.put, List.setIfInBounds_toArray, List.set_cons_zero, List.set_cons_succ]
    clear hS
    refine till_take (i := 3) (v := .slice (some ⟨b, 0, none⟩) n c) rfl (by kernel_rfl) (by kernel_rfl) (by kernel_rfl) (fun _ _ _ h => h) (fun L w => Iff.rfl) (Or.inl ⟨by rfl, fun w => by go_simp⟩) hSb (fun hS => ?_)
    simp only [List.getElem_toArray, List.getElem_cons_zero, List.getElem_cons_succ, Act.put, List.setIfInBounds_toArray, List.set_cons_zero, List.set_cons_succ]
    clear hSb
    refine till_take (i := 4) (v := .int .i64 ((p : Int) + 1)) rfl (by kernel_rfl) (by kernel_rfl) (by kernel_rfl) (fun _ _ _ h => h) (fun L w => Iff.rfl) (Or.inl ⟨by rfl, fun w => by go_simp⟩) hS (fun hSb => ?_)
    simp only [List.getElem_toArray, List.getElem_cons_zero, List.getElem_cons_succ, Act.put, List.setIfInBounds_toArray, List.set_cons_zero, List.set_cons_succ]
    clear hS
    refine till_take (i := 5) (v := .slice (some ⟨b, 0, none⟩) (n - (p + 1)) (c - (p + 1))) rfl (by kernel_rfl) (by kernel_rfl) (by kernel_rfl) (fun _ _ _ h => h) (fun L w => Iff.rfl) (Or.inl ⟨by rfl, fun w => by go_simp⟩) hSb (fun hS => ?_)
    simp only [List.getElem_toArray, List.getElem_cons_zero, List.getElem_cons_succ, Act.put, List.setIfInBounds_toArray, List.set_cons_zero, List.set_cons_succ]
    clear hSb
    refine till_one (i := 6) (by kernel_rfl) rfl (fun K hK => ?_)
    simp only [List.getElem_toArray, List.getElem_cons_zero, List.getElem_cons_succ]
    rw [if_pos (by rfl)]
    refine wp_app3 (.tmp 22) (.tmp 25) (by rfl) (by rfl) (by rfl) (by rfl) HA ?_
    refine hK.out _ _ (trivial) (fun hSb => ?_)
    clear hK K
    try simp only [List.getElem_toArray, List.getElem_cons_zero, List.getElem_cons_succ, Act.put, List.setIfInBounds_toArray, List.set_cons_zero, List.set_cons_succ]
    clear hS
    refine till_take (i := 7) (v := .slice (some ⟨b, 0, none⟩) (n - 1) c) rfl (by kernel_rfl) (by kernel_rfl) (by kernel_rfl) (fun _ _ _ h => h) (fun L w => Iff.rfl) (Or.inl ⟨by rfl, fun w => by go_simp⟩) hSb (fun hS => ?_)
    simp only [List.getElem_toArray, List.getElem_cons_zero, List.getElem_cons_succ, Act.put, List.setIfInBounds_toArray, List.set_cons_zero, List.set_cons_succ]
    clear hSb
    refine till_done (by kernel_rfl) ?_ _
    clear hS
    show (Exit.then _ _) .normal _ _
    go_wp2
    go_ret
    exact ⟨rfl, F.out⟩
end Go.Proofs.YtkjebbpmafhpgaaDoor
