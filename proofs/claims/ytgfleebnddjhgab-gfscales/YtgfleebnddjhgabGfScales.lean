/- For every three lists of bytes and every two bytes the Go function GfScales (scaling distributes over sums of lists and goes one behind the other; sums of lists are associative) returns true and leaves its arguments as they were. No condition but the form's own: each slice that is read takes at most 2^47 - 4096 bytes. -/
import Derived.Test.YtgfleebnddjhgabRows
import Derived.Test.YtgfleebnddjhgabWl
import Derived.Test.YtgfleebnddjhgabWm
namespace Go.Proofs.Ytgfleebnddjhgab.gfScales
open Go.ChangeShapes Go.WideShapes Go.ChangeAt Go.RowKit Go.Joins
set_option linter.unusedVariables false
theorem own : ownKnob Try.prog.godebug = none := by kernel_rfl
theorem laidOut : laidOutB Try.prog = true := by kernel_rfl
theorem cells24 : Try.prog.cellsOf 24 = 4 := by kernel_rfl
set_option maxRecDepth 100000 in
theorem lifted (os : Os) (started : os.Started) (H : Type) (enc : TypeId × Value → H) :
    ReturnsInHanded {} Try.checked os 3 .any (Rows.gfScalesSpec.pre6 enc Try.prog Try.f3 Rows.gfScalesRow.domain false) (Rows.gfScalesSpec.post enc Try.prog Try.f3 false true false false) := by
  refine returnsInHanded_of_change_sized (C := Try.checked) own started (by kernel_rfl) Try.func3
    (ChangeSpec.witness6 (enc := enc) (C := Try.checked) false ⟨#[], #[.agg #[.slice none 0 0, .slice none 0 0, .slice none 0 0, .int .u8 0], .int .u8 0], []⟩ 8 (by kernel_rfl) (by kernel_rfl) (by kernel_rfl) (by kernel_rfl)) ?_
  intro W base args ds gs before hval0 hW hcnd hsz0 _
  have hval : ∀ (j : Nat) t v, Try.f3.params[j]? = some t → args[j]? = some v → Value.okWide Try.prog W .any base t v := hval0
  have hsz : (DataW.weightsEach Try.prog (Try.f3.params.toList ++ Rows.gfScalesSpec.plain.varTypes Try.prog) (ds ++ gs)).all (· ≤ reachBytes) = true := hsz0
  have hW' := hW
  obtain ⟨p, q, hA0, hV, rfl, hfz, hnd⟩ := hW
  have hA : DataW.TrodAll enc Try.prog W 0 (fun _ => true) true Try.f3.params.toList args.toList ds p := hA0
  rw [Try.params3] at hA hval hsz
  obtain ⟨v0, vs0, d0, ds0, p0, q0, hargs, rfl, rfl, h0, r0⟩ := trodAll_cons hA
  obtain ⟨v1, vs1, d1, ds1, p1, q1, rfl, rfl, rfl, h1, r1⟩ := trodAll_cons r0
  obtain ⟨rfl, rfl, rfl⟩ := trodAll_nil r1
  obtain rfl : args = #[v0, v1] := by cases args; simp_all
  obtain ⟨rfl, rfl⟩ := trodVars_none hV
  have k0 := h0
  have lt0 : ∀ x ∈ p0, x.block < W.heap.size := by obtain ⟨m, hm⟩ := k0; exact DataW.trod_lt m _ _ _ hm
  obtain ⟨dd, rfl, rfl, rfl, wd⟩ := open_int Try.underlying5 (hval 1 5 v1 rfl rfl) h1
  have bd := bounds_u8 wd
  obtain ⟨c0, c1, c2, c3, y0, y1, y2, y3, m, rfl, rfl, rfl, t0, t1, t2, t3⟩ := open_agg4 Try.underlying24 (by kernel_rfl) cells24 (hval 0 24 v0 rfl rfl) h0
  have hall : ∀ n ∈ DataW.weightsEach Try.prog [22, 22, 22, 5] [y0.1, y1.1, y2.1, y3.1], n ≤ reachBytes := by
    intro n hn
    have h1 := List.all_eq_true.1 hsz n (DataW.weights_mem_each (j := 0) (t := 24) (d := .agg [y0.1, y1.1, y2.1, y3.1]) rfl rfl n (by
      simp only [DataW.weights, Try.underlying24]; exact hn))
    simpa using h1
  obtain ⟨aA, nA, kA, lA, rfl, SA, hA1, hA2⟩ := open_bytes t0 (fun n hn => hall n (by simp [DataW.weightsEach, hn]))
  obtain ⟨aB, nB, kB, lB, rfl, SB, hB1, hB2⟩ := open_bytes t1 (fun n hn => hall n (by simp [DataW.weightsEach, hn]))
  obtain ⟨aD, nD, kD, lD, rfl, SD, hD1, hD2⟩ := open_bytes t2 (fun n hn => hall n (by simp [DataW.weightsEach, hn]))
  obtain ⟨c, e0, _, wc⟩ := DataW.trod_int Try.underlying5 t3
  simp at e0
  subst e0
  have bc := bounds_u8 wc
  clear hA0 hval0 hsz0 hsz
  have hw := scales_any aA aB aD nA nB nD kA kB kD c.toNat dd.toNat lA lB lD W (by omega) (by omega) SA SB SD
  rw [Int.toNat_of_nonneg bc.1, Int.toNat_of_nonneg bd.1] at hw
  refine hw.mono fun e W' ⟨he, bel⟩ => ?_
  subst he
  exact ⟨_, rfl, _, _, _, [], _, [], hW', trodAll_mk1 (shut_bool Try.underlying4 _), (trodAll_cons_mk (Below.trod laidOut (by kernel_rfl) (of_decide_eq_true (by kernel_rfl)) k0 bel lt0) (trodAll_cons_mk (shut_int Try.underlying5 wd) trodAll_mk0)), rfl, bel.frame _, fun h => by cases h⟩
theorem over : Rows.gfScalesRow.holds Try.pinned (OpenSpec.ofChange Rows.gfScalesSpec) :=
  OpenClaim.holds_of_wide 3 Try.f3 rfl rfl rfl rfl rfl rfl rfl ⟨rfl, rfl, rfl, rfl, rfl⟩ rfl rfl rfl rfl rfl (by kernel_rfl) Try.func3 (by kernel_rfl)
    (of_decide_eq_true (by kernel_rfl)) (by unfold Func.isWrapper; first | (rw [if_pos (by decide +kernel)]; kernel_rfl) | (rw [if_neg (by decide +kernel)]; exact ⟨rfl, rfl⟩))
    (fun os started H enc _ => lifted os started H enc)
end Go.Proofs.Ytgfleebnddjhgab.gfScales
namespace Go.Proofs.Ytgfleebnddjhgab
theorem gfScales_holds : Rows.GfScalesSaid := gfScales.over
#print axioms gfScales_holds
end Go.Proofs.Ytgfleebnddjhgab
