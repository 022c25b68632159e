/- For every three lists of bytes and every byte the Go function GfBilinear (Dot is linear in both lists, what is added twice leads back) returns true and leaves its argument as it was. No condition but the form's own: each slice that is read takes at most 2^47 - 4096 bytes. -/
import Derived.Test.YtgfleebnddjhgaaRows
import Derived.Test.YtgfleebnddjhgaaWl
import Derived.Test.YtgfleebnddjhgaaWm
namespace Go.Proofs.Ytgfleebnddjhgaa.gfBilinear
open Go.ChangeShapes Go.WideShapes Go.ChangeAt Go.RowKit Go.Joins
set_option linter.unusedVariables false
theorem own : ownKnob Try.prog.godebug = none := by kernel_rfl
theorem laidOut : laidOutB Try.prog = true := by kernel_rfl
theorem cells42 : Try.prog.cellsOf 42 = 4 := by kernel_rfl
set_option maxRecDepth 100000 in
theorem lifted (os : Os) (started : os.Started) (H : Type) (enc : TypeId × Value → H) :
    ReturnsInHanded {} Try.checked os 7 .any (Rows.gfBilinearSpec.pre6 enc Try.prog Try.f7 Rows.gfBilinearRow.domain false) (Rows.gfBilinearSpec.post enc Try.prog Try.f7 false true false false) := by
  refine returnsInHanded_of_change_sized (C := Try.checked) own started (by kernel_rfl) Try.func7
    (ChangeSpec.witness6 (enc := enc) (C := Try.checked) false ⟨#[], #[.agg #[.slice none 0 0, .slice none 0 0, .slice none 0 0, .int .u8 0]], []⟩ 8 (by kernel_rfl) (by kernel_rfl) (by kernel_rfl) (by kernel_rfl)) ?_
  intro W base args ds gs before hval0 hW hcnd hsz0 _
  have hval : ∀ (j : Nat) t v, Try.f7.params[j]? = some t → args[j]? = some v → Value.okWide Try.prog W .any base t v := hval0
  have hsz : (DataW.weightsEach Try.prog (Try.f7.params.toList ++ Rows.gfBilinearSpec.plain.varTypes Try.prog) (ds ++ gs)).all (· ≤ reachBytes) = true := hsz0
  have hW' := hW
  obtain ⟨p, q, hA0, hV, rfl, hfz, hnd⟩ := hW
  have hA : DataW.TrodAll enc Try.prog W 0 (fun _ => true) true Try.f7.params.toList args.toList ds p := hA0
  rw [Try.params7] at hA hval hsz
  obtain ⟨v0, vs0, d0, ds0, p0, q0, hargs, rfl, rfl, h0, r0⟩ := trodAll_cons hA
  obtain ⟨rfl, rfl, rfl⟩ := trodAll_nil r0
  obtain rfl : args = #[v0] := by cases args; simp_all
  obtain ⟨rfl, rfl⟩ := trodVars_none hV
  have k0 := h0
  have lt0 : ∀ x ∈ p0, x.block < W.heap.size := by obtain ⟨m, hm⟩ := k0; exact DataW.trod_lt m _ _ _ hm
  obtain ⟨c0, c1, c2, c3, y0, y1, y2, y3, m, rfl, rfl, rfl, t0, t1, t2, t3⟩ := open_agg4 Try.underlying42 (by kernel_rfl) cells42 (hval 0 42 v0 rfl rfl) h0
  have hall : ∀ n ∈ DataW.weightsEach Try.prog [31, 31, 31, 5] [y0.1, y1.1, y2.1, y3.1], n ≤ reachBytes := by
    intro n hn
    have h1 := List.all_eq_true.1 hsz n (DataW.weights_mem_each (j := 0) (t := 42) (d := .agg [y0.1, y1.1, y2.1, y3.1]) rfl rfl n (by
      simp only [DataW.weights, Try.underlying42]; exact hn))
    simpa using h1
  obtain ⟨aA, nA, kA, lA, rfl, SA, hA1, hA2⟩ := open_bytes t0 (fun n hn => hall n (by simp [DataW.weightsEach, hn]))
  obtain ⟨aB, nB, kB, lB, rfl, SB, hB1, hB2⟩ := open_bytes t1 (fun n hn => hall n (by simp [DataW.weightsEach, hn]))
  obtain ⟨aD, nD, kD, lD, rfl, SD, hD1, hD2⟩ := open_bytes t2 (fun n hn => hall n (by simp [DataW.weightsEach, hn]))
  obtain ⟨c, e0, _, wc⟩ := DataW.trod_int Try.underlying5 t3
  simp at e0
  subst e0
  have bc := bounds_u8 wc
  clear hA0 hval0 hsz0 hsz
  have hw := bilinear_any aA aB aD nA nB nD kA kB kD c.toNat lA lB lD W (by omega) SA SB SD hA1 hB1 hD1 hA2 hB2 hD2
  rw [Int.toNat_of_nonneg bc.1] at hw
  refine hw.mono fun e W' ⟨he, bel⟩ => ?_
  subst he
  exact ⟨_, rfl, _, _, _, [], _, [], hW', trodAll_mk1 (shut_bool Try.underlying4 _), (trodAll_cons_mk (Below.trod laidOut (by kernel_rfl) (of_decide_eq_true (by kernel_rfl)) k0 bel lt0) trodAll_mk0), rfl, bel.frame _, fun h => by cases h⟩
theorem over : Rows.gfBilinearRow.holds Try.pinned (OpenSpec.ofChange Rows.gfBilinearSpec) :=
  OpenClaim.holds_of_wide 7 Try.f7 rfl rfl rfl rfl rfl rfl rfl ⟨rfl, rfl, rfl, rfl, rfl⟩ rfl rfl rfl rfl rfl (by kernel_rfl) Try.func7 (by kernel_rfl)
    (of_decide_eq_true (by kernel_rfl)) (by unfold Func.isWrapper; first | (rw [if_pos (by decide +kernel)]; kernel_rfl) | (rw [if_neg (by decide +kernel)]; exact ⟨rfl, rfl⟩))
    (fun os started H enc _ => lifted os started H enc)
end Go.Proofs.Ytgfleebnddjhgaa.gfBilinear
namespace Go.Proofs.Ytgfleebnddjhgaa
theorem gfBilinear_holds : Rows.GfBilinearSaid := gfBilinear.over
#print axioms gfBilinear_holds
end Go.Proofs.Ytgfleebnddjhgaa
