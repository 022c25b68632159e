import Derived.Test.YtmkknklkdgkbaaaDoorCards
import Derived.Test.YtmkknklkdgkbaaaDoorTie
import Derived.Test.YtmkknklkdgkbaaaDoorMJa
/- FrameSlips -/
/- For every slip the Go function FrameSlips (a frame one byte of whose body is changed is refused with ErrDigest, or two blocks that differ have one digest) returns true and leaves its argument as it was. Condition: the listed variables hold what the program lays (tied by the card). -/
namespace Go.Proofs.YtmkknklkdgkbaaaDoor.frameSlips
open Go.ChangeShapes Go.WideShapes Go.ChangeAt Go.RowKit
set_option linter.unusedVariables false
theorem own : ownKnob Tryd.prog.godebug = none := by kernel_rfl
theorem laidOut : laidOutB Tryd.prog = true := by kernel_rfl
def names : List (String × Nat × List UInt8) := [("bollard/api.ErrNumber", 0, [98, 111, 108, 108, 97, 114, 100, 58, 32, 110, 117, 109, 98, 101, 114]), ("bollard/api.ErrBytes", 3, [98, 111, 108, 108, 97, 114, 100, 58, 32, 98, 121, 116, 101, 115]), ("bollard/api.ErrDigest", 2, [98, 111, 108, 108, 97, 114, 100, 58, 32, 100, 105, 103, 101, 115, 116]), ("bollard/api.ErrLarge", 1, [98, 111, 108, 108, 97, 114, 100, 58, 32, 108, 97, 114, 103, 101])]
theorem door_met (os : Os) (args : Array Value) : laidMetH Tryd.prog Rows.frameSlipsRow.laid ((World.doorLaid Tryd.prog 400 os).forCall (fun _ _ => 0) ⟨#[], args, []⟩).memory :=
  laidMetH_of_parts3 (fuel := 8) (laidMet_of_run' 8 (by kernel_rfl) (by kernel_rfl)) (by kernel_rfl) (by kernel_rfl)
theorem globs : ∀ v ∈ names, Tryd.prog.globalNamed v.1 = some v.2.1 ∧ (Tryd.prog.globals[v.2.1]?).map (·.type) = some 30 := by
  have h : (names.all fun v => (Tryd.prog.globalNamed v.1 == some v.2.1) && ((Tryd.prog.globals[v.2.1]?).map (·.type) == some 30)) = true := by kernel_rfl
  intro v hv
  have h2 := List.all_eq_true.1 h v hv
  simpa using h2
theorem sents {W : World} (h : laidMetH Tryd.prog Rows.frameSlipsRow.laid W) : ∃ E, Sent W 4 E ∧ Kst W ∧ Mst W := by
  obtain ⟨h1, h2, h3⟩ := laid_all names rfl (by kernel_rfl) h
  obtain ⟨E, h4⟩ := sent_of2 (M := 4) names globs (by decide) (by
    intro g hg
    have h : ∀ g, g < 4 → ∃ v ∈ names, v.2.1 = g := by decide
    exact h g hg) h3
  exact ⟨E, h4, h1, h2⟩
set_option maxRecDepth 100000 in
theorem lifted (os : Os) (started : os.Started) (H : Type) (enc : TypeId × Value → H) :
    ReturnsInHanded {} Tryd.checked os 6 .any (fun w args => (Rows.frameSlipsSpec.pre enc Tryd.prog Tryd.f6 [] false w args ∧ laidMetH Tryd.prog Rows.frameSlipsRow.laid w) ∧ sizedMet enc Tryd.prog Tryd.f6 (OpenSpec.ofChange Rows.frameSlipsSpec) false w args)
      (Rows.frameSlipsSpec.post enc Tryd.prog Tryd.f6 false true false false) := by
  refine returnsInHanded_of_change_and (C := Tryd.checked) (X := fun w _ => laidMetH Tryd.prog Rows.frameSlipsRow.laid w) (fun _ _ _ hh h => h.of_heap hh) own started (by kernel_rfl) Tryd.func6
    (ChangeSpec.witness_shaped (enc := enc) (C := Tryd.checked) (os := os) (X := fun w _ => laidMetH Tryd.prog Rows.frameSlipsRow.laid w) false (World.doorLaid Tryd.prog 400 os) #[.agg #[.int .i64 0, .int .i64 0, .int .i64 0, .int .i64 0, .int .i64 0, .slice none 0 0, .int .i64 0, .int .u8 0]] 8 rfl (World.shaped_of_RefB (by kernel_rfl) (by kernel_rfl)) (by kernel_rfl) (by kernel_rfl) (by kernel_rfl) (door_met os _)) ?_
  intro W base args ds gs before hval0 hW _ hsz0 hL _
  have hval : ∀ (j : Nat) t v, Tryd.f6.params[j]? = some t → args[j]? = some v → Value.okWide Tryd.prog W .any base t v := hval0
  have hsz : (DataW.weightsEach Tryd.prog (Tryd.f6.params.toList ++ Rows.frameSlipsSpec.plain.varTypes Tryd.prog) (ds ++ gs)).all (· ≤ reachBytes) = true := hsz0
  have hW' := hW
  obtain ⟨p, q, hA0, hV, rfl, hfz, hnd⟩ := hW
  have hA : DataW.TrodAll enc Tryd.prog W 0 (fun _ => true) true Tryd.f6.params.toList args.toList ds p := hA0
  rw [Tryd.params6] at hA hval hsz
  obtain ⟨v0, vs0, d0, ds0, p0, q0, hargs, rfl, rfl, h0, r0⟩ := trodAll_cons hA
  obtain ⟨rfl, rfl, rfl⟩ := trodAll_nil r0
  obtain rfl : args = #[v0] := by cases args; simp_all
  obtain ⟨rfl, rfl⟩ := trodVars_none hV
  have k0 := h0
  have lt0 : ∀ x ∈ p0, x.block < W.heap.size := by obtain ⟨m, hm⟩ := k0; exact DataW.trod_lt m _ _ _ hm
  have s0 : ∀ n ∈ d0.weights Tryd.prog 54, n ≤ reachBytes := fun n hn => by
    have := List.all_eq_true.1 hsz n (DataW.weights_mem_each (j := 0) (t := 54) (d := d0) rfl rfl n hn)
    simpa using this
  obtain ⟨xa0, xb0, xc0, xd0, xe0, a0, n0, c0, l0, x0, y0, rfl, S0, hk0, hm0, z0, hy0⟩ := open54 (hval 0 54 v0 rfl rfl) h0 s0
  obtain ⟨E, hS0, hK0, hM0⟩ := sents hL
  have hS : Hid (Sent W 4 E) := hS0
  have hK : Hid (Kst W) := hK0
  have hM : Hid (Mst W) := hM0
  clear hA0 hval0 hsz0 hsz
  refine (slips_n xa0 xb0 xc0 xd0 xe0 x0 y0 S0 z0 hk0 hS hM hK hy0).mono fun e W' ⟨he, bel0⟩ => ?_
  have bel := bel0.out
  subst he
  exact ⟨_, rfl, _, _, _, [], _, [], hW', trodAll_mk1 (shut_bool Tryd.underlying4 _), (trodAll_cons_mk (Below.trod laidOut (by kernel_rfl) (of_decide_eq_true (by kernel_rfl)) k0 bel lt0) trodAll_mk0), rfl, bel.frame _, fun h => by cases h⟩
theorem said : Rows.FrameSlipsSaid :=
  OpenClaim.holds_of_wide 6 Tryd.f6 rfl rfl rfl rfl rfl rfl rfl ⟨rfl, rfl, rfl, rfl, rfl⟩ rfl rfl rfl rfl rfl (by kernel_rfl) Tryd.func6 (by kernel_rfl)
    (of_decide_eq_true (by kernel_rfl)) (by unfold Func.isWrapper; first | (rw [if_pos (by decide +kernel)]; kernel_rfl) | (rw [if_neg (by decide +kernel)]; exact ⟨rfl, rfl⟩))
    (fun os started H enc _ => lifted os started H enc)
theorem plain (f : FuncId) (fn : Func) (hf : Tryd.pinned.checked.prog.funcNamed "bollard/bollardlaw06.FrameSlips" = some f) (hfn : Tryd.pinned.checked.prog.funcs[f]? = some fn) :
    true = Tryd.pinned.checked.prog.looks [] ∧ ∀ (j : Nat) t, fn.params[j]? = some t → Tryd.pinned.checked.prog.wantsStandIn t = false := by
  obtain rfl : f = 6 := Option.some.inj ((show Tryd.prog.funcNamed "bollard/bollardlaw06.FrameSlips" = some 6 by kernel_rfl).symm.trans hf) |>.symm
  obtain rfl : fn = Tryd.f6 := (Option.some.inj (Tryd.func6.symm.trans hfn)).symm
  refine ⟨by kernel_rfl, fun j t ht => ?_⟩
  rw [Tryd.params6] at ht
  have hm : t ∈ [54] := by simpa using Array.mem_of_getElem? ht
  have hall : ([54].all fun u => !Tryd.prog.wantsStandIn u) = true := by kernel_rfl
  exact (show Tryd.prog.wantsStandIn t = false by simpa using List.all_eq_true.1 hall t hm)
theorem card : Rows.FrameSlipsCardSaid :=
  Claim7.holds_tied_plain_at .later [] _ _ _ _ said (fun _ h => by cases h) (by kernel_rfl) (fun _ h => by cases h) frameSlips_row_tie rfl ⟨rfl, rfl⟩ (by kernel_rfl) rfl plain (by kernel_rfl)
end Go.Proofs.YtmkknklkdgkbaaaDoor.frameSlips
namespace Go.Proofs.YtmkknklkdgkbaaaDoor
theorem frameSlips_holds : Rows.FrameSlipsCardSaid := frameSlips.card
#print axioms frameSlips_holds
end Go.Proofs.YtmkknklkdgkbaaaDoor
