/- HttpAnswers holds: an answer is lines with CR LF between, an empty one, and just the body, and a status has words. -/
import Derived.Lay
import Derived.Test.YtemhhlongfabmabGreatDoorCards
import Derived.Test.YtemhhlongfabmabGreatDoorTie
import Derived.Test.YtemhhlongfabmabGreatDoorHq
import Derived.Deep.DeepHandedRow
import Derived.Test.YtemhhlongfabmabGreatDoorVn
import Derived.Test.YtemhhlongfabmabGreatDoorJb
namespace Go.Proofs.YtemhhlongfabmabGreatDoor.httpAnswers
open Go.ChangeShapes Go.WideShapes Go.ChangeAt Go.RowKit
set_option linter.unusedVariables false
theorem own : ownKnob Tryz.prog.godebug = none := by kernel_rfl
theorem laidOut : laidOutB Tryz.prog = true := by kernel_rfl
def names : List (String × Nat × List UInt8) := [("bollard/api.ErrLarge", 0, [98, 111, 108, 108, 97, 114, 100, 58, 32, 108, 97, 114, 103, 101]), ("bollard/api.ErrRequest", 2, [98, 111, 108, 108, 97, 114, 100, 58, 32, 114, 101, 113, 117, 101, 115, 116])]
theorem door_met (os : Os) (args : Array Value) : laidMetH Tryz.prog Rows.httpAnswersRow.laid ((World.laidAll Tryz.prog os Rows.httpAnswersRow.laid).forCall (fun _ _ => 0) ⟨#[], args, []⟩).memory := by
  rw [MakeChecks.laidMetH_plain _ _ _ (by kernel_rfl)]
  exact laidMet_laidAll args (by kernel_rfl) (by kernel_rfl)
theorem globs : ∀ v ∈ names, Tryz.prog.globalNamed v.1 = some v.2.1 ∧ (Tryz.prog.globals[v.2.1]?).map (·.type) = some 35 := by
  have h : (names.all fun v => (Tryz.prog.globalNamed v.1 == some v.2.1) && ((Tryz.prog.globals[v.2.1]?).map (·.type) == some 35)) = true := by kernel_rfl
  intro v hv
  have h2 := List.all_eq_true.1 h v hv
  simpa using h2
theorem envs {W : World} (h : laidMetH Tryz.prog Rows.httpAnswersRow.laid W) : Tab W ∧ ∃ E, Sent W (fun g => g = 0 ∨ g = 2) E :=
  env_of (M := (fun g => g = 0 ∨ g = 2)) [("math/bits.deBruijn32tab", Rows.laid_math_bits_deBruijn32tab), ("math/bits.deBruijn64tab", Rows.laid_math_bits_deBruijn64tab)] [("unicode/utf8.acceptRanges", Rows.laid_unicode_utf8_acceptRanges)] [("unicode.CaseRanges", Rows.laid_unicode_CaseRanges), ("unicode/utf8.first", Rows.laid_unicode_utf8_first)] names rfl (by kernel_rfl) globs (by decide) (by
    intro g hg
    have h : ∀ g, g < 18 → (fun g => g = 0 ∨ g = 2) g → ∃ v ∈ names, v.2.1 = g := by decide
    exact h g (by omega) hg) h
set_option maxRecDepth 100000 in
theorem lifted (os : Os) (started : os.Started) (H : Type) (enc : TypeId × Value → H) (F : Stop.Interp) :
    ReturnsInHanded {} Tryz.checked os 3 .any ((OpenSpec.ofChange Rows.httpAnswersSpec).preRow enc Tryz.prog Tryz.f3 [] false Rows.httpAnswersRow.laid) (((OpenSpec.ofChange Rows.httpAnswersSpec).at F).post enc Tryz.prog Tryz.f3 false true false false) := by
  refine returnsInHanded_of_row (C := Tryz.checked) (s := OpenSpec.ofChange Rows.httpAnswersSpec) own started (by kernel_rfl) Tryz.func3
    (ChangeSpec.witness_shaped (enc := enc) (C := Tryz.checked) (os := os) (X := fun w _ => laidMetH Tryz.prog Rows.httpAnswersRow.laid w) false (World.laidAll Tryz.prog os Rows.httpAnswersRow.laid) #[.int .i64 0, .slice none 0 0] 8 (World.laidAll_os _ _ _) (World.shaped_of_ZipB (by kernel_rfl) (by kernel_rfl)) (by kernel_rfl) (by kernel_rfl) (by kernel_rfl) (door_met os _)) ?_
  intro W base args ds gs before hval0 hW _ _ hsz0 hL hsh _
  have hval : ∀ (j : Nat) t v, Tryz.f3.params[j]? = some t → args[j]? = some v → Value.okWide Tryz.prog W .any base t v := hval0
  have hsz : (DataW.weightsEach Tryz.prog (Tryz.f3.params.toList ++ Rows.httpAnswersSpec.plain.varTypes Tryz.prog) (ds ++ gs)).all (· ≤ reachBytes) = true := hsz0
  have hW' := hW
  obtain ⟨p, q, hA0, hV, rfl, hfz, hnd⟩ := hW
  have hA : DataW.TrodAll enc Tryz.prog W 0 (fun _ => true) true Tryz.f3.params.toList args.toList ds p := hA0
  rw [Tryz.params3] at hA hval hsz
  obtain ⟨v0, vs0, d0, ds0, p0, q0, hargs, rfl, rfl, h0, r0⟩ := trodAll_cons hA
  obtain ⟨v1, vs1, d1, ds1, p1, q1, rfl, rfl, rfl, h1, r1⟩ := trodAll_cons r0
  obtain ⟨rfl, rfl, rfl⟩ := trodAll_nil r1
  obtain rfl : args = #[v0, v1] := by cases args; simp_all
  obtain ⟨rfl, rfl⟩ := trodVars_none hV
  have k1 := h1
  have lt1 : ∀ x ∈ p1, x.block < W.heap.size := by obtain ⟨m, hm⟩ := k1; exact DataW.trod_lt m _ _ _ hm
  have s1 : ∀ n ∈ d1.weights Tryz.prog 22, n ≤ reachBytes := fun n hn => by
    have := List.all_eq_true.1 hsz n (DataW.weights_mem_each (j := 1) (t := 22) (d := d1) rfl rfl n hn)
    simpa using this
  obtain ⟨x0, rfl, rfl, rfl, wx0⟩ := open_int Tryz.underlying3 (hval 0 3 v0 rfl rfl) h0
  obtain ⟨aa1, la1, ca1, rfl⟩ := okWide_slice Tryz.underlying22 (hval 1 22 v1 rfl rfl)
  obtain ⟨f1, hf1⟩ := h1
  simp only [Value.cells] at hf1
  obtain ⟨a1, n1, c1, l1, e1, S1, hk1, hm1⟩ := open_bytes hf1 s1
  simp only [Value.slice.injEq] at e1
  obtain ⟨rfl, rfl, rfl⟩ := e1
  have z1 : Hid (aa1 = none → ca1 = 0) := nil_cap27 hf1
  have hM : Hid (Mx W) := mx_of hsh
  obtain ⟨hT0, E, hE0⟩ := envs hL
  have hE : Hid (Sent W (fun g => g = 0 ∨ g = 2) E) := hE0
  have hT : Hid (Tab W) := hT0
  clear hA0 hval0 hsz0 hsz
  refine (answers_n S1 z1 (by omega) wx0 hM hE (Or.inl rfl) (Or.inr rfl) hT).mono fun e W' ⟨he, bel0⟩ => ?_
  have bel := bel0.out
  subst he
  exact ⟨_, rfl, _, _, _, [], _, [], hW', trodAll_mk1 (shut_bool Tryz.underlying4 _), (trodAll_cons_mk (shut_int Tryz.underlying3 wx0) (trodAll_cons_mk (Below.trod laidOut (by kernel_rfl) (of_decide_eq_true (by kernel_rfl)) k1 bel lt1) trodAll_mk0)), rfl, bel.frame _, fun h => by cases h⟩
theorem said : Rows.HttpAnswersSaid :=
  OpenClaim.holds_of_wide 3 Tryz.f3 rfl rfl rfl rfl rfl rfl rfl ⟨rfl, rfl, rfl, rfl, rfl⟩ rfl rfl rfl rfl rfl (by kernel_rfl) Tryz.func3 (by kernel_rfl)
    (of_decide_eq_true (by kernel_rfl)) (by unfold Func.isWrapper; first | (rw [if_pos (by decide +kernel)]; kernel_rfl) | (rw [if_neg (by decide +kernel)]; exact ⟨rfl, rfl⟩))
    (fun os started H enc _ => lifted os started H enc (fun _ _ _ => 0))
theorem plain (f : FuncId) (fn : Func) (hf : Tryz.pinned.checked.prog.funcNamed "bollard/bollardlaw16.HttpAnswers" = some f) (hfn : Tryz.pinned.checked.prog.funcs[f]? = some fn) :
    false = Tryz.pinned.checked.prog.looks [] ∧ ∀ (j : Nat) t, fn.params[j]? = some t → Tryz.pinned.checked.prog.wantsStandIn t = false := by
  obtain rfl : f = 3 := Option.some.inj ((show Tryz.prog.funcNamed "bollard/bollardlaw16.HttpAnswers" = some 3 by kernel_rfl).symm.trans hf) |>.symm
  obtain rfl : fn = Tryz.f3 := (Option.some.inj (Tryz.func3.symm.trans hfn)).symm
  refine ⟨by kernel_rfl, fun j t ht => ?_⟩
  rw [Tryz.params3] at ht
  have hm : t ∈ [3, 22] := by simpa using Array.mem_of_getElem? ht
  have hall : ([3, 22].all fun u => !Tryz.prog.wantsStandIn u) = true := by kernel_rfl
  exact (show Tryz.prog.wantsStandIn t = false by simpa using List.all_eq_true.1 hall t hm)
theorem card : Rows.HttpAnswersCardSaid :=
  Claim7.holds_tied_plain_at .later [] _ _ _ _ said (fun _ h => by cases h) (by kernel_rfl) (fun _ h => by cases h) httpAnswers_row_tie rfl ⟨rfl, rfl⟩ (by kernel_rfl) rfl plain (by kernel_rfl)
end Go.Proofs.YtemhhlongfabmabGreatDoor.httpAnswers
namespace Go.Proofs.YtemhhlongfabmabGreatDoor
theorem httpAnswers_holds : Rows.HttpAnswersCardSaid := httpAnswers.card
#print axioms httpAnswers_holds
end Go.Proofs.YtemhhlongfabmabGreatDoor
