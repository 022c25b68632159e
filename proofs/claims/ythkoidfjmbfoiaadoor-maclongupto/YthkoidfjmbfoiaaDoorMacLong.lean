/- For all keys, messages and rows of words of bulk at most 1048576 together the Go function MacLong (Derive of two rows of words, one behind the other, goes through both, step by step by package mac's Sum behind the chapter's own Derive of the first; a key of more than 64 bytes counts as its digest: Sum is the chapter's own; the known code begins as it should) returns true and leaves its argument as it was. Conditions: the bulk (the second form; the law's own append of the two rows makes a slice as long as both, so the first form is false at arguments too great for any machine); the constants of package sha hold what the program's text lays (tied by the card); the form's own: each slice and string that is read takes at most 2^47 - 4096 bytes. -/
import Derived.Test.YthkoidfjmbfoiaaDoorCards
import Derived.Test.YthkoidfjmbfoiaaDoorTie
import Derived.Test.YthkoidfjmbfoiaaDoorMq
import Derived.Test.YthkoidfjmbfoiaaDoorMo
import Derived.Test.YthkoidfjmbfoiaaDoorSn
import Derived.LaidLaws
import Derived.LaidMore
import Derived.Stop.Joined
import Derived.Deep.DeepHandedRow
import Derived.Deep.DeepWitnessRowRef
namespace Go.Proofs.YthkoidfjmbfoiaaDoor.macLong
open Go.ChangeShapes Go.WideShapes Go.ChangeAt Go.RowKit Go.Joins
set_option linter.unusedVariables false
theorem own : ownKnob Tryd.prog.godebug = none := by kernel_rfl
theorem laidOut : laidOutB Tryd.prog = true := by kernel_rfl
theorem cells36 : Tryd.prog.cellsOf 36 = 4 := by kernel_rfl
theorem one_le {H : Type} (d : DataW H) : 1 ≤ Rows.uptoBulk d := by
  cases d with
  | lit l => cases l <;> simp [Rows.uptoBulk]
  | nil => simp [Rows.uptoBulk]
  | ptr d => simp [Rows.uptoBulk]
  | slice elems spare => simp [Rows.uptoBulk]
  | agg parts => simp [Rows.uptoBulk]
  | iface t d => simp [Rows.uptoBulk]
  | map entries => simp [Rows.uptoBulk]
  | held h => simp [Rows.uptoBulk]
theorem length_le {H : Type} (l : List (DataW H)) : l.length ≤ Rows.uptoBulkAll l := by
  induction l with
  | nil => simp [Rows.uptoBulkAll]
  | cons x r ih => have := one_le x; simp only [Rows.uptoBulkAll, List.length_cons]; omega
theorem nil_cap {H : Type} {enc : TypeId × Value → H} {W : World} {fuel : Nat} {a : Option Addr} {n k : Nat} {y : DataW H × List MemPlace} (hf : DataW.trod enc Tryd.prog W 0 (fun _ => true) true fuel 22 [.slice a n k] = some y) : Hid (a = none → k = 0) := by
  rcases open_ints Tryd.underlying22 Tryd.underlying5 cells5 hf with ⟨hcs, _⟩ | ⟨x, l, c, zs, hcs, _⟩
  · simp at hcs
    exact fun _ => hcs.2.2
  · simp at hcs
    intro h
    rw [h] at hcs
    simp at hcs
theorem nil_capS {H : Type} {enc : TypeId × Value → H} {W : World} {fuel : Nat} {a : Option Addr} {n k : Nat} {y : DataW H × List MemPlace} (hf : DataW.trod enc Tryd.prog W 0 (fun _ => true) true fuel 30 [.slice a n k] = some y) : Hid (a = none → k = 0) ∧ n ≤ Rows.uptoBulk y.1 := by
  rcases open_strings Tryd.underlying30 Tryd.underlying9 cells9 hf with ⟨hcs, _⟩ | ⟨x, l, c, ss, hcs, _, hl, _, hz, hx, _⟩
  · simp at hcs
    exact ⟨fun _ => hcs.2.2, by omega⟩
  · simp at hcs
    refine ⟨fun h => by rw [h] at hcs; simp at hcs, ?_⟩
    have hz : ss.length = c := by simpa using hz
    have h1 := length_le (strs (H := H) (ss.take l))
    rw [hx]
    simp only [Rows.uptoBulk]
    simp only [strs, List.length_map, List.length_take] at h1 ⊢
    omega
theorem laid_met (os : Os) (args : Array Value) : laidMet Tryd.prog Rows.macLongUptoRow.laid ((World.doorLaid Tryd.prog 400 os).forCall (fun _ _ => 0) ⟨#[], args, []⟩).memory := laidMet_of_run' 8 (by kernel_rfl) (by kernel_rfl)
theorem reads (os : Os) {H : Type} (enc : TypeId × Value → H) : ∃ places, DataW.whole enc Tryd.prog ((World.doorLaid Tryd.prog 400 os).forCall (fun _ _ => 0) ⟨#[], #[.agg #[.slice none 0 0, .slice none 0 0, .slice none 0 0, .slice none 0 0]], []⟩).memory Tryd.f8.params.toList Rows.macLongSpec.vars false #[Value.agg #[.slice none 0 0, .slice none 0 0, .slice none 0 0, .slice none 0 0]].toList 8 = some ([.agg [.nil, .nil, .nil, .nil]], [], places) :=
  ⟨[], by kernel_rfl⟩
set_option maxRecDepth 100000 in
theorem liftedUpto (os : Os) (started : os.Started) (H : Type) (enc : TypeId × Value → H) (F : Stop.Interp) :
    ReturnsInHanded {} Tryd.checked os 8 .any ((Rows.OpenSpec.upto Rows.macLongSpec).preRow enc Tryd.prog Tryd.f8 Rows.macLongUptoRow.domain false Rows.macLongUptoRow.laid) (((Rows.OpenSpec.upto Rows.macLongSpec).at F).post enc Tryd.prog Tryd.f8 false true false false) := by
  obtain ⟨places, hx⟩ := reads os enc
  refine returnsInHanded_of_row (C := Tryd.checked) (s := Rows.OpenSpec.upto Rows.macLongSpec) own started (by kernel_rfl) Tryd.func8
    (witness_row_atRef (enc := enc) (C := Tryd.checked) false (World.doorLaid Tryd.prog 400 os) #[.agg #[.slice none 0 0, .slice none 0 0, .slice none 0 0, .slice none 0 0]] rfl (by kernel_rfl) (by kernel_rfl) (by kernel_rfl)
      (OpenSpec.preRow_of_cond 8 hx (by kernel_rfl) (fun k hk => by cases hk; kernel_rfl) (by kernel_rfl) (laid_met os _))) ?_
  intro W base args ds gs before hval0 hW _ hcond hsz0 hL _ _
  have hval : ∀ (j : Nat) t v, Tryd.f8.params[j]? = some t → args[j]? = some v → Value.okWide Tryd.prog W .any base t v := hval0
  have hsz : (DataW.weightsEach Tryd.prog (Tryd.f8.params.toList ++ Rows.macLongSpec.plain.varTypes Tryd.prog) (ds ++ gs)).all (· ≤ reachBytes) = true := hsz0
  have hW' := hW
  obtain ⟨p, q, hA0, hV, rfl, hfz, hnd⟩ := hW
  have hA : DataW.TrodAll enc Tryd.prog W 0 (fun _ => true) true Tryd.f8.params.toList args.toList ds p := hA0
  rw [Tryd.params8] at hA hval hsz
  obtain ⟨v0, vs0, d0, ds0, p0, q0, hargs, rfl, rfl, h0, r0⟩ := trodAll_cons hA
  obtain ⟨rfl, rfl, rfl⟩ := trodAll_nil r0
  obtain rfl : args = #[v0] := by cases args; simp_all
  obtain ⟨rfl, rfl⟩ := trodVars_none hV
  have k0 := h0
  have lt0 : ∀ x ∈ p0, x.block < W.heap.size := by obtain ⟨m, hm⟩ := k0; exact DataW.trod_lt m _ _ _ hm
  obtain ⟨c0, c1, c2, c3, y0, y1, y2, y3, m, rfl, rfl, rfl, t0, t1, t2, t3⟩ := open_agg4 Tryd.underlying36 (by kernel_rfl) cells36 (hval 0 36 v0 rfl rfl) h0
  have hall : ∀ n ∈ DataW.weightsEach Tryd.prog [22, 22, 30, 30] [y0.1, y1.1, y2.1, y3.1], n ≤ reachBytes := by
    intro n hn
    have h1 := List.all_eq_true.1 hsz n (DataW.weights_mem_each (j := 0) (t := 36) (d := .agg [y0.1, y1.1, y2.1, y3.1]) rfl rfl n (by
      simp only [DataW.weights, Tryd.underlying36]; exact hn))
    simpa using h1
  have hbulk : Rows.uptoBulkAll ([DataW.agg [y0.1, y1.1, y2.1, y3.1]] ++ []) ≤ 1048576 := of_decide_eq_true (hcond _ rfl)
  simp only [List.append_nil, Rows.uptoBulkAll, Rows.uptoBulk] at hbulk
  obtain ⟨aK, nK, kK, lK, rfl, SK, hK1, hK2⟩ := open_bytes t0 (fun n hn => hall n (by simp [DataW.weightsEach, hn]))
  obtain ⟨aM, nM, kM, lM, rfl, SM, hM1, hM2⟩ := open_bytes t1 (fun n hn => hall n (by simp [DataW.weightsEach, hn]))
  obtain ⟨aO, nO, kO, lO, rfl, SO, hO1, hO2⟩ := open_words t2 (fun n hn => hall n (by simp [DataW.weightsEach, hn]))
  obtain ⟨aT, nT, kT, lT, rfl, ST, hT1, hT2⟩ := open_words t3 (fun n hn => hall n (by simp [DataW.weightsEach, hn]))
  have zK := nil_cap t0
  have zM := nil_cap t1
  have zO := nil_capS t2
  have zT := nil_capS t3
  have HK : Kst W := kst_of hL
  have b12 : nO + nT ≤ 1048576 := by have h1 := zO.2; have h2 := zT.2; omega
  clear hA0 hval0 hsz0 hsz hcond
  have hw := long_law W SK zK hK1 SM zM hM1 SO zO.1 ST zT.1 (by omega) (by omega) b12 HK (kst_pos HK)
  refine hw.mono fun e W' ⟨he, bel0⟩ => ?_
  have bel := bel0.out
  subst he
  exact ⟨_, rfl, _, _, _, [], _, [], hW', trodAll_mk1 (shut_bool Tryd.underlying4 _), (trodAll_cons_mk (Below.trod laidOut (by kernel_rfl) (of_decide_eq_true (by kernel_rfl)) k0 bel lt0) trodAll_mk0), rfl, bel.frame _, fun h => by cases h⟩
theorem saidUpto : Rows.MacLongUptoSaid :=
  OpenClaim.holds_of_cond 8 Tryd.f8 rfl rfl rfl rfl rfl rfl rfl ⟨rfl, rfl, rfl, rfl, rfl⟩ rfl rfl rfl rfl rfl (by kernel_rfl) Tryd.func8 (by kernel_rfl)
    (of_decide_eq_true (by kernel_rfl)) (by unfold Func.isWrapper; first | (rw [if_pos (by decide +kernel)]; kernel_rfl) | (rw [if_neg (by decide +kernel)]; exact ⟨rfl, rfl⟩))
    (fun os started H enc _ F => by rw [OpenClaim.pre_eq_preRow]; exact liftedUpto os started H enc F)
theorem plain (f : FuncId) (fn : Func) (hf : Tryd.pinned.checked.prog.funcNamed "bollard/bollardlaw04.MacLong" = some f) (hfn : Tryd.pinned.checked.prog.funcs[f]? = some fn) :
    false = Tryd.pinned.checked.prog.looks [] ∧ ∀ (j : Nat) t, fn.params[j]? = some t → Tryd.pinned.checked.prog.wantsStandIn t = false := by
  obtain rfl : f = 8 := Option.some.inj ((show Tryd.prog.funcNamed "bollard/bollardlaw04.MacLong" = some 8 by kernel_rfl).symm.trans hf) |>.symm
  obtain rfl : fn = Tryd.f8 := (Option.some.inj (Tryd.func8.symm.trans hfn)).symm
  refine ⟨by kernel_rfl, fun j t ht => ?_⟩
  rw [Tryd.params8] at ht
  have hm : t ∈ [36] := by simpa using Array.mem_of_getElem? ht
  have hall : ([36].all fun u => !Tryd.prog.wantsStandIn u) = true := by kernel_rfl
  exact (show Tryd.prog.wantsStandIn t = false by simpa using List.all_eq_true.1 hall t hm)
theorem cardUpto : Rows.MacLongUptoCardSaid :=
  Claim7.holds_tied_plain_at .later [] _ _ _ _ saidUpto (fun _ h => by cases h) (by kernel_rfl) (fun _ h => by cases h) macLongUpto_row_tie rfl ⟨rfl, rfl⟩ (by kernel_rfl) rfl plain (by kernel_rfl)
end Go.Proofs.YthkoidfjmbfoiaaDoor.macLong
namespace Go.Proofs.YthkoidfjmbfoiaaDoor
theorem macLong_holds : Rows.MacLongUptoCardSaid := macLong.cardUpto
#print axioms macLong_holds
end Go.Proofs.YthkoidfjmbfoiaaDoor
