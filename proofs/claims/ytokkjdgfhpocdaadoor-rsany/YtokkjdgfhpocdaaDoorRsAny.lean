/- For all numbers and lists the Go function RsAny (any k shards of a blob give its bytes back, and every shard) returns true and leaves its argument as it was. Condition: the error variables hold what the program's text lays (tied by the card). -/
import Derived.Test.YtokkjdgfhpocdaaDoorCards
import Derived.Test.YtokkjdgfhpocdaaDoorTie
import Derived.Test.YtokkjdgfhpocdaaDoorGb
import Derived.Test.YtokkjdgfhpocdaaDoorWm
import Derived.Test.YtokkjdgfhpocdaaDoorFo
namespace Go.Proofs.YtokkjdgfhpocdaaDoor.rsAny
open Go.ChangeShapes Go.WideShapes Go.ChangeAt Go.RowKit Go.Joins
set_option linter.unusedVariables false
theorem own : ownKnob Tryd.prog.godebug = none := by kernel_rfl
theorem laidOut : laidOutB Tryd.prog = true := by kernel_rfl
theorem cells58 : Tryd.prog.cellsOf 58 = 5 := by kernel_rfl
theorem door_met (os : Os) (args : Array Value) : laidMetH Tryd.prog Rows.rsAnyRow.laid ((World.doorLaid Tryd.prog 400 os).forCall (fun _ _ => 0) ⟨#[], args, []⟩).memory :=
  laidMetH_of_parts3 (fuel := 8) (laidMet_of_run' 8 (by kernel_rfl) (by kernel_rfl)) (by kernel_rfl) (by kernel_rfl)
set_option maxRecDepth 100000 in
theorem lifted (os : Os) (started : os.Started) (H : Type) (enc : TypeId × Value → H) :
    ReturnsInHanded {} Tryd.checked os 6 .any (fun w args => (Rows.rsAnySpec.pre enc Tryd.prog Tryd.f6 [] false w args ∧ laidMetH Tryd.prog Rows.rsAnyRow.laid w) ∧ sizedMet enc Tryd.prog Tryd.f6 (OpenSpec.ofChange Rows.rsAnySpec) false w args)
      (Rows.rsAnySpec.post enc Tryd.prog Tryd.f6 false true false false) := by
  refine returnsInHanded_of_change_and (C := Tryd.checked) (X := fun w _ => laidMetH Tryd.prog Rows.rsAnyRow.laid w) (fun _ _ _ hh h => h.of_heap hh) own started (by kernel_rfl) Tryd.func6
    (ChangeSpec.witness_shaped (enc := enc) (C := Tryd.checked) (os := os) (X := fun w _ => laidMetH Tryd.prog Rows.rsAnyRow.laid w) false (World.doorLaid Tryd.prog 400 os) #[.agg #[.int .i64 0, .int .i64 0, .slice none 0 0, .slice none 0 0, .slice none 0 0]] 8 rfl (World.shaped_of_RefB (by kernel_rfl) (by kernel_rfl)) (by kernel_rfl) (by kernel_rfl) (by kernel_rfl) (door_met os _)) ?_
  intro W base args ds gs before hval0 hW _ hsz0 hL _
  have hval : ∀ (j : Nat) t v, Tryd.f6.params[j]? = some t → args[j]? = some v → Value.okWide Tryd.prog W .any base t v := hval0
  have hsz : (DataW.weightsEach Tryd.prog (Tryd.f6.params.toList ++ Rows.rsAnySpec.plain.varTypes Tryd.prog) (ds ++ gs)).all (· ≤ reachBytes) = true := hsz0
  have hW' := hW
  obtain ⟨p, q, hA0, hV, rfl, hfz, hnd⟩ := hW
  have hA : DataW.TrodAll enc Tryd.prog W 0 (fun _ => true) true Tryd.f6.params.toList args.toList ds p := hA0
  rw [Tryd.params6] at hA hval hsz
  obtain ⟨v0, vs0, d0, ds0, p0, q0, hargs, rfl, rfl, h0, r0⟩ := trodAll_cons hA
  obtain ⟨rfl, rfl, rfl⟩ := trodAll_nil r0
  obtain rfl : args = #[v0] := by cases args; simp_all
  obtain ⟨rfl, rfl⟩ := trodVars_none hV
  have k0 := h0
  have lt0 : ∀ x ∈ p0, x.block < W.heap.size := by obtain ⟨m, hm⟩ := k0; exact DataW.trod_lt m _ _ _ hm
  obtain ⟨c0, c1, c2, c3, c4, y0, y1, y2, y3, y4, m, rfl, rfl, rfl, t0, t1, t2, t3, t4⟩ := open5 Tryd.underlying58 (by kernel_rfl) cells58 (hval 0 58 v0 rfl rfl) h0
  have hall : ∀ n ∈ DataW.weightsEach Tryd.prog [3, 3, 33, 33, 56] [y0.1, y1.1, y2.1, y3.1, y4.1], n ≤ reachBytes := by
    intro n hn
    have h1 := List.all_eq_true.1 hsz n (DataW.weights_mem_each (j := 0) (t := 58) (d := .agg [y0.1, y1.1, y2.1, y3.1, y4.1]) rfl rfl n (by
      simp only [DataW.weights, Tryd.underlying58]; exact hn))
    simpa using h1
  obtain ⟨k, e0, _, wk⟩ := DataW.trod_int Tryd.underlying3 t0
  obtain ⟨mm, e1, _, wm⟩ := DataW.trod_int Tryd.underlying3 t1
  simp at e0 e1
  subst e0
  subst e1
  obtain ⟨aA, nA, kA, lA, rfl, SA, hA1, hA2⟩ := open_bytes t2 (fun n hn => hall n (by simp [DataW.weightsEach, hn]))
  obtain ⟨aB, nB, kB, lB, rfl, SB, hB1, hB2⟩ := open_bytes t3 (fun n hn => hall n (by simp [DataW.weightsEach, hn]))
  obtain ⟨aP, nP, kP, rfl, SP, hP1⟩ : ∃ aP nP kP, c4 = .slice aP nP kP ∧ Hid (Pks W aP nP) ∧ nP ≤ 9223372036854775807 := by
    rcases open_ints Tryd.underlying56 Tryd.underlying3 cells3 t4 with ⟨hcs, _⟩ | ⟨x, n, k, zs, hcs, _, hl, hm, hz, _, hcell, _⟩
    · simp at hcs; exact ⟨_, _, _, hcs, .inl rfl, by omega⟩
    · simp at hcs
      have hz : zs.length = k := by simpa using hz
      refine ⟨_, _, _, hcs, ?_, by unfold maxLen at hm; omega⟩
      by_cases h0 : n = 0
      · exact .inl h0
      · right
        obtain ⟨b, off, spot⟩ := x
        have hc := hcell 0 (by omega)
        have hspot : spot = none := by simpa [Addr.add] using World.cell?_spot hc
        subst hspot
        refine ⟨b, off, rfl, fun i hi => ⟨zs.getD i 0, ?_⟩⟩
        have h1 := hcell i (by omega)
        have h2 : (⟨b, off, none⟩ : Addr).add i = ⟨b, off + i, none⟩ := by simp [Addr.add]
        rw [h2] at h1
        exact h1
  clear hA0 hval0 hsz0 hsz
  have hw : Calls Tryd.prog 6 #[.agg #[.int .i64 k, .int .i64 mm, .slice aA nA kA, .slice aB nB kB, .slice aP nP kP]] W fun e w' => e = .returned (.bool true) ∧ Hid (Below W.heap.size W w') := by
    by_cases hLg : Lgl k mm
    · have hL2 := hLg
      unfold Lgl at hL2
      obtain ⟨k', rfl⟩ : ∃ k' : Nat, k = (k' : Int) := ⟨k.toNat, by omega⟩
      obtain ⟨m', rfl⟩ : ∃ m' : Nat, mm = (m' : Int) := ⟨mm.toNat, by omega⟩
      by_cases hn : nA ≤ 1024
      · exact any_legal k' m' nA kA nB kB nP kP aA aB aP lA W (by omega) (by omega) (by omega) hn SA hA1 hA2 SP hP1
      · exact any_long k' m' nA kA nB kB nP kP aA aB aP W (by omega) (by omega) (by omega) hn
    · exact any_not k mm nA kA nB kB nP kP aA aB aP W wk wm hLg
  refine hw.mono fun e W' ⟨he, bel0⟩ => ?_
  have bel := bel0.out
  subst he
  exact ⟨_, rfl, _, _, _, [], _, [], hW', trodAll_mk1 (shut_bool Tryd.underlying4 _), (trodAll_cons_mk (Below.trod laidOut (by kernel_rfl) (of_decide_eq_true (by kernel_rfl)) k0 bel lt0) trodAll_mk0), rfl, bel.frame _, fun h => by cases h⟩
theorem said : Rows.RsAnySaid :=
  OpenClaim.holds_of_wide 6 Tryd.f6 rfl rfl rfl rfl rfl rfl rfl ⟨rfl, rfl, rfl, rfl, rfl⟩ rfl rfl rfl rfl rfl (by kernel_rfl) Tryd.func6 (by kernel_rfl)
    (of_decide_eq_true (by kernel_rfl)) (by unfold Func.isWrapper; first | (rw [if_pos (by decide +kernel)]; kernel_rfl) | (rw [if_neg (by decide +kernel)]; exact ⟨rfl, rfl⟩))
    (fun os started H enc _ => lifted os started H enc)
theorem plain (f : FuncId) (fn : Func) (hf : Tryd.pinned.checked.prog.funcNamed "bollard/bollardlaw02.RsAny" = some f) (hfn : Tryd.pinned.checked.prog.funcs[f]? = some fn) :
    true = Tryd.pinned.checked.prog.looks [] ∧ ∀ (j : Nat) t, fn.params[j]? = some t → Tryd.pinned.checked.prog.wantsStandIn t = false := by
  obtain rfl : f = 6 := Option.some.inj ((show Tryd.prog.funcNamed "bollard/bollardlaw02.RsAny" = some 6 by kernel_rfl).symm.trans hf) |>.symm
  obtain rfl : fn = Tryd.f6 := (Option.some.inj (Tryd.func6.symm.trans hfn)).symm
  refine ⟨by kernel_rfl, fun j t ht => ?_⟩
  rw [Tryd.params6] at ht
  have hm : t ∈ [58] := by simpa using Array.mem_of_getElem? ht
  have hall : ([58].all fun u => !Tryd.prog.wantsStandIn u) = true := by kernel_rfl
  exact (show Tryd.prog.wantsStandIn t = false by simpa using List.all_eq_true.1 hall t hm)
theorem card : Rows.RsAnyCardSaid :=
  Claim7.holds_tied_plain_at .later [] _ _ _ _ said (fun _ h => by cases h) (by kernel_rfl) (fun _ h => by cases h) rsAny_row_tie rfl ⟨rfl, rfl⟩ (by kernel_rfl) rfl plain (by kernel_rfl)
end Go.Proofs.YtokkjdgfhpocdaaDoor.rsAny
namespace Go.Proofs.YtokkjdgfhpocdaaDoor
theorem rsAny_holds : Rows.RsAnyCardSaid := rsAny.card
#print axioms rsAny_holds
end Go.Proofs.YtokkjdgfhpocdaaDoor
