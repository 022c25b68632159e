/- For all numbers and lists of shards the Go function RsFew (one shard too few, one twice and one too long are refused by Decode; the list itself is not) returns true and leaves its arguments as they were. Condition: the error variables hold what the program's text lays (tied by the card). -/
import Derived.Test.YtokkjdgfhpocdaaDoorCards
import Derived.Test.YtokkjdgfhpocdaaDoorTie
import Derived.Test.YtokkjdgfhpocdaaDoorGj
import Derived.Test.YtokkjdgfhpocdaaDoorGi
import Derived.Test.YtokkjdgfhpocdaaDoorWm
import Derived.Test.YtokkjdgfhpocdaaDoorFo
namespace Go.Proofs.YtokkjdgfhpocdaaDoor.rsFew
open Go.ChangeShapes Go.WideShapes Go.ChangeAt Go.RowKit Go.Joins
set_option linter.unusedVariables false
theorem own : ownKnob Tryd.prog.godebug = none := by kernel_rfl
theorem laidOut : laidOutB Tryd.prog = true := by kernel_rfl
theorem cells45 : Tryd.prog.cellsOf 45 = 5 := by kernel_rfl
def names : List (String × Nat × List UInt8) := [("bollard/api.ErrParams", 0, [98, 111, 108, 108, 97, 114, 100, 58, 32, 112, 97, 114, 97, 109, 115]), ("bollard/api.ErrNumber", 2, [98, 111, 108, 108, 97, 114, 100, 58, 32, 110, 117, 109, 98, 101, 114]), ("bollard/api.ErrData", 1, [98, 111, 108, 108, 97, 114, 100, 58, 32, 100, 97, 116, 97]), ("bollard/api.ErrLarge", 3, [98, 111, 108, 108, 97, 114, 100, 58, 32, 108, 97, 114, 103, 101])]
theorem door_met (os : Os) (args : Array Value) : laidMetH Tryd.prog Rows.rsFewRow.laid ((World.doorLaid Tryd.prog 400 os).forCall (fun _ _ => 0) ⟨#[], args, []⟩).memory :=
  laidMetH_of_parts3 (fuel := 8) (laidMet_of_run' 8 (by kernel_rfl) (by kernel_rfl)) (by kernel_rfl) (by kernel_rfl)
theorem globs : ∀ v ∈ names, Tryd.prog.globalNamed v.1 = some v.2.1 ∧ (Tryd.prog.globals[v.2.1]?).map (·.type) = some 24 := by
  have h : (names.all fun v => (Tryd.prog.globalNamed v.1 == some v.2.1) && ((Tryd.prog.globals[v.2.1]?).map (·.type) == some 24)) = true := by kernel_rfl
  intro v hv
  have h2 := List.all_eq_true.1 h v hv
  simpa using h2
theorem sents {W : World} (h : laidMetH Tryd.prog Rows.rsFewRow.laid W) : ∃ E, Sent W 4 E :=
  sent_of names rfl (by kernel_rfl) globs (by decide) (by
    intro g hg
    have h : ∀ g, g < 4 → ∃ v ∈ names, v.2.1 = g := by decide
    exact h g hg) h
set_option maxRecDepth 100000 in
theorem lifted (os : Os) (started : os.Started) (H : Type) (enc : TypeId × Value → H) :
    ReturnsInHanded {} Tryd.checked os 8 .any (fun w args => (Rows.rsFewSpec.pre enc Tryd.prog Tryd.f8 [] false w args ∧ laidMetH Tryd.prog Rows.rsFewRow.laid w) ∧ sizedMet enc Tryd.prog Tryd.f8 (OpenSpec.ofChange Rows.rsFewSpec) false w args)
      (Rows.rsFewSpec.post enc Tryd.prog Tryd.f8 false true false false) := by
  refine returnsInHanded_of_change_and (C := Tryd.checked) (X := fun w _ => laidMetH Tryd.prog Rows.rsFewRow.laid w) (fun _ _ _ hh h => h.of_heap hh) own started (by kernel_rfl) Tryd.func8
    (ChangeSpec.witness_shaped (enc := enc) (C := Tryd.checked) (os := os) (X := fun w _ => laidMetH Tryd.prog Rows.rsFewRow.laid w) false (World.doorLaid Tryd.prog 400 os) #[.agg #[.int .i64 0, .int .i64 0, .int .i64 0, .int .i64 0, .slice none 0 0], .int .i64 0] 8 rfl (World.shaped_of_RefB (by kernel_rfl) (by kernel_rfl)) (by kernel_rfl) (by kernel_rfl) (by kernel_rfl) (door_met os _)) ?_
  intro W base args ds gs before hval0 hW _ hsz0 hL _
  have hval : ∀ (j : Nat) t v, Tryd.f8.params[j]? = some t → args[j]? = some v → Value.okWide Tryd.prog W .any base t v := hval0
  have hsz : (DataW.weightsEach Tryd.prog (Tryd.f8.params.toList ++ Rows.rsFewSpec.plain.varTypes Tryd.prog) (ds ++ gs)).all (· ≤ reachBytes) = true := hsz0
  have hW' := hW
  obtain ⟨p, q, hA0, hV, rfl, hfz, hnd⟩ := hW
  have hA : DataW.TrodAll enc Tryd.prog W 0 (fun _ => true) true Tryd.f8.params.toList args.toList ds p := hA0
  rw [Tryd.params8] at hA hval hsz
  obtain ⟨v0, vs0, d0, ds0, p0, q0, hargs, rfl, rfl, h0, r0⟩ := trodAll_cons hA
  obtain ⟨v1, vs1, d1, ds1, p1, q1, rfl, rfl, rfl, h1, r1⟩ := trodAll_cons r0
  obtain ⟨rfl, rfl, rfl⟩ := trodAll_nil r1
  obtain rfl : args = #[v0, v1] := by cases args; simp_all
  obtain ⟨rfl, rfl⟩ := trodVars_none hV
  have k0 := h0
  have lt0 : ∀ x ∈ p0, x.block < W.heap.size := by obtain ⟨m, hm⟩ := k0; exact DataW.trod_lt m _ _ _ hm
  obtain ⟨dr, rfl, rfl, rfl, wdr⟩ := open_int Tryd.underlying3 (hval 1 3 v1 rfl rfl) h1
  obtain ⟨c0, c1, c2, c3, c4, y0, y1, y2, y3, y4, m, rfl, rfl, rfl, t0, t1, t2, t3, t4⟩ := open5 Tryd.underlying45 (by kernel_rfl) cells45 (hval 0 45 v0 rfl rfl) h0
  have hall : ∀ n ∈ DataW.weightsEach Tryd.prog [3, 3, 3, 3, 43] [y0.1, y1.1, y2.1, y3.1, y4.1], n ≤ reachBytes := by
    intro n hn
    have h1 := List.all_eq_true.1 hsz n (DataW.weights_mem_each (j := 0) (t := 45) (d := .agg [y0.1, y1.1, y2.1, y3.1, y4.1]) rfl rfl n (by
      simp only [DataW.weights, Tryd.underlying45]; exact hn))
    simpa using h1
  obtain ⟨k, e0, _, wk⟩ := DataW.trod_int Tryd.underlying3 t0
  obtain ⟨mm, e1, _, wm⟩ := DataW.trod_int Tryd.underlying3 t1
  obtain ⟨nn, e2, _, wn⟩ := DataW.trod_int Tryd.underlying3 t2
  obtain ⟨num, e3, _, wnum⟩ := DataW.trod_int Tryd.underlying3 t3
  simp at e0 e1 e2 e3
  subst e0
  subst e1
  subst e2
  subst e3
  obtain ⟨a, nl, c, L, rfl, SH, hc1, hc2⟩ := open_shards t4 (fun n hn => hall n (by simp [DataW.weightsEach, hn]))
  obtain ⟨E, hS⟩ := sents hL
  clear hA0 hval0 hsz0 hsz
  have hw : Calls Tryd.prog 8 #[.agg #[.int .i64 k, .int .i64 mm, .int .i64 nn, .int .i64 num, .slice a nl c], .int .i64 dr] W fun e w' => e = .returned (.bool true) ∧ Hid (Below W.heap.size W w') := by
    by_cases hLg : Lgl k mm
    · have hL2 := hLg
      unfold Lgl at hL2
      obtain ⟨k', rfl⟩ : ∃ k' : Nat, k = (k' : Int) := ⟨k.toNat, by omega⟩
      obtain ⟨m', rfl⟩ : ∃ m' : Nat, mm = (m' : Int) := ⟨mm.toNat, by omega⟩
      by_cases hn0 : nn < 0
      · exact few_num k' m' nn num dr 2 nl c a W wk wm wn (.inr (.inl ⟨hLg, hn0, rfl⟩))
      · by_cases hn1 : 1024 < nn
        · exact few_num k' m' nn num dr 11 nl c a W wk wm wn (.inr (.inr ⟨hLg, hn1, rfl⟩))
        · obtain ⟨n', rfl⟩ : ∃ n' : Nat, nn = (n' : Int) := ⟨nn.toNat, by omega⟩
          by_cases hg : nl = k' ∧ GoodL (k' + m') (sz k' n') L
          · obtain ⟨rfl, hg⟩ := hg
            by_cases hk2 : nl < 2
            · exact few_one nl m' n' c num dr a L W (by omega) (by omega) (by omega) (by omega) hk2 SH hg
            · obtain ⟨b, off, rfl, S2⟩ : ∃ b off, a = some ⟨b, off, none⟩ ∧ Shd W (some ⟨b, off, none⟩) nl L := by
                rcases SH.out.at_ with h0 | ⟨b, off, h1, _⟩
                · omega
                · exact ⟨b, off, h1, h1 ▸ SH.out⟩
              obtain ⟨T, hT1, hT2, hT3, hT4⟩ := lie_of S2 (by omega)
              exact few_ok nl m' n' c b off num dr T W (by omega) (by omega) (by omega) (by omega) (by omega) hc1 hc2 hT4 hT3 hT2 (by rw [hT1]; exact hg) E hS
          · exact few_not k' m' n' nl c num dr a L W (by omega) (by omega) (by omega) (by omega) SH hg
    · exact few_num k mm nn num dr 1 nl c a W wk wm wn (.inl ⟨hLg, rfl⟩)
  refine hw.mono fun e W' ⟨he, bel0⟩ => ?_
  have bel := bel0.out
  subst he
  exact ⟨_, rfl, _, _, _, [], _, [], hW', trodAll_mk1 (shut_bool Tryd.underlying4 _), (trodAll_cons_mk (Below.trod laidOut (by kernel_rfl) (of_decide_eq_true (by kernel_rfl)) k0 bel lt0) (trodAll_cons_mk (shut_int Tryd.underlying3 wdr) trodAll_mk0)), rfl, bel.frame _, fun h => by cases h⟩
theorem said : Rows.RsFewSaid :=
  OpenClaim.holds_of_wide 8 Tryd.f8 rfl rfl rfl rfl rfl rfl rfl ⟨rfl, rfl, rfl, rfl, rfl⟩ rfl rfl rfl rfl rfl (by kernel_rfl) Tryd.func8 (by kernel_rfl)
    (of_decide_eq_true (by kernel_rfl)) (by unfold Func.isWrapper; first | (rw [if_pos (by decide +kernel)]; kernel_rfl) | (rw [if_neg (by decide +kernel)]; exact ⟨rfl, rfl⟩))
    (fun os started H enc _ => lifted os started H enc)
theorem plain (f : FuncId) (fn : Func) (hf : Tryd.pinned.checked.prog.funcNamed "bollard/bollardlaw02.RsFew" = some f) (hfn : Tryd.pinned.checked.prog.funcs[f]? = some fn) :
    true = Tryd.pinned.checked.prog.looks [] ∧ ∀ (j : Nat) t, fn.params[j]? = some t → Tryd.pinned.checked.prog.wantsStandIn t = false := by
  obtain rfl : f = 8 := Option.some.inj ((show Tryd.prog.funcNamed "bollard/bollardlaw02.RsFew" = some 8 by kernel_rfl).symm.trans hf) |>.symm
  obtain rfl : fn = Tryd.f8 := (Option.some.inj (Tryd.func8.symm.trans hfn)).symm
  refine ⟨by kernel_rfl, fun j t ht => ?_⟩
  rw [Tryd.params8] at ht
  have hm : t ∈ [45, 3] := by simpa using Array.mem_of_getElem? ht
  have hall : ([45, 3].all fun u => !Tryd.prog.wantsStandIn u) = true := by kernel_rfl
  exact (show Tryd.prog.wantsStandIn t = false by simpa using List.all_eq_true.1 hall t hm)
theorem card : Rows.RsFewCardSaid :=
  Claim7.holds_tied_plain_at .later [] _ _ _ _ said (fun _ h => by cases h) (by kernel_rfl) (fun _ h => by cases h) rsFew_row_tie rfl ⟨rfl, rfl⟩ (by kernel_rfl) rfl plain (by kernel_rfl)
end Go.Proofs.YtokkjdgfhpocdaaDoor.rsFew
namespace Go.Proofs.YtokkjdgfhpocdaaDoor
theorem rsFew_holds : Rows.RsFewCardSaid := rsFew.card
#print axioms rsFew_holds
end Go.Proofs.YtokkjdgfhpocdaaDoor
