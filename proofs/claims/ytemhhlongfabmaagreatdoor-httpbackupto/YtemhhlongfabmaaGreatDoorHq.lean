/- What a row of this seat lists, taken apart: a table and the errors; the library's own bound. -/
import Derived.Test.YtemhhlongfabmaaGreatDoorRows
import Derived.Test.YtemhhlongfabmaaGreatDoorHp
import Derived.Lib.LaidTab
namespace Go.Proofs.YtemhhlongfabmaaGreatDoor
open Go.ChangeShapes Go.WideShapes Go.ChangeAt Go.RowKit
set_option maxRecDepth 20000
set_option linter.unusedVariables false
set_option linter.unusedSimpArgs false
theorem laidVars_app {P : Program} {W : World} {B : List (String × DataW Unit)} : ∀ (A : List (String × DataW Unit)) (ps : List MemPlace), DataW.LaidVars P W (A ++ B) ps → ∃ p1 p2, DataW.LaidVars P W A p1 ∧ DataW.LaidVars P W B p2 ∧ ps = p1 ++ p2
  | [], ps, h => ⟨[], ps, rfl, h, rfl⟩
  | x :: A, ps, h => by
    obtain ⟨g, t, cs, fuel, p, q, h1, h2, h3, h4, h5, h6⟩ := h
    obtain ⟨p1, p2, k1, k2, rfl⟩ := laidVars_app A q h5
    exact ⟨_, p2, ⟨g, t, cs, fuel, p, p1, h1, h2, h3, h4, k1, rfl⟩, k2, by rw [h6]; simp only [List.append_assoc]⟩
theorem laidMet_app {P : Program} {W : World} {A B : List (String × DataW Unit)} (h : laidMet P (A ++ B) W) : laidMet P A W ∧ laidMet P B W := by
  obtain ⟨ps, h1, h2, h3⟩ := h
  obtain ⟨p1, p2, k1, k2, rfl⟩ := laidVars_app A ps h1
  have n := List.nodup_append.1 h2
  exact ⟨⟨p1, k1, n.1, fun b off hm => h3 b off (List.mem_append_left _ hm)⟩, ⟨p2, k2, n.2.1, fun b off hm => h3 b off (List.mem_append_right _ hm)⟩⟩
theorem datumT : (Rows.laid_internal_strconv_uint64pow10 : DataW Unit) = Lib.tabData .u64 Lib.pow10Tab := by rfl
theorem tab_of {W : World} (h : laidMet Tryz.prog [("internal/strconv.uint64pow10", Rows.laid_internal_strconv_uint64pow10)] W) : Tab W := by
  rw [datumT] at h
  exact Lib.tabIs_of_head (g := 19) (t := 123) (e := 108) (n := 20) (by kernel_rfl) (by kernel_rfl) Tryz.underlying123 Tryz.underlying108 (by kernel_rfl) (by kernel_rfl) h
theorem sent_of2 {W : World} {M : Nat → Prop} (l : List (String × Nat × List UInt8)) (hg : ∀ v ∈ l, Tryz.prog.globalNamed v.1 = some v.2.1 ∧ (Tryz.prog.globals[v.2.1]?).map (·.type) = some 29)
    (hnd : (l.map (·.2.1)).Nodup) (hM : ∀ g, M g → ∃ v ∈ l, v.2.1 = g) (h : laidMet Tryz.prog (named l) W) : ∃ E, Sent W M E := by
  obtain ⟨ps, h1, h2, h3⟩ := h
  obtain ⟨E, hE⟩ := sent_ind l ps hg hnd h1 h2 (fun b off hm => (h3 b off hm).2)
  refine ⟨E, fun g hg => ?_, fun g hg => ?_, fun g g' hg hg' hne => ?_⟩
  · obtain ⟨v, hv, rfl⟩ := hM g hg
    exact (hE v hv).1
  · obtain ⟨v, hv, rfl⟩ := hM g hg
    obtain ⟨cs, t, h4⟩ := (h3 _ _ (hE v hv).2.1).1
    exact ⟨cs, t, h4⟩
  · obtain ⟨v, hv, rfl⟩ := hM g hg
    obtain ⟨v', hv', rfl⟩ := hM g' hg'
    exact (hE v hv).2.2 v' hv' hne
theorem env_of {W : World} {M : Nat → Prop} {laid : List (String × DataW Unit)} (XX X2 ZZ : List (String × DataW Unit)) (l : List (String × Nat × List UInt8))
    (hl : laid = XX ++ ([("internal/strconv.uint64pow10", Rows.laid_internal_strconv_uint64pow10)] ++ (X2 ++ (named l ++ ZZ))))
    (hp : laid.all (fun x => x.2.handleName?.isNone) = true) (hg : ∀ v ∈ l, Tryz.prog.globalNamed v.1 = some v.2.1 ∧ (Tryz.prog.globals[v.2.1]?).map (·.type) = some 29)
    (hnd : (l.map (·.2.1)).Nodup) (hM : ∀ g, M g → ∃ v ∈ l, v.2.1 = g) (h : laidMetH Tryz.prog laid W) : Tab W ∧ ∃ E, Sent W M E := by
  rw [MakeChecks.laidMetH_plain _ _ _ hp, hl] at h
  have h1 := (laidMet_app h).2
  have h3 := laidMet_app h1
  have h4 := (laidMet_app h3.2).2
  have h5 := laidMet_app h4
  exact ⟨tab_of h3.1, sent_of2 (M := M) l hg hnd hM h5.1⟩
theorem types3 : Tryz.prog.cellTypes Tryz.prog.depth 3 = some [3] := by kernel_rfl
theorem mx_of {W : World} (h : W.ShapedOpen Tryz.prog) : Mx W := by
  obtain ⟨cs, hh, hs, hr⟩ := h.1 18 #[.int .i64 0] 3 (of_decide_eq_true (by kernel_rfl)) (by kernel_rfl)
  obtain ⟨ts, hts, _, hall⟩ := hr (by kernel_rfl)
  rw [types3] at hts
  obtain rfl := Option.some.inj hts
  have h1 : 0 < cs.size := by rw [hs]; decide
  obtain ⟨u, hu, hok⟩ := hall 0 cs[0] (by simp [h1])
  have hu' : u = 3 := by simpa using hu.symm
  subst hu'
  have hx : ∃ m, cs[0] = .int .i64 m := by
    generalize cs[0] = v at hok
    simp only [Cell.ok, Tryz.underlying3] at hok
    cases v <;> simp_all
  obtain ⟨m, hm⟩ := hx
  exact ⟨m, by simp [World.cell?, hh, h1, hm]⟩
end Go.Proofs.YtemhhlongfabmaaGreatDoor
