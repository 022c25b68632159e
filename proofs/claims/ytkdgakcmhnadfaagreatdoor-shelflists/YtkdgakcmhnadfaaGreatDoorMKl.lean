import Derived.Test.YtkdgakcmhnadfaaGreatDoorRows
import Derived.Test.YtkdgakcmhnadfaaGreatDoorMKc
import Derived.Lib.LaidTab
/- Kl -/
/- What a row of this seat lists, taken apart: tables, the constants, the errors, the greatest numbers. -/
namespace Go.Proofs.YtkdgakcmhnadfaaGreatDoor
open Go.ChangeShapes Go.WideShapes Go.ChangeAt Go.RowKit
set_option maxRecDepth 20000
set_option linter.unusedVariables false
set_option linter.unusedSimpArgs false
theorem laidVars_app {P : Program} {W : World} {B : List (String × DataW Unit)} : ∀ (A : List (String × DataW Unit)) (ps : List MemPlace), DataW.LaidVars P W (A ++ B) ps → ∃ p1 p2, DataW.LaidVars P W A p1 ∧ DataW.LaidVars P W B p2 ∧ ps = p1 ++ p2
  | [], ps, h => ⟨[], ps, rfl, h, rfl⟩
  | x :: A, ps, h => by
    obtain ⟨g, t, cs, fuel, p, q, h1, h2, h3, h4, h5, h6⟩ := h
    obtain ⟨p1, p2, k1, k2, rfl⟩ := laidVars_app A q h5
    exact ⟨_, p2, ⟨g, t, cs, fuel, p, p1, h1, h2, h3, h4, k1, rfl⟩, k2, by rw [h6]; simp only [List.append_assoc]⟩
theorem laidMet_app {P : Program} {W : World} {A B : List (String × DataW Unit)} (h : laidMet P (A ++ B) W) : laidMet P A W ∧ laidMet P B W := by
  obtain ⟨ps, h1, h2, h3⟩ := h
  obtain ⟨p1, p2, k1, k2, rfl⟩ := laidVars_app A ps h1
  have n := List.nodup_append.1 h2
  exact ⟨⟨p1, k1, n.1, fun b off hm => h3 b off (List.mem_append_left _ hm)⟩, ⟨p2, k2, n.2.1, fun b off hm => h3 b off (List.mem_append_right _ hm)⟩⟩
theorem datumM : (Rows.laid_bollard_frame_most : DataW Unit) = Lib.tabData .i64 mostL := by rfl
theorem mst_of {W : World} (h : laidMet Tryz.prog [("bollard/frame.most", Rows.laid_bollard_frame_most)] W) : Mst W := by
  rw [datumM] at h
  have T := Lib.tabIs_of_head (g := 18) (t := 138) (e := 3) (n := 7) (by kernel_rfl) (by kernel_rfl) Tryz.underlying138 Tryz.underlying3 (by kernel_rfl) (by kernel_rfl) h
  intro i hi
  exact T.cell (g := 18) (by kernel_rfl) i hi
theorem datumK : (Rows.laid_bollard_sha_constants : DataW Unit) = Lib.tabData .u32 (Gs.K.map fun x : Nat => (x : Int)) := by rfl
theorem kst_of {W : World} (h : laidMet Tryz.prog [("bollard/sha.constants", Rows.laid_bollard_sha_constants)] W) : Kst W := by
  rw [datumK] at h
  have T := Lib.tabIs_of_head (g := 21) (t := 261) (e := 131) (n := 64) (by kernel_rfl) (by kernel_rfl) Tryz.underlying261 Tryz.underlying131 (by kernel_rfl) (by kernel_rfl) h
  intro i hi
  have c := T.cell (g := 21) (by kernel_rfl) i (by rw [List.length_map]; exact hi)
  rw [c]
  have hk : i < Gs.K.length := hi
  have e : (Gs.K.map fun x : Nat => (x : Int)).getD i 0 = ((Gs.K.getD i 0 : Nat) : Int) := by
    simp [List.getD, List.getElem?_map, List.getElem?_eq_getElem hk]
  rw [e]
theorem datumT : (Rows.laid_internal_strconv_uint64pow10 : DataW Unit) = Lib.tabData .u64 Lib.pow10Tab := by rfl
theorem tab_of {W : World} (h : laidMet Tryz.prog [("internal/strconv.uint64pow10", Rows.laid_internal_strconv_uint64pow10)] W) : Tab W := by
  rw [datumT] at h
  exact Lib.tabIs_of_head (g := 23) (t := 278) (e := 171) (n := 20) (by kernel_rfl) (by kernel_rfl) Tryz.underlying278 Tryz.underlying171 (by kernel_rfl) (by kernel_rfl) h
theorem sent_of2 {W : World} {M : Nat} (l : List (String × Nat × List UInt8)) (hg : ∀ v ∈ l, Tryz.prog.globalNamed v.1 = some v.2.1 ∧ (Tryz.prog.globals[v.2.1]?).map (·.type) = some 26)
    (hnd : (l.map (·.2.1)).Nodup) (hM : ∀ g, In M g → ∃ v ∈ l, v.2.1 = g) (h : laidMet Tryz.prog (named l) W) : ∃ E, Sent W M E := by
  obtain ⟨ps, h1, h2, h3⟩ := h
  obtain ⟨E, hE⟩ := sent_ind l ps hg hnd h1 h2 (fun b off hm => (h3 b off hm).2)
  refine ⟨E, fun g hg => ?_, fun g hg => ?_, fun g g' hg hg' hne => ?_⟩
  · obtain ⟨v, hv, rfl⟩ := hM g hg
    exact (hE v hv).1
  · obtain ⟨v, hv, rfl⟩ := hM g hg
    obtain ⟨cs, t, h4⟩ := (h3 _ _ (hE v hv).2.1).1
    exact ⟨cs, t, h4⟩
  · obtain ⟨v, hv, rfl⟩ := hM g hg
    obtain ⟨v', hv', rfl⟩ := hM g' hg'
    exact (hE v hv).2.2 v' hv' hne
theorem env_of {W : World} {M : Nat} {laid : List (String × DataW Unit)} (XX X2 Z1 ZZ : List (String × DataW Unit)) (l : List (String × Nat × List UInt8))
    (hl : laid = XX ++ ([("bollard/sha.constants", Rows.laid_bollard_sha_constants)] ++ ([("internal/strconv.uint64pow10", Rows.laid_internal_strconv_uint64pow10)] ++ (X2 ++ (named l ++ (Z1 ++ ([("bollard/frame.most", Rows.laid_bollard_frame_most)] ++ ZZ)))))))
    (hp : laid.all (fun x => x.2.handleName?.isNone) = true) (big : 9 ≤ M) (hg : ∀ v ∈ l, Tryz.prog.globalNamed v.1 = some v.2.1 ∧ (Tryz.prog.globals[v.2.1]?).map (·.type) = some 26)
    (hnd : (l.map (·.2.1)).Nodup) (hM : ∀ g, In M g → ∃ v ∈ l, v.2.1 = g) (h : laidMetH Tryz.prog laid W) : ∃ E, Env W M E := by
  rw [MakeChecks.laidMetH_plain _ _ _ hp, hl] at h
  have h1 := (laidMet_app h).2
  have h2 := laidMet_app h1
  have h3 := laidMet_app h2.2
  have h4 := (laidMet_app h3.2).2
  have h5 := laidMet_app h4
  have h6 := (laidMet_app h5.2).2
  have h7 := laidMet_app h6
  obtain ⟨E, hE⟩ := sent_of2 (M := M) l hg hnd hM h5.1
  exact ⟨E, tab_of h3.1, mst_of h7.1, kst_of h2.1, hE, big⟩
/- an id among the arguments -/
theorem types32 : Tryz.prog.cellTypes Tryz.prog.depth 32 = some [3, 3, 3] := by kernel_rfl
theorem cells32 : Tryz.prog.cellsOf 32 = 3 := by kernel_rfl
theorem cell3 {W : World} {r : Reach} {base : Nat} {v : Value} (h : Cell.okWide Tryz.prog W r base 3 v) : ∃ x, v = .int .i64 x ∧ I64 x := by
  simp only [Tryz.underlying3, Cell.okWide] at h
  cases v <;> simp_all [Cell.ok]
  exact h.2
theorem open32 {W : World} {r : Reach} {base : Nat} {v : Value} (h : Value.okWide Tryz.prog W r base 32 v) : ∃ a b c : Int, v = idv a b c ∧ I64 a ∧ I64 b ∧ I64 c := by
  simp only [Value.okWide, Tryz.underlying32] at h
  obtain ⟨cs, rfl, hn, ts, ht, _, hc⟩ := h
  rw [types32] at ht
  obtain rfl := Option.some.inj ht
  rw [cells32] at hn
  obtain ⟨l⟩ := cs
  have all : ∀ (i : Nat) (v : Value), l[i]? = some v → ∃ x, v = .int .i64 x ∧ I64 x := fun i v hv => by
    obtain ⟨u, hu, hk⟩ := hc i v (by simpa using hv)
    have hu3 : u = 3 := by
      have h5 : i % 3 < 3 := Nat.mod_lt _ (by omega)
      have hu' : ([3, 3, 3] : List Nat)[i % 3]? = some u := hu
      rcases (by omega : i % 3 = 0 ∨ i % 3 = 1 ∨ i % 3 = 2) with h | h | h <;> rw [h] at hu' <;> simpa using hu'.symm
    subst hu3
    exact cell3 hk
  match l, hn with
  | [c0, c1, c2], _ =>
    obtain ⟨a, rfl, ia⟩ := all 0 c0 rfl
    obtain ⟨b, rfl, ib⟩ := all 1 c1 rfl
    obtain ⟨c, rfl, ic⟩ := all 2 c2 rfl
    exact ⟨a, b, c, rfl, ia, ib, ic⟩
end Go.Proofs.YtkdgakcmhnadfaaGreatDoor
