/- The errors' variables, as the program's text lays them: each holds a pointer of its own. -/
import Derived.Test.YtemhhlongfabmaaGreatDoorBa
import Derived.LaidLaws
import Derived.LaidEql
import Derived.LaidMore
import Derived.ProofKit
import Derived.OpenShut
import Derived.Stop.Joined
namespace Go.Proofs.YtemhhlongfabmaaGreatDoor
set_option maxRecDepth 20000
open Go.ChangeShapes Go.WideShapes Go.ChangeAt Go.RowKit
set_option linter.unusedVariables false
set_option linter.unusedSimpArgs false
/- the errors' values -/
abbrev er (a : Addr) : Value := .iface 151 (.pointer (some a))
theorem star : "*" ++ "errors.errorString" = "*errors.errorString" := by decide
theorem row84 (u : TypeId) (h : Tryz.prog.typeName? 3 u = some "*errors.errorString") : u = 151 :=
  typeName_ptr_named (nm := "errors.errorString") (by rw [star]; kernel_rfl) (by kernel_rfl) (by decide) u (by rw [star]; exact h)
theorem cells102 : Tryz.prog.cellsOf 165 = 1 := by kernel_rfl
theorem cells9 : Tryz.prog.cellsOf 9 = 1 := by kernel_rfl
def dsent (t : List UInt8) : DataW Unit := .iface "*errors.errorString" (.ptr (.agg [.lit (.string t)]))
def named (l : List (String × Nat × List UInt8)) : List (String × DataW Unit) := l.map fun v => (v.1, dsent v.2.2)
theorem sent_ind {W : World} : ∀ (l : List (String × Nat × List UInt8)) (ps : List MemPlace),
    (∀ v ∈ l, Tryz.prog.globalNamed v.1 = some v.2.1 ∧ (Tryz.prog.globals[v.2.1]?).map (·.type) = some 29) → (l.map (·.2.1)).Nodup → DataW.LaidVars Tryz.prog W (named l) ps → ps.Nodup →
    (∀ b off, MemPlace.cell b off ∈ ps → ∀ u v, W.cell? ⟨b, off, none⟩ = some (.iface u v) → Value.okWide Tryz.prog W .any 0 u v) →
    ∃ E : Nat → Addr, ∀ v ∈ l, W.cell? ⟨v.2.1, 0, none⟩ = some (er (E v.2.1)) ∧ MemPlace.cell (E v.2.1).block (E v.2.1).off ∈ ps ∧ ∀ v' ∈ l, v.2.1 ≠ v'.2.1 → E v.2.1 ≠ E v'.2.1 := by
  intro l
  induction l with
  | nil => intro ps _ _ _ _ _; exact ⟨fun _ => ⟨0, 0, none⟩, fun v hv => by cases hv⟩
  | cons v0 r ih =>
    intro ps hg hnd hL hps hok
    obtain ⟨n0, g0, t0⟩ := v0
    obtain ⟨g, t, cs, fuel, p, q, h1, h2, h3, h4, h5, rfl⟩ := hL
    obtain ⟨hgn, hgt⟩ := hg (n0, g0, t0) (List.mem_cons_self ..)
    obtain rfl := Option.some.inj (hgn.symm.trans h1)
    obtain rfl := Option.some.inj (hgt.symm.trans h2)
    obtain ⟨l0⟩ := cs
    have ok0 : ∀ u v, l0 = [.iface u v] → Value.okWide Tryz.prog W .any 0 u v := fun u v e => by
      subst e
      exact hok g0 0 (by simp [MemPlace.row]) u v (by simpa using World.var?_cell hgn h3 0)
    obtain ⟨a0, s0, rfl, hc0, hs0, hz0, rfl⟩ := errorString_of_trod Tryz.underlying29 row84 Tryz.underlying151 Tryz.underlying165 rfl rfl Tryz.underlying9 cells102 cells9 h4 ok0
    have hnq : q.Nodup := (List.nodup_append.1 hps).2.1
    simp only [List.map_cons, List.nodup_cons] at hnd
    obtain ⟨E, hE⟩ := ih q (fun v hv => hg v (List.mem_cons_of_mem _ hv)) hnd.2 h5 hnq (fun b off hm => hok b off (by simp [hm]))
    have hcell : W.cell? ⟨g0, 0, none⟩ = some (er a0) := by simpa using World.var?_cell hgn h3 0
    have hne : ∀ v ∈ r, v.2.1 ≠ g0 := fun v hv e => hnd.1 (List.mem_map.2 ⟨v, hv, e⟩)
    have hdis : ∀ v ∈ r, a0 ≠ E v.2.1 := by
      intro v hv e
      have h6 := (hE v hv).2.1
      rw [← e] at h6
      have h7 := (List.nodup_append.1 hps).2.2 (MemPlace.cell a0.block a0.off) (by simp [MemPlace.row]) (MemPlace.cell a0.block a0.off) h6
      exact h7 rfl
    refine ⟨fun x => if x = g0 then a0 else E x, fun v hv => ?_⟩
    rcases List.mem_cons.1 hv with rfl | hv
    · refine ⟨by simpa using hcell, by simp [MemPlace.row], fun v' hv' hvv => ?_⟩
      rcases List.mem_cons.1 hv' with rfl | hv'
      · exact absurd rfl hvv
      · simp only [if_true]
        rw [if_neg (hne v' hv')]
        exact hdis v' hv'
    · have h8 := hE v hv
      simp only [if_neg (hne v hv)]
      refine ⟨h8.1, by simp [h8.2.1], fun v' hv' hvv => ?_⟩
      rcases List.mem_cons.1 hv' with rfl | hv'
      · simp only [if_true]
        exact fun e => hdis v hv e.symm
      · rw [if_neg (hne v' hv')]
        exact h8.2.2 v' hv' hvv
/- all eighteen -/
structure Sent (w : World) (M : Nat → Prop) (E : Nat → Addr) : Prop where
  c : ∀ g, M g → w.cell? ⟨g, 0, none⟩ = some (er (E g))
  row : ∀ g, M g → ∃ cs t, w.heap[(E g).block]? = some (.cells cs t (0, 0))
  ne : ∀ g g', M g → M g' → g ≠ g' → E g ≠ E g'
theorem Sent.below {w w' : World} {M : Nat → Prop} {E : Nat → Addr} (h : Sent w M E) (hb : Below w.heap.size w w') : Sent w' M E :=
  ⟨fun g hg => (hb.cell (p := ⟨g, 0, none⟩) (cell_lt (h.c g hg))).trans (h.c g hg), fun g hg => by
    obtain ⟨cs, t, h1⟩ := h.row g hg
    exact ⟨cs, t, (hb.block _ (Array.getElem?_eq_some_iff.1 h1).1).trans h1⟩, h.ne⟩
theorem sent_of {W : World} {laid : List (String × DataW Unit)} {M : Nat → Prop} (l : List (String × Nat × List UInt8)) (hl : laid = named l) (hp : laid.all (fun x => x.2.handleName?.isNone) = true) (hg : ∀ v ∈ l, Tryz.prog.globalNamed v.1 = some v.2.1 ∧ (Tryz.prog.globals[v.2.1]?).map (·.type) = some 29)
    (hnd : (l.map (·.2.1)).Nodup) (hM : ∀ g, M g → ∃ v ∈ l, v.2.1 = g) (h : laidMetH Tryz.prog laid W) : ∃ E, Sent W M E := by
  rw [MakeChecks.laidMetH_plain _ _ _ hp, hl] at h
  obtain ⟨ps, h1, h2, h3⟩ := h
  obtain ⟨E, hE⟩ := sent_ind l ps hg hnd h1 h2 (fun b off hm => (h3 b off hm).2)
  refine ⟨E, fun g hg => ?_, fun g hg => ?_, fun g g' hg hg' hne => ?_⟩
  · obtain ⟨v, hv, rfl⟩ := hM g hg
    exact (hE v hv).1
  · obtain ⟨v, hv, rfl⟩ := hM g hg
    obtain ⟨cs, t, h4⟩ := (h3 _ _ (hE v hv).2.1).1
    exact ⟨cs, t, h4⟩
  · obtain ⟨v, hv, rfl⟩ := hM g hg
    obtain ⟨v', hv', rfl⟩ := hM g' hg'
    exact (hE v hv).2.2 v' hv' hne
theorem comp85 : (Tryz.prog.info? 151).map (·.comparable) = some true := by kernel_rfl
theorem size101 : (Tryz.prog.info? 165).map (·.size) = some 1 := by kernel_rfl
theorem eql_same (w : World) (a : Addr) : (binOp .eql 29 (.iface 151 (.pointer (some a))) (.iface 151 (.pointer (some a)))).run Tryz.prog w = .ok (.bool true) w := by
  obtain ⟨i, hi, hc⟩ := Option.map_eq_some_iff.1 comp85
  obtain ⟨j, hj, _⟩ := Option.map_eq_some_iff.1 size101
  exact run_eql_iface_ptr_same w a Tryz.underlying29 Tryz.underlying151 hi hc hj
theorem neq_same (w : World) (a : Addr) : (binOp .neq 29 (.iface 151 (.pointer (some a))) (.iface 151 (.pointer (some a)))).run Tryz.prog w = .ok (.bool false) w := by
  obtain ⟨i, hi, hc⟩ := Option.map_eq_some_iff.1 comp85
  obtain ⟨j, hj, _⟩ := Option.map_eq_some_iff.1 size101
  simp only [binOp]
  simp [Op.equal, Op.maxDepth, run_equalIn_iface_ptr_same w 9998 a Tryz.underlying29 Tryz.underlying151 hi hc hj]
theorem eql_other {w : World} {M : Nat → Prop} {E : Nat → Addr} (h : Sent w M E) {g g' : Nat} (hg : M g) (hg' : M g') (hne : g ≠ g') : (binOp .eql 29 (.iface 151 (.pointer (some (E g)))) (.iface 151 (.pointer (some (E g'))))).run Tryz.prog w = .ok (.bool false) w := by
  obtain ⟨i, hi, hc⟩ := Option.map_eq_some_iff.1 comp85
  obtain ⟨j, hj, hsz⟩ := Option.map_eq_some_iff.1 size101
  obtain ⟨ca, ta, ha⟩ := h.row g hg
  obtain ⟨cb, tb, hb⟩ := h.row g' hg'
  exact run_eql_iface_ptr_other w Tryz.underlying29 Tryz.underlying151 hi hc hj (by rw [hsz]; decide) (h.ne g g' hg hg' hne) ha hb
end Go.Proofs.YtemhhlongfabmaaGreatDoor
