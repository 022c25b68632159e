import Derived.Test.YtmkknklkdgkbaaaDoorMYe
import Derived.Test.YtmkknklkdgkbaaaDoorMGf
/- Gj -/
/- A head's numbers read: plain functions; results that lie in memory. -/
namespace Go.Proofs.YtmkknklkdgkbaaaDoor
open Go.ChangeShapes Go.WideShapes Go.ChangeAt Go.RowKit
set_option maxRecDepth 20000
set_option linter.unusedVariables false
set_option linter.unusedSimpArgs false
/- k numbers, each with its bound; the place behind them -/
def rdS (l : List Nat) (zs : List Int) : Nat → Option (List Nat × Nat)
  | 0 => some ([], 0)
  | k + 1 => match rdS l zs k with
    | none => none
    | some (ns, p) => if (rdN l p (zs.getD k 0)).2.1 = 0 then some (ns ++ [(rdN l p (zs.getD k 0)).1], (rdN l p (zs.getD k 0)).2.2) else none
theorem rdS_ok {l : List Nat} {zs : List Int} {k p : Nat} {ns : List Nat} (h : rdS l zs k = some (ns, p)) (h1 : (rdN l p (zs.getD k 0)).2.1 = 0) : rdS l zs (k + 1) = some (ns ++ [(rdN l p (zs.getD k 0)).1], (rdN l p (zs.getD k 0)).2.2) := by
  simp only [rdS, h]
  rw [if_pos h1]
theorem rdS_bad {l : List Nat} {zs : List Int} {k p : Nat} {ns : List Nat} (h : rdS l zs k = some (ns, p)) (h1 : (rdN l p (zs.getD k 0)).2.1 ≠ 0) : rdS l zs (k + 1) = none := by
  simp only [rdS, h]
  rw [if_neg h1]
theorem rdS_none {l : List Nat} {zs : List Int} {k : Nat} (h : rdS l zs k = none) : ∀ j, rdS l zs (k + j) = none
  | 0 => h
  | j + 1 => by
    have := rdS_none h j
    rw [← Nat.add_assoc]
    simp only [rdS, this]
theorem rdS_len {l : List Nat} {zs : List Int} : ∀ {k p : Nat} {ns : List Nat}, rdS l zs k = some (ns, p) → ns.length = k
  | 0, p, ns, h => by simp only [rdS, Option.some.injEq, Prod.mk.injEq] at h; rw [← h.1]; rfl
  | k + 1, p, ns, h => by
    simp only [rdS] at h
    cases hk : rdS l zs k with
    | none => rw [hk] at h; cases h
    | some r =>
      obtain ⟨ns', p'⟩ := r
      rw [hk] at h
      dsimp only at h
      split at h
      · simp only [Option.some.injEq, Prod.mk.injEq] at h
        rw [← h.1, List.length_append, rdS_len hk]
        rfl
      · cases h
/- a head's numbers, if the bytes are made of them alone -/
def hdN (l : List Nat) : Option (List Nat) := match rdS l mostL 7 with
  | none => none
  | some (ns, p) => if ns.getD 0 0 = 1 ∧ p = l.length then some ns else none
theorem hdN_ok {l ns : List Nat} {p : Nat} (h : rdS l mostL 7 = some (ns, p)) (h1 : ns.getD 0 0 = 1) (h2 : p = l.length) : hdN l = some ns := by
  simp only [hdN, h]
  rw [if_pos ⟨h1, h2⟩]
theorem hdN_bad {l ns : List Nat} {p : Nat} (h : rdS l mostL 7 = some (ns, p)) (h1 : ¬ (ns.getD 0 0 = 1 ∧ p = l.length)) : hdN l = none := by
  simp only [hdN, h]
  rw [if_neg h1]
theorem hdN_none {l : List Nat} (h : rdS l mostL 7 = none) : hdN l = none := by simp only [hdN, h]
theorem hdN_len {l ns : List Nat} (h : hdN l = some ns) : ns.length = 7 := by
  unfold hdN at h
  cases hk : rdS l mostL 7 with
  | none => rw [hk] at h; cases h
  | some r =>
    obtain ⟨ns', p⟩ := r
    rw [hk] at h
    dsimp only at h
    split at h
    · simp only [Option.some.injEq] at h
      rw [← h]
      exact rdS_len hk
    · cases h
/- a frame's head: the error's number, the numbers, where the blocks begin -/
def hdF (F : List Nat) : Nat × List Nat × Nat :=
  if (rdB F 0 256).2.1 ≠ 0 then (5, [], 0)
  else if (opn (rdB F 0 256).1).2 ≠ 0 then ((opn (rdB F 0 256).1).2, [], 0)
  else match hdN (opn (rdB F 0 256).1).1 with
    | none => (5, [], 0)
    | some ns => (0, ns, (rdB F 0 256).2.2)
theorem sz64 : (Tryd.prog.info? 64).map (·.size) = some 7 := by kernel_rfl
theorem sz25s : (Tryd.prog.info? 25).map (·.size) = some 5 := by kernel_rfl
theorem und64 : ∃ d, Tryd.prog.underlying 64 = some d ∧ d.isRow = true := ⟨_, Tryd.underlying64, rfl⟩
theorem und25s : ∃ d, Tryd.prog.underlying 25 = some d ∧ d.isRow = true := ⟨_, Tryd.underlying25, rfl⟩
def Z7 : List Nat := [0, 0, 0, 0, 0, 0, 0]
def Z5 : List Nat := [0, 0, 0, 0, 0]
/- an array and one thing more handed back -/
theorem res_arr2 {fn : Func} {p q : Tmp} {ty : TypeId} (hf : fn.results = #[.cell p ty, .tmp q]) {tmps : Array Value} {w : World} {g : Nat} {k : IntKind} {t : TypeId} {l : List Nat} (hp : tmps.getD p undef = .pointer (some ⟨g, 0, none⟩)) (hr : Arr k t w g l)
    (hu : ∃ d, Tryd.prog.underlying ty = some d ∧ d.isRow = true) (hi : (Tryd.prog.info? ty).map (·.size) = some l.length) : (results fn tmps).run Tryd.prog w = .ok (.tuple #[.agg (cs k l), tmps.getD q undef]) w := by
  obtain ⟨d, h1, h2⟩ := hu
  have hp' : tmps[p]?.getD undef = .pointer (some ⟨g, 0, none⟩) := by simpa using hp
  have e := run_loadVar_row (P := Tryd.prog) w g t ty (cs k l) (0, 0) d hr h1 (by cases d <;> simp_all [TypeDesc.isRow]) (by rw [hi, cs_size])
  simp [results, hf, hp', asAddr, e]
theorem res_arr3 {fn : Func} {p q r : Tmp} {ty : TypeId} (hf : fn.results = #[.cell p ty, .tmp q, .tmp r]) {tmps : Array Value} {w : World} {g : Nat} {k : IntKind} {t : TypeId} {l : List Nat} (hp : tmps.getD p undef = .pointer (some ⟨g, 0, none⟩)) (hr : Arr k t w g l)
    (hu : ∃ d, Tryd.prog.underlying ty = some d ∧ d.isRow = true) (hi : (Tryd.prog.info? ty).map (·.size) = some l.length) : (results fn tmps).run Tryd.prog w = .ok (.tuple #[.agg (cs k l), tmps.getD q undef, tmps.getD r undef]) w := by
  obtain ⟨d, h1, h2⟩ := hu
  have hp' : tmps[p]?.getD undef = .pointer (some ⟨g, 0, none⟩) := by simpa using hp
  have e := run_loadVar_row (P := Tryd.prog) w g t ty (cs k l) (0, 0) d hr h1 (by cases d <;> simp_all [TypeDesc.isRow]) (by rw [hi, cs_size])
  simp [results, hf, hp', asAddr, e]
theorem res_arr4 {fn : Func} {p q r s : Tmp} {ty : TypeId} (hf : fn.results = #[.cell p ty, .tmp q, .tmp r, .tmp s]) {tmps : Array Value} {w : World} {g : Nat} {k : IntKind} {t : TypeId} {l : List Nat} (hp : tmps.getD p undef = .pointer (some ⟨g, 0, none⟩)) (hr : Arr k t w g l)
    (hu : ∃ d, Tryd.prog.underlying ty = some d ∧ d.isRow = true) (hi : (Tryd.prog.info? ty).map (·.size) = some l.length) : (results fn tmps).run Tryd.prog w = .ok (.tuple #[.agg (cs k l), tmps.getD q undef, tmps.getD r undef, tmps.getD s undef]) w := by
  obtain ⟨d, h1, h2⟩ := hu
  have hp' : tmps[p]?.getD undef = .pointer (some ⟨g, 0, none⟩) := by simpa using hp
  have e := run_loadVar_row (P := Tryd.prog) w g t ty (cs k l) (0, 0) d hr h1 (by cases d <;> simp_all [TypeDesc.isRow]) (by rw [hi, cs_size])
  simp [results, hf, hp', asAddr, e]
/- one number read, by how it ends -/
theorem rnum_z {w : World} {g B M : Nat} {a : Option Addr} {n c : Nat} {l : List Nat} {p : Nat} {z : Int} {E : Nat → Addr} (hR : Hid (Rdr w g B a n c l p)) (hz2 : z ≤ 9223372036854775807) (hE : Hid (Sent w M E)) (hM : 4 ≤ M) (h0 : Hid ((rdN l p z).2.1 = 0)) :
    Calls Tryd.prog 69 #[.pointer (some ⟨g, 0, none⟩), .int .i64 z] w fun e w' => ∃ x : Nat, e = .returned (.tuple #[.int .i64 (x : Int), .nilIface]) ∧ Hid (x = (rdN l p z).1 ∧ Rdr w' g B a n c l (rdN l p z).2.2 ∧ Wfr w w' g none) := by
  refine (rnum_any hR hz2 hE hM).mono ?_
  rintro e w' ⟨k, v, h1, H⟩
  have h2 := H.out.2.1
  rw [h0.out] at h2
  rw [h1, h2]
  exact ⟨k, rfl, H.out.1, H.out.2.2⟩
theorem rdN_five {l : List Nat} {p : Nat} {z : Int} (h : (rdN l p z).2.1 ≠ 0) : rdN l p z = (0, 5, p) := by
  unfold rdN at h ⊢
  split
  · rename_i h1; rw [if_pos h1] at h; exact absurd rfl h
  · rfl
theorem rnum_e {w : World} {g B M : Nat} {a : Option Addr} {n c : Nat} {l : List Nat} {p : Nat} {z : Int} {E : Nat → Addr} (hR : Hid (Rdr w g B a n c l p)) (hz2 : z ≤ 9223372036854775807) (hE : Hid (Sent w M E)) (hM : 4 ≤ M) (h0 : Hid ((rdN l p z).2.1 ≠ 0)) :
    Calls Tryd.prog 69 #[.pointer (some ⟨g, 0, none⟩), .int .i64 z] w fun e w' => e = .returned (.tuple #[.int .i64 0, .iface 130 (.pointer (some (E 3)))]) ∧ Hid (Rdr w' g B a n c l p ∧ Wfr w w' g none) := by
  refine (rnum_any hR hz2 hE hM).mono ?_
  rintro e w' ⟨k, v, h1, H⟩
  have h3 := rdN_five h0.out
  rw [h3] at H
  rw [h1, H.out.2.1, H.out.1]
  exact ⟨rfl, H.out.2.2⟩
end Go.Proofs.YtmkknklkdgkbaaaDoor
