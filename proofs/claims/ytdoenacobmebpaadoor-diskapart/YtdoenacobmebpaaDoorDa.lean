/- A drive: its map of files read as a datum, and what its look-ups, stores and deletes do. -/
import Derived.Test.YtdoenacobmebpaaDoorVs
import Derived.Test.YtdoenacobmebpaaDoorVc
import Derived.Test.YtdoenacobmebpaaDoorIt
import Derived.Maps.OwnSet
import Derived.Maps.Ext
import Derived.StringKeys
import Derived.Sort.KeysCollected
namespace Go.Proofs.YtdoenacobmebpaaDoor
open Go.ChangeShapes Go.WideShapes Go.ChangeAt Go.RowKit Go.Maps
set_option maxRecDepth 20000
set_option linter.unusedVariables false
set_option linter.unusedSimpArgs false
/- a file: its bytes, what is safe, whether anything is -/
structure Fl where
  b : ByteArray
  s : ByteArray
  h : Bool
def f0 : Fl := ⟨⟨#[]⟩, ⟨#[]⟩, false⟩
abbrev fv (f : Fl) : Value := .agg #[.string f.b, .string f.s, .bool f.h]
def fd (f : Fl) : DataW Unit := .agg [.lit (.string f.b.data.toList), .lit (.string f.s.data.toList), .lit (.bool f.h)]
def un : DataW Unit → Fl
  | .agg [.lit (.string a), .lit (.string b), .lit (.bool c)] => ⟨⟨a.toArray⟩, ⟨b.toArray⟩, c⟩
  | _ => f0
theorem un_fd (f : Fl) : un (fd f) = f := by cases f; simp [un, fd]
def Rf : Value → Option (DataW Unit × List MemPlace)
  | .agg cs => match cs.toList with
    | [.string a, .string b, .bool c] => some (fd ⟨a, b, c⟩, [])
    | _ => none
  | _ => none
theorem Rf_mk (f : Fl) : Rf (fv f) = some (fd f, []) := rfl
theorem Rf_inv {v : Value} {d : DataW Unit} {ps : List MemPlace} (h : Rf v = some (d, ps)) : v = fv (un d) := by
  unfold Rf at h
  split at h
  · rename_i cs
    split at h
    · rename_i a b c hc
      cases h
      rw [un_fd]
      have : cs = #[.string a, .string b, .bool c] := by
        cases cs
        simp at hc
        rw [hc]
      rw [this]
    · cases h
  · cases h
/- a name as a key -/
def kl (s : ByteArray) : Lit := .string s.data.toList
theorem kl_inj {s t : ByteArray} (h : kl s = kl t) : s = t := by
  cases s; cases t
  simp [kl] at h
  simp [h]
theorem kl_ne {s t : ByteArray} (h : s ≠ t) : kl s ≠ kl t := fun e => h (kl_inj e)
theorem kl_key (s : ByteArray) (h : s.size ≤ maxLen) : keyOf Tryd.prog 9 (.string s) = some (kl s) := Go.WideMaps.keyOf_string_mk Tryd.underlying9 h
theorem kl_lit (s : ByteArray) : WideAt.IsKeyLit (kl s) := trivial
theorem klaw : Keyed Tryd.prog 9 := string_keyed Tryd.underlying9
theorem zero69 (w : World) : (zeroValue 69).run Tryd.prog w = .ok (fv f0) w := by kernel_rfl
/- what is under a name -/
def vw (D : DataW Unit) (s : ByteArray) : Option Fl := if Maps.has D (kl s) = true then some (un (D.atKey (kl s) (fd f0))) else none
theorem vw_some {D : DataW Unit} {s : ByteArray} : (vw D s).isSome = Maps.has D (kl s) := by
  unfold vw
  by_cases h : Maps.has D (kl s) = true
  · simp [h]
  · simp [h]
theorem vw_put {D : DataW Unit} (hD : IsMap D) (s t : ByteArray) (f : Fl) : vw (D.put (kl s) (fd f)) t = if t = s then some f else vw D t := by
  unfold vw
  by_cases h : t = s
  · subst h
    rw [has_put_same hD (kl_lit _), atKey_put_same hD (kl_lit _), un_fd]
    simp
  · rw [has_put_other (kl_ne h), atKey_put_other (kl_ne h), if_neg h]
theorem vw_del {D : DataW Unit} (s t : ByteArray) : vw (D.del (kl s)) t = if t = s then none else vw D t := by
  unfold vw
  by_cases h : t = s
  · subst h
    rw [has_del_same]
    simp
  · rw [has_del_other (kl_ne h), atKey_del_other (kl_ne h), if_neg h]
theorem vw_nil (s : ByteArray) : vw (.map []) s = none := rfl
section
variable {w : World} {m n : Nat} {D : DataW Unit}
theorem look_t (h : w.ownsMap Tryd.prog 9 Rf m n D) {s : ByteArray} (hs : s.size ≤ maxLen) : (Instr.lookup 54 (.map (some m)) (.string s) true).run Tryd.prog w = .ok (.tuple #[fv ((vw D s).getD f0), .bool (vw D s).isSome]) w := by
  obtain ⟨v, ps, h1, h2⟩ := h.look_ok klaw Tryd.underlying54 (zero69 w) (Rf_mk f0) (kl_key s hs)
  rw [h1, vw_some, Rf_inv h2]
  unfold vw
  by_cases hh : Maps.has D (kl s) = true
  · simp [hh]
  · simp only [Bool.not_eq_true] at hh
    rw [atKey_of_not_has hh, un_fd]
    simp [hh]
theorem look_f (h : w.ownsMap Tryd.prog 9 Rf m n D) {s : ByteArray} (hs : s.size ≤ maxLen) : (Instr.lookup 54 (.map (some m)) (.string s) false).run Tryd.prog w = .ok (fv ((vw D s).getD f0)) w := by
  obtain ⟨v, ps, h1, h2⟩ := h.lookup klaw Tryd.underlying54 (zero69 w) (Rf_mk f0) (kl_key s hs)
  rw [h1, Rf_inv h2]
  unfold vw
  by_cases hh : Maps.has D (kl s) = true
  · simp [hh]
  · simp only [Bool.not_eq_true] at hh
    rw [atKey_of_not_has hh, un_fd]
    simp [hh]
theorem owns_size (h : w.ownsMap Tryd.prog 9 Rf m n D) : w.ownsMap Tryd.prog 9 Rf m (Maps.size D) D := by
  obtain ⟨es, clock, hb, F, hs, rfl⟩ := h
  exact ⟨es, clock, hb, F, by rw [size_eq, length_sorted]; simp, rfl⟩
end
/- a string's byte; may a file be called so -/
def sb (s : ByteArray) (i : Nat) : Nat := (s.data.toList.getD i 0).toNat
def gb (s : ByteArray) (i : Nat) : Prop := 33 ≤ sb s i ∧ sb s i ≤ 126
instance (s : ByteArray) (i : Nat) : Decidable (gb s i) := by unfold gb; infer_instance
def nm (s : ByteArray) : Bool := decide (1 ≤ s.size ∧ s.size ≤ 63 ∧ ∀ i, i < s.size → gb s i)
theorem nm_le {s : ByteArray} (h : nm s = true) : s.size ≤ 63 := (of_decide_eq_true h).2.1
/- a drive at block d, its map at block m -/
structure Drv (w : World) (d m : Nat) (D : DataW Unit) (full : Bool) (lost : Int) : Prop where
  blk : w.heap[d]? = some (.cells #[.map (some m), .bool full, .int .i64 lost] 56 (0, 0))
  own : w.ownsMap Tryd.prog 9 Rf m (Maps.size D) D
  size : Maps.size D ≤ 512
  good : ∀ s, (vw D s).isSome = true → nm s = true
section
variable {w w' : World} {d m : Nat} {D : DataW Unit} {full : Bool} {lost : Int}
theorem Drv.lt (h : Drv w d m D full lost) : d < w.heap.size := (Array.getElem?_eq_some_iff.1 h.blk).1
theorem Drv.mlt (h : Drv w d m D full lost) : m < w.heap.size := h.own.lt
theorem Drv.ne (h : Drv w d m D full lost) : m ≠ d := fun e => by
  obtain ⟨es, clock, hb, _⟩ := h.own
  rw [e, h.blk] at hb
  cases hb
theorem Drv.c0 (h : Drv w d m D full lost) : w.cell? ⟨d, 0, none⟩ = some (.map (some m)) := by simp [World.cell?, h.blk]
theorem Drv.c1 (h : Drv w d m D full lost) : w.cell? ⟨d, 1, none⟩ = some (.bool full) := by simp [World.cell?, h.blk]
theorem Drv.c2 (h : Drv w d m D full lost) : w.cell? ⟨d, 2, none⟩ = some (.int .i64 lost) := by simp [World.cell?, h.blk]
theorem Drv.isMap (h : Drv w d m D full lost) : IsMap D := h.own.isMap
theorem Drv.tidy (h : Drv w d m D full lost) : Tidy D := h.own.tidy klaw
theorem Drv.keep (h : Drv w d m D full lost) (h1 : w'.heap[d]? = w.heap[d]?) (h2 : w'.heap[m]? = w.heap[m]?) : Drv w' d m D full lost := by
  obtain ⟨es, clock, hb, F, hs, hD⟩ := h.own
  exact ⟨h1.trans h.blk, ⟨es, clock, h2.trans hb, F, hs, hD⟩, h.size, h.good⟩
theorem Drv.below (h : Drv w d m D full lost) (hb : Below w.heap.size w w') : Drv w' d m D full lost := h.keep (hb.block d h.lt) (hb.block m h.mlt)
end
/- all but the drive's two blocks is as it was -/
structure ChD (w w' : World) (d m : Nat) : Prop where
  os : w'.os = w.os
  tape : w'.tape = w.tape
  output : w'.output = w.output
  size : w.heap.size ≤ w'.heap.size
  block : ∀ k, k < w.heap.size → k ≠ d → k ≠ m → w'.heap[k]? = w.heap[k]?
section
variable {w w1 w2 : World} {d m : Nat}
theorem ChD.refl (w : World) (d m : Nat) : ChD w w d m := ⟨rfl, rfl, rfl, Nat.le_refl _, fun _ _ _ _ => rfl⟩
theorem ChD.trans (h : ChD w w1 d m) (k : ChD w1 w2 d m) : ChD w w2 d m :=
  ⟨k.os.trans h.os, k.tape.trans h.tape, k.output.trans h.output, Nat.le_trans h.size k.size, fun b h1 h2 h3 => (k.block b (Nat.lt_of_lt_of_le h1 h.size) h2 h3).trans (h.block b h1 h2 h3)⟩
theorem ChD.of_below (h : Below w.heap.size w w1) : ChD w w1 d m := ⟨h.os, h.tape, h.output, h.size, fun k h1 _ _ => h.block k h1⟩
theorem ChD.of_grown {r : Nat} (h : w.grownBy w1 (some r)) (hr : r = d ∨ r = m) : ChD w w1 d m := ⟨h.os, h.tape, h.output, h.size, fun k h1 h2 h3 => h.block k h1 (fun e => by cases e; rcases hr with h | h <;> simp_all)⟩
theorem ChD.below {B : Nat} (h : ChD w w1 d m) (hd : B ≤ d) (hm : B ≤ m) (hB : B ≤ w.heap.size) : Below B w w1 := ⟨h.os, h.tape, h.output, h.size, fun k hk => h.block k (by omega) (by omega) (by omega)⟩
end
/- a store and a delete -/
theorem drv_put {w : World} {d m : Nat} {D : DataW Unit} {full : Bool} {lost : Int} (h : Drv w d m D full lost) {s : ByteArray} (hn : nm s = true) (f : Fl) (hsz : Maps.size (D.put (kl s) (fd f)) ≤ 512) :
    ∃ w', (Instr.mapUpdate 54 (.map (some m)) (.string s) (fv f)).run Tryd.prog w = .ok () w' ∧ Drv w' d m (D.put (kl s) (fd f)) full lost ∧ ChD w w' d m := by
  obtain ⟨w', h1, h2, h3⟩ := h.own.store klaw Tryd.underlying54 (by have := h.size; unfold maxLen; omega) (kl_key s (by have := nm_le hn; unfold maxLen; omega)) (Rf_mk f)
  have g := h3.grown
  refine ⟨w', h1, ⟨(g.block d h.lt (fun e => by cases e; exact h.ne rfl)).trans h.blk, owns_size h2, hsz, fun t ht => ?_⟩, ChD.of_grown g (.inr rfl)⟩
  rw [vw_put h.isMap] at ht
  by_cases e : t = s
  · rw [e]; exact hn
  · rw [if_neg e] at ht; exact h.good t ht
theorem drv_del {w : World} {d m : Nat} {D : DataW Unit} {full : Bool} {lost : Int} (h : Drv w d m D full lost) {s : ByteArray} (hs : s.size ≤ maxLen) (ty : TypeId) :
    ∃ w', (Builtin.delete_ #[54, 9] ty #[.map (some m), .string s]).run Tryd.prog w = .ok (.tuple #[]) w' ∧ Drv w' d m (D.del (kl s)) full lost ∧ ChD w w' d m := by
  obtain ⟨w', h1, h2, h3⟩ := h.own.drop klaw Tryd.underlying54 (kl_key s hs) ty
  have g := h3.grown
  have e := size_del (k := kl s) h.tidy
  refine ⟨w', h1, ⟨(g.block d h.lt (fun e => by cases e; exact h.ne rfl)).trans h.blk, owns_size h2, by have := h.size; omega, fun t ht => ?_⟩, ChD.of_grown g (.inr rfl)⟩
  rw [vw_del] at ht
  by_cases e : t = s
  · rw [if_pos e] at ht; cases ht
  · rw [if_neg e] at ht; exact h.good t ht
theorem put_size {D : DataW Unit} (hD : Tidy D) (s : ByteArray) (f : Fl) : Maps.size (D.put (kl s) (fd f)) = if (vw D s).isSome = true then Maps.size D else Maps.size D + 1 := by
  rw [size_put hD, vw_some]
end Go.Proofs.YtdoenacobmebpaaDoor
