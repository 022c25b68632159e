import Derived.Test.YtkdgakcmhnadfaaGreatDoorMVs
import Derived.Test.YtkdgakcmhnadfaaGreatDoorMIt
import Derived.Maps.OwnSet
import Derived.Maps.Ext
import Derived.StringKeys
import Derived.Sort.KeysCollected
import Derived.Test.YtkdgakcmhnadfaaGreatDoorMOr
import Derived.Deep.DeepCutAuto
/- Da -/
/- A drive: its map of files read as a datum, and what its look-ups, stores and deletes do. -/
namespace Go.Proofs.YtkdgakcmhnadfaaGreatDoor
open Go.ChangeShapes Go.WideShapes Go.ChangeAt Go.RowKit Go.Maps
set_option maxRecDepth 20000
set_option linter.unusedVariables false
set_option linter.unusedSimpArgs false
/- a file: its bytes, what is safe, whether anything is -/
structure Fl where
  b : ByteArray
  s : ByteArray
  h : Bool
def f0 : Fl := ⟨⟨#[]⟩, ⟨#[]⟩, false⟩
abbrev fv (f : Fl) : Value := .agg #[.string f.b, .string f.s, .bool f.h]
def fd (f : Fl) : DataW Unit := .agg [.lit (.string f.b.data.toList), .lit (.string f.s.data.toList), .lit (.bool f.h)]
def un : DataW Unit → Fl
  | .agg [.lit (.string a), .lit (.string b), .lit (.bool c)] => ⟨⟨a.toArray⟩, ⟨b.toArray⟩, c⟩
  | _ => f0
theorem un_fd (f : Fl) : un (fd f) = f := by cases f; simp [un, fd]
def Rf : Value → Option (DataW Unit × List MemPlace)
  | .agg cs => match cs.toList with
    | [.string a, .string b, .bool c] => some (fd ⟨a, b, c⟩, [])
    | _ => none
  | _ => none
theorem Rf_mk (f : Fl) : Rf (fv f) = some (fd f, []) := rfl
theorem Rf_inv {v : Value} {d : DataW Unit} {ps : List MemPlace} (h : Rf v = some (d, ps)) : v = fv (un d) := by
  unfold Rf at h
  split at h
  · rename_i cs
    split at h
    · rename_i a b c hc
      cases h
      rw [un_fd]
      have : cs = #[.string a, .string b, .bool c] := by
        cases cs
        simp at hc
        rw [hc]
      rw [this]
    · cases h
  · cases h
/- a name as a key -/
def kl (s : ByteArray) : Lit := .string s.data.toList
theorem kl_inj {s t : ByteArray} (h : kl s = kl t) : s = t := by
  cases s; cases t
  simp [kl] at h
  simp [h]
theorem kl_ne {s t : ByteArray} (h : s ≠ t) : kl s ≠ kl t := fun e => h (kl_inj e)
theorem kl_key (s : ByteArray) (h : s.size ≤ maxLen) : keyOf Tryz.prog 9 (.string s) = some (kl s) := Go.WideMaps.keyOf_string_mk Tryz.underlying9 h
theorem kl_lit (s : ByteArray) : WideAt.IsKeyLit (kl s) := trivial
theorem klaw : Keyed Tryz.prog 9 := string_keyed Tryz.underlying9
theorem zero69 (w : World) : (zeroValue 100).run Tryz.prog w = .ok (fv f0) w := by kernel_rfl
/- what is under a name -/
def vw (D : DataW Unit) (s : ByteArray) : Option Fl := if Maps.has D (kl s) = true then some (un (D.atKey (kl s) (fd f0))) else none
theorem vw_some {D : DataW Unit} {s : ByteArray} : (vw D s).isSome = Maps.has D (kl s) := by
  unfold vw
  by_cases h : Maps.has D (kl s) = true
  · simp [h]
  · simp [h]
theorem vw_put {D : DataW Unit} (hD : IsMap D) (s t : ByteArray) (f : Fl) : vw (D.put (kl s) (fd f)) t = if t = s then some f else vw D t := by
  unfold vw
  by_cases h : t = s
  · subst h
    rw [has_put_same hD (kl_lit _), atKey_put_same hD (kl_lit _), un_fd]
    simp
  · rw [has_put_other (kl_ne h), atKey_put_other (kl_ne h), if_neg h]
theorem vw_del {D : DataW Unit} (s t : ByteArray) : vw (D.del (kl s)) t = if t = s then none else vw D t := by
  unfold vw
  by_cases h : t = s
  · subst h
    rw [has_del_same]
    simp
  · rw [has_del_other (kl_ne h), atKey_del_other (kl_ne h), if_neg h]
theorem vw_nil (s : ByteArray) : vw (.map []) s = none := rfl
section
variable {w : World} {m n : Nat} {D : DataW Unit}
theorem look_t (h : w.ownsMap Tryz.prog 9 Rf m n D) {s : ByteArray} (hs : s.size ≤ maxLen) : (Instr.lookup 94 (.map (some m)) (.string s) true).run Tryz.prog w = .ok (.tuple #[fv ((vw D s).getD f0), .bool (vw D s).isSome]) w := by
  obtain ⟨v, ps, h1, h2⟩ := h.look_ok klaw Tryz.underlying94 (zero69 w) (Rf_mk f0) (kl_key s hs)
  rw [h1, vw_some, Rf_inv h2]
  unfold vw
  by_cases hh : Maps.has D (kl s) = true
  · simp [hh]
  · simp only [Bool.not_eq_true] at hh
    rw [atKey_of_not_has hh, un_fd]
    simp [hh]
theorem look_f (h : w.ownsMap Tryz.prog 9 Rf m n D) {s : ByteArray} (hs : s.size ≤ maxLen) : (Instr.lookup 94 (.map (some m)) (.string s) false).run Tryz.prog w = .ok (fv ((vw D s).getD f0)) w := by
  obtain ⟨v, ps, h1, h2⟩ := h.lookup klaw Tryz.underlying94 (zero69 w) (Rf_mk f0) (kl_key s hs)
  rw [h1, Rf_inv h2]
  unfold vw
  by_cases hh : Maps.has D (kl s) = true
  · simp [hh]
  · simp only [Bool.not_eq_true] at hh
    rw [atKey_of_not_has hh, un_fd]
    simp [hh]
theorem owns_size (h : w.ownsMap Tryz.prog 9 Rf m n D) : w.ownsMap Tryz.prog 9 Rf m (Maps.size D) D := by
  obtain ⟨es, clock, hb, F, hs, rfl⟩ := h
  exact ⟨es, clock, hb, F, by rw [size_eq, length_sorted]; simp, rfl⟩
end
/- a string's byte; may a file be called so -/
def sb (s : ByteArray) (i : Nat) : Nat := (s.data.toList.getD i 0).toNat
def gb (s : ByteArray) (i : Nat) : Prop := 33 ≤ sb s i ∧ sb s i ≤ 126
instance (s : ByteArray) (i : Nat) : Decidable (gb s i) := by unfold gb; infer_instance
def nm (s : ByteArray) : Bool := decide (1 ≤ s.size ∧ s.size ≤ 63 ∧ ∀ i, i < s.size → gb s i)
theorem nm_le {s : ByteArray} (h : nm s = true) : s.size ≤ 63 := (of_decide_eq_true h).2.1
/- a drive at block d, its map at block m -/
structure Drv (w : World) (d m : Nat) (D : DataW Unit) (full : Bool) (lost : Int) : Prop where
  blk : w.heap[d]? = some (.cells #[.map (some m), .bool full, .int .i64 lost] 96 (0, 0))
  own : w.ownsMap Tryz.prog 9 Rf m (Maps.size D) D
  size : Maps.size D ≤ 512
  good : ∀ s, (vw D s).isSome = true → nm s = true
section
variable {w w' : World} {d m : Nat} {D : DataW Unit} {full : Bool} {lost : Int}
theorem Drv.lt (h : Drv w d m D full lost) : d < w.heap.size := (Array.getElem?_eq_some_iff.1 h.blk).1
theorem Drv.mlt (h : Drv w d m D full lost) : m < w.heap.size := h.own.lt
theorem Drv.ne (h : Drv w d m D full lost) : m ≠ d := fun e => by
  obtain ⟨es, clock, hb, _⟩ := h.own
  rw [e, h.blk] at hb
  cases hb
theorem Drv.c0 (h : Drv w d m D full lost) : w.cell? ⟨d, 0, none⟩ = some (.map (some m)) := by simp [World.cell?, h.blk]
theorem Drv.c1 (h : Drv w d m D full lost) : w.cell? ⟨d, 1, none⟩ = some (.bool full) := by simp [World.cell?, h.blk]
theorem Drv.c2 (h : Drv w d m D full lost) : w.cell? ⟨d, 2, none⟩ = some (.int .i64 lost) := by simp [World.cell?, h.blk]
theorem Drv.isMap (h : Drv w d m D full lost) : IsMap D := h.own.isMap
theorem Drv.tidy (h : Drv w d m D full lost) : Tidy D := h.own.tidy klaw
theorem Drv.keep (h : Drv w d m D full lost) (h1 : w'.heap[d]? = w.heap[d]?) (h2 : w'.heap[m]? = w.heap[m]?) : Drv w' d m D full lost := by
  obtain ⟨es, clock, hb, F, hs, hD⟩ := h.own
  exact ⟨h1.trans h.blk, ⟨es, clock, h2.trans hb, F, hs, hD⟩, h.size, h.good⟩
theorem Drv.below (h : Drv w d m D full lost) (hb : Below w.heap.size w w') : Drv w' d m D full lost := h.keep (hb.block d h.lt) (hb.block m h.mlt)
end
/- all but the drive's two blocks is as it was -/
structure ChD (w w' : World) (d m : Nat) : Prop where
  os : w'.os = w.os
  tape : w'.tape = w.tape
  output : w'.output = w.output
  size : w.heap.size ≤ w'.heap.size
  block : ∀ k, k < w.heap.size → k ≠ d → k ≠ m → w'.heap[k]? = w.heap[k]?
section
variable {w w1 w2 : World} {d m : Nat}
theorem ChD.refl (w : World) (d m : Nat) : ChD w w d m := ⟨rfl, rfl, rfl, Nat.le_refl _, fun _ _ _ _ => rfl⟩
theorem ChD.trans (h : ChD w w1 d m) (k : ChD w1 w2 d m) : ChD w w2 d m :=
  ⟨k.os.trans h.os, k.tape.trans h.tape, k.output.trans h.output, Nat.le_trans h.size k.size, fun b h1 h2 h3 => (k.block b (Nat.lt_of_lt_of_le h1 h.size) h2 h3).trans (h.block b h1 h2 h3)⟩
theorem ChD.of_below (h : Below w.heap.size w w1) : ChD w w1 d m := ⟨h.os, h.tape, h.output, h.size, fun k h1 _ _ => h.block k h1⟩
theorem ChD.of_grown {r : Nat} (h : w.grownBy w1 (some r)) (hr : r = d ∨ r = m) : ChD w w1 d m := ⟨h.os, h.tape, h.output, h.size, fun k h1 h2 h3 => h.block k h1 (fun e => by cases e; rcases hr with h | h <;> simp_all)⟩
theorem ChD.below {B : Nat} (h : ChD w w1 d m) (hd : B ≤ d) (hm : B ≤ m) (hB : B ≤ w.heap.size) : Below B w w1 := ⟨h.os, h.tape, h.output, h.size, fun k hk => h.block k (by omega) (by omega) (by omega)⟩
end
/- a store and a delete -/
theorem drv_put {w : World} {d m : Nat} {D : DataW Unit} {full : Bool} {lost : Int} (h : Drv w d m D full lost) {s : ByteArray} (hn : nm s = true) (f : Fl) (hsz : Maps.size (D.put (kl s) (fd f)) ≤ 512) :
    ∃ w', (Instr.mapUpdate 94 (.map (some m)) (.string s) (fv f)).run Tryz.prog w = .ok () w' ∧ Drv w' d m (D.put (kl s) (fd f)) full lost ∧ ChD w w' d m := by
  obtain ⟨w', h1, h2, h3⟩ := h.own.store klaw Tryz.underlying94 (by have := h.size; unfold maxLen; omega) (kl_key s (by have := nm_le hn; unfold maxLen; omega)) (Rf_mk f)
  have g := h3.grown
  refine ⟨w', h1, ⟨(g.block d h.lt (fun e => by cases e; exact h.ne rfl)).trans h.blk, owns_size h2, hsz, fun t ht => ?_⟩, ChD.of_grown g (.inr rfl)⟩
  rw [vw_put h.isMap] at ht
  by_cases e : t = s
  · rw [e]; exact hn
  · rw [if_neg e] at ht; exact h.good t ht
theorem drv_del {w : World} {d m : Nat} {D : DataW Unit} {full : Bool} {lost : Int} (h : Drv w d m D full lost) {s : ByteArray} (hs : s.size ≤ maxLen) (ty : TypeId) :
    ∃ w', (Builtin.delete_ #[94, 9] ty #[.map (some m), .string s]).run Tryz.prog w = .ok (.tuple #[]) w' ∧ Drv w' d m (D.del (kl s)) full lost ∧ ChD w w' d m := by
  obtain ⟨w', h1, h2, h3⟩ := h.own.drop klaw Tryz.underlying94 (kl_key s hs) ty
  have g := h3.grown
  have e := size_del (k := kl s) h.tidy
  refine ⟨w', h1, ⟨(g.block d h.lt (fun e => by cases e; exact h.ne rfl)).trans h.blk, owns_size h2, by have := h.size; omega, fun t ht => ?_⟩, ChD.of_grown g (.inr rfl)⟩
  rw [vw_del] at ht
  by_cases e : t = s
  · rw [if_pos e] at ht; cases ht
  · rw [if_neg e] at ht; exact h.good t ht
theorem put_size {D : DataW Unit} (hD : Tidy D) (s : ByteArray) (f : Fl) : Maps.size (D.put (kl s) (fd f)) = if (vw D s).isSome = true then Maps.size D else Maps.size D + 1 := by
  rw [size_put hD, vw_some]
end Go.Proofs.YtkdgakcmhnadfaaGreatDoor

/- Db -/
/- Small functions of package disk: isName, synced, keep; strings.Clone. -/
namespace Go.Proofs.YtkdgakcmhnadfaaGreatDoor
open Go.ChangeShapes Go.WideShapes Go.ChangeAt Go.RowKit
set_option maxRecDepth 20000
set_option linter.unusedVariables false
set_option linter.unusedSimpArgs false
theorem sb_lt (s : ByteArray) (i : Nat) : sb s i < 256 := UInt8.toNat_lt _
theorem sb_ix (s : ByteArray) (i : Nat) (z : Int) (hz : z = (i : Int)) (h : i < s.size) (w : World) : (Instr.index 9 (.string s) (.int .i64 z)).run Tryz.prog w = .ok (.int .u8 (sb s i : Nat)) w := by
  subst hz
  rw [run_index_string w _ _ _ _ Tryz.underlying9, dif_pos ⟨by omega, by omega⟩]
  have e : (s[((i : Int)).toNat]'(by simpa using h)).toNat = sb s i := by
    have h3 : i < s.data.size := h
    have e2 : s.data.toList.getD i 0 = s.data[i] := by
      rw [List.getD, Array.getElem?_toList, Array.getElem?_eq_getElem h3]
      rfl
    unfold sb
    rw [e2]
    rfl
  rw [e]
set_option maxHeartbeats 1000000 in
theorem name_n (s : ByteArray) (hs : s.size ≤ 9223372036854775807) (w : World) : Calls Tryz.prog 75 #[.string s] w fun e w' => e = .returned (.bool (nm s)) ∧ w' = w := by
  go_enter Tryz.func75, Tryz.ntmps75
  by_cases h1 : s.size = 0
  · have e1 : nm s = false := decide_eq_false (fun h => by omega)
    rw [e1]
    have i1 : (s.size : Int) < 1 := by omega
    go_wp2
    go_ret
    exact ⟨rfl, rfl⟩
  · by_cases h2 : 63 < s.size
    · have e1 : nm s = false := decide_eq_false (fun h => by omega)
      rw [e1]
      have i1 : ¬ ((s.size : Int) < 1) := by omega
      have i2 : (63 : Int) < (s.size : Int) := by omega
      go_wp2
      go_ret
      exact ⟨rfl, rfl⟩
    · have i1 : ¬ ((s.size : Int) < 1) := by omega
      have i2 : ¬ ((63 : Int) < (s.size : Int)) := by omega
      obtain ⟨n, Hn⟩ : ∃ n, Hid (s.size = n) := ⟨_, rfl⟩
      have hN : Hid (1 ≤ n ∧ n ≤ 63) := by have := Hn.out; exact ⟨by omega, by omega⟩
      go_wp2
      rw [Hn.out]
      clear i1 i2 h1 h2 hs
      go_loopw [14] (fun ti wr => ∃ k : Nat, k ≤ n ∧ ti = .int .i64 k ∧ Hid (∀ j, j < k → gb s j) ∧ wr = w) (fun ti _ => n - (intOf ti).toNat)
      case atStart => exact ⟨0, by omega, rfl, fun j hj => by omega, rfl⟩
      case round =>
        obtain ⟨k, hk, rfl, HK, rfl⟩ := hrel
        by_cases hlt : k < n
        · have i3 : (k : Int) < (n : Int) := by omega
          have n63 : n ≤ 63 := hN.out.2
          have ix := sb_ix s k (k : Int) rfl (by rw [Hn.out]; exact hlt)
          obtain ⟨y, Hy⟩ : ∃ y, Hid (sb s k = y) := ⟨_, rfl⟩
          simp only [Hy.out] at ix
          by_cases hy1 : y < 33
          · have e1 : nm s = false := decide_eq_false (fun h => by have h4 := h.2.2 k (by rw [Hn.out]; exact hlt); unfold gb at h4; rw [Hy.out] at h4; omega)
            have i4 : (y : Int) < 33 := by omega
            go_wp2
            go_ret
            exact ⟨by first | rfl | (rw [e1]; rfl), rfl⟩
          · by_cases hy2 : 126 < y
            · have e1 : nm s = false := decide_eq_false (fun h => by have h4 := h.2.2 k (by rw [Hn.out]; exact hlt); unfold gb at h4; rw [Hy.out] at h4; omega)
              have i4 : ¬ ((y : Int) < 33) := by omega
              have i5 : (126 : Int) < (y : Int) := by omega
              go_wp2
              go_ret
              exact ⟨by first | rfl | (rw [e1]; rfl), rfl⟩
            · have i4 : ¬ ((y : Int) < 33) := by omega
              have i5 : ¬ ((126 : Int) < (y : Int)) := by omega
              have NX : Hid (∀ j, j < k + 1 → gb s j) := fun j hj => by
                by_cases hjk : j = k
                · subst hjk
                  unfold gb
                  rw [Hy.out]
                  omega
                · exact HK.out j (by omega)
              go_wp2
              go_roundw
              case rel => exact ⟨k + 1, by omega, by go_num, NX.out, by first | rfl | trivial⟩
              case measure => simp [intOf]; omega
        · have e1 : nm s = true := decide_eq_true ⟨by have := hN.out; have := Hn.out; omega, by have := hN.out; have := Hn.out; omega, fun i hi => HK.out i (by have := Hn.out; omega)⟩
          go_wp2
          go_ret
          exact ⟨by first | rfl | (rw [e1]; rfl), rfl⟩
theorem clone55_n (s : ByteArray) (w : World) (hs : s.size ≤ 281474976710656) : Calls Tryz.prog 123 #[.string s] w fun e w' => e = .returned (.string s) ∧ Below w.heap.size w w' := Any.stringslite_Clone Tryz.clone55 s w hs
theorem dclone_n (s : ByteArray) (w : World) (hs : s.size ≤ 281474976710656) : Calls Tryz.prog 96 #[.string s] w fun e w' => e = .returned (.string s) ∧ Hid (Below w.heap.size w w') := by
  go_enter Tryz.func96, Tryz.ntmps96
  go_wp2_with (go_at_call 123; refine (clone55_n s _ hs).mono ?_; rintro e w1 ⟨rfl, h1⟩; have H1 : Hid (Below w.heap.size w w1) := h1; clear h1)
  go_ret
  exact ⟨rfl, H1.out⟩
theorem synced_n (f : Fl) (w : World) : Calls Tryz.prog 80 #[fv f] w fun e w' => e = .returned (fv ⟨f.b, f.b, true⟩) ∧ Hid (Below w.heap.size w w') := by
  obtain ⟨x, y, c⟩ := f
  go_enter Tryz.func80, Tryz.ntmps80
  go_wp2
  refine bodyPost_ret (v := .agg #[.string x, .string x, .bool true]) (by simp [results, Tryz.results80, go_sem]) rfl ⟨rfl, ?_⟩
  exact ((Below.refl _ w).alloc (Nat.le_refl _) _).alloc (by simp) _
/- what keep reads -/
structure Kq (W : World) (d m g : Nat) (f : Fl) : Prop where
  c0 : W.cell? ⟨d, 0, none⟩ = some (.map (some m))
  q0 : W.cell? ⟨g, 0, none⟩ = some (.string f.b)
  q1 : W.cell? ⟨g, 1, none⟩ = some (.string f.s)
  q2 : W.cell? ⟨g, 2, none⟩ = some (.bool f.h)
theorem Kq.below {W W' : World} {d m g : Nat} {f : Fl} (h : Kq W d m g f) (hb : Below W.heap.size W W') : Kq W' d m g f :=
  ⟨(hb.cell (p := ⟨d, 0, none⟩) (cell_lt h.c0)).trans h.c0, (hb.cell (p := ⟨g, 0, none⟩) (cell_lt h.q0)).trans h.q0, (hb.cell (p := ⟨g, 1, none⟩) (cell_lt h.q1)).trans h.q1, (hb.cell (p := ⟨g, 2, none⟩) (cell_lt h.q2)).trans h.q2⟩
set_option maxHeartbeats 1000000 in
theorem keep_n {w : World} {d m : Nat} {D : DataW Unit} {full : Bool} {lost : Int} (hD : Hid (Drv w d m D full lost)) (s : ByteArray) (hs : Hid (nm s = true)) (f : Fl) (hz : Hid (Maps.size (D.put (kl s) (fd f)) ≤ 512)) :
    Calls Tryz.prog 56 #[.pointer (some ⟨d, 0, none⟩), .string s, fv f] w fun e w' => e = .returned (.tuple #[]) ∧ Hid (Drv w' d m (D.put (kl s) (fd f)) full lost ∧ ChD w w' d m) := by
  go_enter Tryz.func56, Tryz.ntmps56
  go_upto_region 1 with (fail)
  obtain ⟨x, y, c⟩ := f
  obtain ⟨g, Hg⟩ : ∃ g, Hid (w.heap.size = g) := ⟨_, rfl⟩
  have b0 : Below w.heap.size w (w.alloc (.cells #[.string x, .string y, .bool c] 100)).drew := ((Below.refl _ w).alloc (Nat.le_refl _) _).drew
  have D0 := hD.out.below b0
  have lt0 : d < g ∧ m < g := by rw [← Hg.out]; exact ⟨hD.out.lt, hD.out.mlt⟩
  have K0 : Kq (w.alloc (.cells #[.string x, .string y, .bool c] 100)).drew d m g ⟨x, y, c⟩ := by
    rw [← Hg.out]
    exact ⟨D0.c0, by simp, by simp, by simp⟩
  have HB : Hid (Below w.heap.size w (w.alloc (.cells #[.string x, .string y, .bool c] 100)).drew ∧ Drv (w.alloc (.cells #[.string x, .string y, .bool c] 100)).drew d m D full lost ∧ (d < g ∧ m < g) ∧ g < (w.alloc (.cells #[.string x, .string y, .bool c] 100)).drew.heap.size) := ⟨b0, D0, lt0, by rw [← Hg.out]; simp⟩
  clear b0 D0 lt0
  refine wp_region_till (S := fun L W => Kq W d m g ⟨x, y, c⟩) (by kernel_rfl) K0 (fun hS => ?_)
  rw [Hg.out]
  clear K0
  refine till_take (i := 0) (v := .pointer (some ⟨d, 0, none⟩)) rfl (by kernel_rfl) (by kernel_rfl) (by kernel_rfl) (fun _ _ _ h => h) (fun L w => Iff.rfl) (Or.inl ⟨by rfl, fun w => by go_simp⟩) hS (fun hSb => ?_)
  simp only [List.getElem_toArray, List.getElem_cons_zero, List.getElem_cons_succ, Act.put, List.setIfInBounds_toArray, List.set_cons_zero, List.set_cons_succ]
  clear hS
  refine till_take (i := 1) (v := .pointer (some ⟨d, 0, none⟩)) rfl (by kernel_rfl) (by kernel_rfl) (by kernel_rfl) (fun _ _ _ h => h) (fun L w => Iff.rfl) (Or.inl ⟨by rfl, fun w => by go_simp⟩) hSb (fun hS => ?_)
  simp only [List.getElem_toArray, List.getElem_cons_zero, List.getElem_cons_succ, Act.put, List.setIfInBounds_toArray, List.set_cons_zero, List.set_cons_succ]
  clear hSb
  refine till_take (i := 2) (v := .pointer (some ⟨d, 0, none⟩)) rfl (by kernel_rfl) (by kernel_rfl) (by kernel_rfl) (fun _ _ _ h => h) (fun L w => Iff.rfl) (Or.inl ⟨by rfl, fun w => by go_simp⟩) hS (fun hSb => ?_)
  simp only [List.getElem_toArray, List.getElem_cons_zero, List.getElem_cons_succ, Act.put, List.setIfInBounds_toArray, List.set_cons_zero, List.set_cons_succ]
  clear hS
  refine till_read (i := 3) (c := 7) (v := .map (some m)) (T := fun W => Kq W d m g ⟨x, y, c⟩) rfl rfl (by kernel_rfl) (by kernel_rfl) (by kernel_rfl) (by kernel_rfl) (by kernel_rfl) (fun _ _ _ h => h) (fun L w => Iff.rfl) (fun L w h1 h2 => h2) (Or.inl ⟨by rfl, fun w h => by have q := h.c0; go_simp⟩) hSb (fun hS => ?_)
  simp only [List.getElem_toArray, List.getElem_cons_zero, List.getElem_cons_succ, Act.put, List.setIfInBounds_toArray, List.set_cons_zero, List.set_cons_succ]
  clear hSb
  refine till_take (i := 4) (v := .string s) rfl (by kernel_rfl) (by kernel_rfl) (by kernel_rfl) (fun _ _ _ h => h) (fun L w => Iff.rfl) (Or.inl ⟨by rfl, fun w => by go_simp⟩) hS (fun hSb => ?_)
  simp only [List.getElem_toArray, List.getElem_cons_zero, List.getElem_cons_succ, Act.put, List.setIfInBounds_toArray, List.set_cons_zero, List.set_cons_succ]
  clear hS
  refine till_read (i := 6) (c := 7) (v := fv ⟨x, y, c⟩) (T := fun W => Kq W d m g ⟨x, y, c⟩) rfl rfl (by kernel_rfl) (by kernel_rfl) (by kernel_rfl) (by kernel_rfl) (by kernel_rfl) (fun _ _ _ h => h) (fun L w => Iff.rfl) (fun L w h1 h2 => h2) (Or.inl ⟨by rfl, fun w h => by have q0 := h.q0; have q1 := h.q1; have q2 := h.q2; go_simp⟩) hSb (fun hS => ?_)
  simp only [List.getElem_toArray, List.getElem_cons_zero, List.getElem_cons_succ, Act.put, List.setIfInBounds_toArray, List.set_cons_zero, List.set_cons_succ]
  clear hSb
  refine till_one (i := 5) (by kernel_rfl) rfl (fun K hK => ?_)
  simp only [List.getElem_toArray, List.getElem_cons_zero, List.getElem_cons_succ]
  rw [if_pos (by rfl)]
  go_simp
  go_wp2_with (go_at_call 96; refine (dclone_n s _ (by have := nm_le hs.out; omega)).mono ?_; rintro e w1 ⟨rfl, H1⟩)
  have K1 : Kq w1 d m g ⟨x, y, c⟩ := hS.below H1.out
  have D1 : Drv w1 d m D full lost := HB.out.2.1.below H1.out
  obtain ⟨w2, MU, D2, C2⟩ := drv_put D1 (s := s) hs.out ⟨x, y, c⟩ hz.out
  have lg : g < w1.heap.size := Nat.lt_of_lt_of_le HB.out.2.2.2 H1.out.size
  have K2 : Kq w2 d m g ⟨x, y, c⟩ := by
    have e : w2.heap[g]? = w1.heap[g]? := C2.block g lg (by have := HB.out.2.2.1; omega) (by have := HB.out.2.2.1; omega)
    exact ⟨D2.c0, (World.cell?_of_block (a := ⟨g, 0, none⟩) e).trans K1.q0, (World.cell?_of_block (a := ⟨g, 1, none⟩) e).trans K1.q1, (World.cell?_of_block (a := ⟨g, 2, none⟩) e).trans K1.q2⟩
  have FIN : Hid (Drv w2 d m (D.put (kl s) (fd ⟨x, y, c⟩)) full lost ∧ ChD w w2 d m) := ⟨D2, ((ChD.of_below HB.out.1).trans (ChD.of_below H1.out)).trans C2⟩
  refine hK.out _ _ K1 (fun hSx => ?_)
  clear hK K hS
  try simp only [List.getElem_toArray, List.getElem_cons_zero, List.getElem_cons_succ, Act.put, List.setIfInBounds_toArray, List.set_cons_zero, List.set_cons_succ]
  refine till_one (i := 7) (by kernel_rfl) rfl (fun K hK => ?_)
  simp only [List.getElem_toArray, List.getElem_cons_zero, List.getElem_cons_succ]
  rw [if_pos (by rfl)]
  clear D2 C2 D1 K1 HB lg
  go_simp
  refine hK.out _ _ K2 (fun hSy => ?_)
  clear hK K
  refine till_done (by kernel_rfl) ?_ _
  go_end0
  exact ⟨rfl, FIN.out⟩
end Go.Proofs.YtkdgakcmhnadfaaGreatDoor
