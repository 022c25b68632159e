/- Fields in memory; Field and Count. -/
import Derived.Test.YtemhhlongfabmaaGreatDoorHd
namespace Go.Proofs.YtemhhlongfabmaaGreatDoor
open Go.ChangeShapes Go.WideShapes Go.ChangeAt Go.RowKit
set_option maxRecDepth 20000
set_option linter.unusedVariables false
set_option linter.unusedSimpArgs false
abbrev Fl : Type := ByteArray × ByteArray
def fz : Fl := (⟨#[]⟩, ⟨#[]⟩)
/- a row of fields, wherever it lies -/
structure Fw (w : World) (a : Option Addr) (n : Nat) (l : List Fl) : Prop where
  len : n = l.length
  sz : n ≤ 4398046511103
  vs : ∀ i, i < n → (l.getD i fz).2.size ≤ 140737488355328
  at_ : n = 0 ∨ ∃ b off, a = some ⟨b, off, none⟩ ∧ b < w.heap.size ∧ ∀ i, i < n → w.cell? ⟨b, off + i * 2, none⟩ = some (.string (l.getD i fz).1) ∧ w.cell? ⟨b, off + i * 2 + 1, none⟩ = some (.string (l.getD i fz).2)
theorem Fw.below {w w' : World} {a : Option Addr} {n : Nat} {l : List Fl} (h : Fw w a n l) (hb : Below w.heap.size w w') : Fw w' a n l := by
  refine ⟨h.len, h.sz, h.vs, h.at_.imp id ?_⟩
  rintro ⟨b, off, h1, h2, h3⟩
  refine ⟨b, off, h1, Nat.lt_of_lt_of_le h2 hb.size, fun i hi => ⟨?_, ?_⟩⟩
  · exact (hb.cell (p := ⟨b, off + i * 2, none⟩) h2).trans (h3 i hi).1
  · exact (hb.cell (p := ⟨b, off + i * 2 + 1, none⟩) h2).trans (h3 i hi).2
/- the first field with this name; how many have it -/
def fst? : List Fl → ByteArray → Option ByteArray
  | [], _ => none
  | f :: r, nm => if f.1 = nm then some f.2 else fst? r nm
def cntF (l : List Fl) (nm : ByteArray) : Nat := (l.filter (fun f => decide (f.1 = nm))).length
theorem fst_at {nm : ByteArray} : ∀ {l : List Fl} {i : Nat}, i < l.length → (∀ j, j < i → (l.getD j fz).1 ≠ nm) → (l.getD i fz).1 = nm → fst? l nm = some (l.getD i fz).2
  | [], i, h, _, _ => absurd h (by simp)
  | f :: r, 0, _, _, h => by
    have h1 : f.1 = nm := by simpa using h
    simp [fst?, h1]
  | f :: r, i + 1, h, hn, he => by
    have h0 : f.1 ≠ nm := by simpa using hn 0 (by omega)
    rw [fst?, if_neg h0]
    have := fst_at (l := r) (i := i) (by simpa using h) (fun j hj => by simpa using hn (j + 1) (by omega)) (by simpa using he)
    rw [this]
    simp
theorem fst_none {nm : ByteArray} : ∀ {l : List Fl}, (∀ j, j < l.length → (l.getD j fz).1 ≠ nm) → fst? l nm = none
  | [], _ => rfl
  | f :: r, h => by
    have h0 : f.1 ≠ nm := by simpa using h 0 (by simp)
    rw [fst?, if_neg h0]
    exact fst_none (fun j hj => by simpa using h (j + 1) (by simp; omega))
theorem cnt_take {l : List Fl} {nm : ByteArray} {i : Nat} (h : i < l.length) : cntF (l.take (i + 1)) nm = cntF (l.take i) nm + if (l.getD i fz).1 = nm then 1 else 0 := by
  unfold cntF
  rw [List.take_succ_eq_append_getElem h, List.filter_append, List.length_append]
  have e : l.getD i fz = l[i] := by simp [List.getD, h]
  rw [e]
  by_cases hn : l[i].1 = nm <;> simp [hn]
theorem cnt_le (l : List Fl) (nm : ByteArray) (i : Nat) : cntF (l.take i) nm ≤ i := by
  unfold cntF
  have h1 := List.length_filter_le (fun f : Fl => decide (f.1 = nm)) (l.take i)
  have h2 : (l.take i).length ≤ i := by simp; omega
  omega
def FldEnd (o : Option ByteArray) (e : Ending) : Prop := match o with
  | some v => e = .returned (.tuple #[.string v, .bool true])
  | none => e = .returned (.tuple #[.string ⟨#[]⟩, .bool false])
set_option maxHeartbeats 2000000 in
theorem field_n {m t nm : ByteArray} {a : Option Addr} {n c : Nat} {B : Value} {l : List Fl} {w : World} (hF : Hid (Fw w a n l)) :
    Calls Tryz.prog 17 #[.agg #[.string m, .string t, .slice a n c, B], .string nm] w fun e w' => FldEnd (fst? l nm) e ∧ Hid (Below w.heap.size w w') := by
  have hsz := hF.out.sz
  go_enter Tryz.func17, Tryz.ntmps17
  go_wp2
  obtain ⟨wa, HA⟩ : ∃ wa, Hid (w.alloc (.cells #[.string m, .string t, .slice a n c, B] 27) = wa) := ⟨_, rfl⟩
  rw [HA.out]
  have BA : Hid (Below w.heap.size w wa) := by rw [← HA.out]; exact alloc1 _ _
  clear HA
  go_loopw [11] (fun ti wr => ∃ i : Nat, i ≤ n ∧ ti = .int .i64 (i : Int) ∧ Hid (∀ j, j < i → (l.getD j fz).1 ≠ nm) ∧ Hid (Below w.heap.size w wr)) (fun ti _ => n - (intOf ti).toNat)
  case atStart => exact ⟨0, by omega, rfl, fun j hj => by omega, BA.out⟩
  case round =>
    obtain ⟨i, hi, rfl, HN, HB⟩ := hrel
    by_cases hlt : i < n
    · have i1 : (i : Int) < (n : Int) := by omega
      obtain ⟨b, off, rfl, hb, hc⟩ := (hF.out.below HB.out).at_.resolve_left (by omega)
      obtain ⟨c0, c1⟩ := hc i hlt
      obtain ⟨x, Hx⟩ : ∃ x, Hid ((l.getD i fz).1 = x) := ⟨_, rfl⟩
      obtain ⟨y, Hy⟩ : ∃ y, Hid ((l.getD i fz).2 = y) := ⟨_, rfl⟩
      rw [Hx.out] at c0
      rw [Hy.out] at c1
      have zy : y.size ≤ 281474976710656 := by have := hF.out.vs i hlt; rw [Hy.out] at this; omega
      obtain ⟨w1, hw1⟩ : ∃ w1, w1 = wr.alloc (.cells #[.string x, .string y] 41) := ⟨_, rfl⟩
      have e0 : w1.cell? ⟨wr.heap.size, 0, none⟩ = some (.string x) := by rw [hw1]; simp
      have e1 : w1.cell? ⟨wr.heap.size, 1, none⟩ = some (.string y) := by rw [hw1]; simp
      have L1 : Hid (Below w.heap.size w w1) := by rw [hw1]; exact HB.out.alloc HB.out.size _
      clear hc
      obtain ⟨bq, Eq⟩ : ∃ bq, Hid (decide (x = nm) = bq) := ⟨_, rfl⟩
      have q0 : (x.toList == nm.toList) = bq := by rw [beq_ba, Eq.out]
      cases bq with
      | true =>
        have FE : Hid (fst? l nm = some y) := (fst_at (by rw [← hF.out.len]; exact hlt) HN.out (by rw [Hx.out]; exact of_decide_eq_true Eq.out)).trans (by rw [Hy.out])
        go_upto_region 4 with (fail)
        rw [← hw1]
        obtain ⟨q, hq⟩ : ∃ q, q = wr.heap.size := ⟨_, rfl⟩
        rw [← hq] at e0 e1 ⊢
        clear hw1 hq c0 c1
        go_wp2_with (go_at_call 34; refine (clone_n y zy _).mono ?_; rintro e w2 ⟨rfl, B2⟩)
        go_ret2
        rw [FE.out]
        exact ⟨rfl, L1.out.trans ⟨B2.out.os, B2.out.tape, B2.out.output, B2.out.size, fun k hk => B2.out.block k (Nat.lt_of_lt_of_le hk L1.out.size)⟩⟩
      | false =>
        have NX : Hid (∀ j, j < i + 1 → (l.getD j fz).1 ≠ nm) := fun j hj => by
          by_cases e : j = i
          · subst e; rw [Hx.out]; exact of_decide_eq_false Eq.out
          · exact HN.out j (by omega)
        go_upto_region 4 with (fail)
        rw [← hw1]
        obtain ⟨q, hq⟩ : ∃ q, q = wr.heap.size := ⟨_, rfl⟩
        rw [← hq] at e0 e1 ⊢
        clear hw1 hq c0 c1
        go_wp2
        go_roundw
        case rel => exact ⟨i + 1, by omega, by go_num, NX.out, L1.out⟩
        case measure => simp [intOf]; omega
    · have FE : Hid (fst? l nm = none) := fst_none (fun j hj => HN.out j (by have := hF.out.len; omega))
      go_wp2
      go_ret2
      rw [FE.out]
      exact ⟨rfl, HB.out⟩
set_option maxHeartbeats 2000000 in
theorem count_n {m t nm : ByteArray} {a : Option Addr} {n c : Nat} {B : Value} {l : List Fl} {w : World} (hF : Hid (Fw w a n l)) :
    Calls Tryz.prog 18 #[.agg #[.string m, .string t, .slice a n c, B], .string nm] w fun e w' => e = .returned (.int .i64 (cntF l nm : Nat)) ∧ Hid (Below w.heap.size w w') := by
  have hsz := hF.out.sz
  go_enter Tryz.func18, Tryz.ntmps18
  go_wp2
  obtain ⟨wa, HA⟩ : ∃ wa, Hid (w.alloc (.cells #[.string m, .string t, .slice a n c, B] 27) = wa) := ⟨_, rfl⟩
  rw [HA.out]
  have BA : Hid (Below w.heap.size w wa) := by rw [← HA.out]; exact alloc1 _ _
  clear HA
  go_loopw [11, 5] (fun ti tn wr => ∃ i k : Nat, i ≤ n ∧ k ≤ i ∧ ti = .int .i64 (i : Int) ∧ tn = .int .i64 (k : Int) ∧ Hid (k = cntF (l.take i) nm) ∧ Hid (Below w.heap.size w wr)) (fun ti _ _ => n - (intOf ti).toNat)
  case atStart => exact ⟨0, 0, by omega, by omega, rfl, rfl, rfl, BA.out⟩
  case round =>
    obtain ⟨i, k, hi, hk, rfl, rfl, HN, HB⟩ := hrel
    by_cases hlt : i < n
    · have i1 : (i : Int) < (n : Int) := by omega
      obtain ⟨b, off, rfl, hb, hc⟩ := (hF.out.below HB.out).at_.resolve_left (by omega)
      obtain ⟨c0, c1⟩ := hc i hlt
      obtain ⟨x, Hx⟩ : ∃ x, Hid ((l.getD i fz).1 = x) := ⟨_, rfl⟩
      obtain ⟨y, Hy⟩ : ∃ y, Hid ((l.getD i fz).2 = y) := ⟨_, rfl⟩
      rw [Hx.out] at c0
      rw [Hy.out] at c1
      obtain ⟨w1, hw1⟩ : ∃ w1, w1 = wr.alloc (.cells #[.string x, .string y] 41) := ⟨_, rfl⟩
      have e0 : w1.cell? ⟨wr.heap.size, 0, none⟩ = some (.string x) := by rw [hw1]; simp
      have e1 : w1.cell? ⟨wr.heap.size, 1, none⟩ = some (.string y) := by rw [hw1]; simp
      have L1 : Hid (Below w.heap.size w w1) := by rw [hw1]; exact HB.out.alloc HB.out.size _
      clear hc
      obtain ⟨bq, Eq⟩ : ∃ bq, Hid (decide (x = nm) = bq) := ⟨_, rfl⟩
      have q0 : (x.toList == nm.toList) = bq := by rw [beq_ba, Eq.out]
      have CT : Hid (cntF (l.take (i + 1)) nm = cntF (l.take i) nm + if (l.getD i fz).1 = nm then 1 else 0) := cnt_take (by rw [← hF.out.len]; exact hlt)
      cases bq with
      | true =>
        have NX : Hid (k + 1 = cntF (l.take (i + 1)) nm) := (by rw [CT.out, if_pos (by rw [Hx.out]; exact of_decide_eq_true Eq.out), ← HN.out] : k + 1 = cntF (l.take (i + 1)) nm)
        go_upto_region 5 with (fail)
        rw [← hw1]
        obtain ⟨q, hq⟩ : ∃ q, q = wr.heap.size := ⟨_, rfl⟩
        rw [← hq] at e0 e1 ⊢
        clear hw1 hq c0 c1
        go_wp2
        go_roundw
        case rel => exact ⟨i + 1, k + 1, by omega, by omega, by go_num, by go_num, NX.out, L1.out⟩
        case measure => simp [intOf]; omega
      | false =>
        have NX : Hid (k = cntF (l.take (i + 1)) nm) := (by rw [CT.out, if_neg (by rw [Hx.out]; exact of_decide_eq_false Eq.out), ← HN.out]; rfl : k = cntF (l.take (i + 1)) nm)
        go_upto_region 5 with (fail)
        rw [← hw1]
        obtain ⟨q, hq⟩ : ∃ q, q = wr.heap.size := ⟨_, rfl⟩
        rw [← hq] at e0 e1 ⊢
        clear hw1 hq c0 c1
        go_wp2
        go_roundw
        case rel => exact ⟨i + 1, k, by omega, by omega, by go_num, rfl, NX.out, L1.out⟩
        case measure => simp [intOf]; omega
    · have FE : cntF l nm = k := by have h := HN.out; rw [List.take_of_length_le (by have := hF.out.len; omega)] at h; exact h.symm
      have FE : Hid (cntF l nm = k) := FE
      go_wp2
      go_ret
      rw [FE.out]
      exact ⟨rfl, HB.out⟩
end Go.Proofs.YtemhhlongfabmaaGreatDoor
