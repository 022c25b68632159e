/- The law ShaCuts walked: for all bytes and numbers it returns true, and changes nothing that was there. -/
import Derived.Test.YtnckcaaejfckaaaDoorSl
import Derived.ChangeKeysEq
namespace Go.Proofs.YtnckcaaejfckaaaDoor
open Go.ChangeShapes Go.WideShapes Go.ChangeAt Go.RowKit
set_option linter.unusedVariables false
set_option linter.unusedSimpArgs false
theorem part_cs (d : List Nat) (j : Nat) (hj : j < d.length) (w : World) : (part 5 (cs .u8 d) (j * 1)).run Tryd.prog w = .ok (.int .u8 ((d.getD j 0 : Nat) : Int)) w := by
  have h2 : (cs .u8 d)[j]? = some (.int .u8 ((d.getD j 0 : Nat) : Int)) := by simp [cs, wv, List.getD, hj]
  simp [part, go_sem, h2]
theorem eqItems_same (d : List Nat) (w : World) : ∀ is : List Nat, (∀ j ∈ is, j < d.length) → (Op.eqItems 9999 5 1 (cs .u8 d) (cs .u8 d) is).run Tryd.prog w = .ok true w
  | [], _ => by simp [Op.eqItems]
  | j :: is, h => by
    have hj := h j (by simp)
    have ih := eqItems_same d w is (fun x hx => h x (by simp [hx]))
    have e : (Op.equalIn 9999 5 (.int .u8 ((d.getD j 0 : Nat) : Int)) (.int .u8 ((d.getD j 0 : Nat) : Int))).run Tryd.prog w = .ok true w := by
      rw [run_equalIn_int w 9998 5 .u8 .u8 _ _ Tryd.underlying5]
      simp
    simp only [Op.eqItems, Sem.run_bind, part_cs d j hj w, Result.andThen_ok, e, Bool.not_true, Bool.false_eq_true, if_false]
    exact ih
theorem eq_same (d : List Nat) (hd : d.length = 32) (w : World) : (Op.equalIn 10000 25 (.agg (cs .u8 d)) (.agg (cs .u8 d))).run Tryd.prog w = .ok true w := by
  obtain ⟨i, hi, _⟩ := info_parts info5
  have h := run_equalIn_array (P := Tryd.prog) w 9999 (cs .u8 d) (cs .u8 d) Tryd.underlying25 hi
  have c : Tryd.prog.cellsOf 5 = 1 := cells5
  rw [c] at h
  rw [h]
  exact eqItems_same d w _ (fun j hj => by rw [hd]; simpa using hj)
theorem slice_mid {w : World} {a : Option Addr} {n m lo hi : Nat} {l : List Nat} (h : Sln w a n l) (h1 : lo ≤ hi) (h2 : hi ≤ n) (h3 : hi ≤ m) : Sln w (if m = lo then a else a.map (·.add lo)) (hi - lo) ((l.drop lo).take (hi - lo)) := by
  have e := h.len
  refine ⟨by simp; omega, fun x hx => h.lt x (List.mem_of_mem_drop (List.mem_of_mem_take hx)), by have := h.sli.2.1; simp; omega, ?_⟩
  by_cases h0 : hi = lo
  · exact .inl (by rw [h0]; simp)
  · right
    have hl0 : l ≠ [] := by intro hh; rw [hh] at e; simp at e; omega
    obtain ⟨b, off, rfl, hl, hr⟩ := h.sli.2.2.resolve_left hl0
    rw [if_neg (by omega)]
    refine ⟨b, off + lo, by simp [Addr.add], hl, fun i hi' => ?_⟩
    have hi2 : i < hi - lo := by simp at hi'; omega
    have h2 := hr (lo + i) (by omega)
    have h3 : ((l.drop lo).take (hi - lo)).getD i 0 = l.getD (lo + i) 0 := by simp [List.getD, hi2]
    rw [h3, Nat.add_assoc]
    exact h2
theorem slice_to {w : World} {a : Option Addr} {n lo : Nat} {l : List Nat} (h : Sln w a n l) (h1 : lo ≤ n) : Sln w a lo (l.take lo) := by
  have e := h.len
  refine ⟨by simp; omega, fun x hx => h.lt x (List.mem_of_mem_take hx), by have := h.sli.2.1; simp; omega, ?_⟩
  by_cases h0 : l = []
  · exact .inl (by rw [h0]; simp)
  · right
    obtain ⟨b, off, rfl, hl, hr⟩ := h.sli.2.2.resolve_left h0
    refine ⟨b, off, rfl, hl, fun i hi' => ?_⟩
    have hi2 : i < lo := by simp at hi'; omega
    have h2 := hr i (by omega)
    have h3 : (l.take lo).getD i 0 = l.getD i 0 := by simp [List.getD, hi2]
    rw [h3]
    exact h2
/- a hash of the call's own -/
structure Hd (w wr : World) (g : Nat) (A : List Nat) : Prop where
  hs : HS wr g A
  bel : Below w.heap.size w wr
  ge : w.heap.size ≤ g
theorem Hd.below {w a b : World} {g : Nat} {A : List Nat} (h : Hd w a g A) (hb : Below a.heap.size a b) : Hd w b g A := ⟨h.hs.below hb, h.bel.trans (hb.mono h.bel.size), h.ge⟩
theorem new_h {w wr : World} (h : Hid (Below w.heap.size w wr)) : Calls Tryd.prog 10 #[] wr fun e w' => ∃ g, e = .returned (.pointer (some ⟨g, 0, none⟩)) ∧ Hid (Hd w w' g [] ∧ wr.heap.size ≤ g ∧ Below wr.heap.size wr w') := by
  refine (new_n wr).mono ?_
  rintro e w' ⟨g, rfl, H⟩
  exact ⟨g, rfl, ⟨H.out.2.1, h.out.trans (H.out.2.2.mono h.out.size), Nat.le_trans h.out.size H.out.1⟩, H.out.1, H.out.2.2⟩
theorem write_h {w wr : World} {g n k : Nat} {A l : List Nat} {a : Option Addr} (h : Hid (Hd w wr g A)) (hS : Hid (Sln w a n l)) (hk : n ≤ k) (hKs : Hid (Kst w)) (h0 : Hid (0 < w.heap.size)) (hl : Hid (A.length + l.length < 4611686018427387904)) :
    Calls Tryd.prog 11 #[.pointer (some ⟨g, 0, none⟩), .slice a n k] wr fun e w' => e = .returned (.tuple #[]) ∧ Hid (Hd w w' g (A ++ l) ∧ But g wr w') := by
  have hg := h.out.ge
  have h00 := h0.out
  refine (write_n wr g n k A l a h.out.hs (hS.out.below h.out.bel) hk (hS.out.apart hg) (hKs.out.below h.out.bel h00) (Nat.lt_of_lt_of_le h00 h.out.bel.size) (by omega) hl).mono ?_
  rintro e w' ⟨rfl, H⟩
  exact ⟨rfl, ⟨H.out.1, But.below h.out.bel H.out.2 hg h.out.bel.size, hg⟩, H.out.2⟩
theorem hsum_h {w wr : World} {g : Nat} {A : List Nat} (h : Hid (Hd w wr g A)) (hKs : Hid (Kst w)) (h0 : Hid (0 < w.heap.size)) (hl : Hid (A.length < 4611686018427387904)) :
    Calls Tryd.prog 12 #[.pointer (some ⟨g, 0, none⟩)] wr fun e w' => ∃ d, e = .returned (.agg (cs .u8 d)) ∧ Hid (d = Gs.sum A ∧ Below wr.heap.size wr w') := by
  have h00 := h0.out
  exact hsum_n wr g A h.out.hs (hKs.out.below h.out.bel h00) (Nat.lt_of_lt_of_le h00 h.out.bel.size) hl
theorem sum_h {w wr : World} {n k : Nat} {l : List Nat} {a : Option Addr} (h : Hid (Below w.heap.size w wr)) (hS : Hid (Sln w a n l)) (hk : n ≤ k) (hKs : Hid (Kst w)) (h0 : Hid (0 < w.heap.size)) :
    Calls Tryd.prog 7 #[.slice a n k] wr fun e w' => ∃ d, e = .returned (.agg (cs .u8 d)) ∧ Hid (d = Gs.sum l ∧ Below wr.heap.size wr w') :=
  sum_n (hS.out.below h.out) hk (hKs.out.below h.out h0.out) (Nat.lt_of_lt_of_le h0.out h.out.size)
end Go.Proofs.YtnckcaaejfckaaaDoor
