/- Open's answers in one word; what lies in memory while WireSums looks. -/
import Derived.Test.YtnhnpkedkdefnaaDoorXc
import Derived.Test.YtnhnpkedkdefnaaDoorXd
namespace Go.Proofs.YtnhnpkedkdefnaaDoor
open Go.ChangeShapes Go.WideShapes Go.ChangeAt Go.RowKit
set_option linter.unusedVariables false
set_option linter.unusedSimpArgs false
def opn (l : List Nat) : List Nat × Nat := if l.length < 4 then ([], 5) else if sealL (l.take (l.length - 4)) = l then (l.take (l.length - 4), 0) else ([], 6)
theorem opn_few {l : List Nat} (h : l.length < 4) : opn l = ([], 5) := by rw [opn, if_pos h]
theorem opn_ok {l : List Nat} (h : 4 ≤ l.length) (h2 : sealL (l.take (l.length - 4)) = l) : opn l = (l.take (l.length - 4), 0) := by rw [opn, if_neg (by omega), if_pos h2]
theorem opn_bad {l : List Nat} (h : 4 ≤ l.length) (h2 : sealL (l.take (l.length - 4)) ≠ l) : opn l = ([], 6) := by rw [opn, if_neg (by omega), if_neg h2]
theorem opn_code (l : List Nat) : (opn l).2 = 0 ∨ (opn l).2 = 5 ∨ (opn l).2 = 6 := by
  unfold opn
  split
  · simp
  · split <;> simp
def erv (E : Nat → Addr) (k : Nat) : Value := if k = 0 then .nilIface else if k = 5 then .iface 85 (.pointer (some (E 1))) else .iface 85 (.pointer (some (E 2)))
theorem open_any {w : World} {a : Option Addr} {n c M : Nat} {l : List Nat} {E : Nat → Addr} (h : Hid (Sln w a n l)) (hc : Hid (a = none → c = 0)) (hnc : n ≤ c) (hE : Hid (Sent w M E)) (hM : 3 ≤ M) :
    Calls Tryd.prog 29 #[.slice a n c] w fun e w' => ∃ a' N c' v, e = .returned (.tuple #[.slice a' N c', v]) ∧ Hid (v = erv E (opn l).2 ∧ Own w' w.heap.size a' N c' (opn l).1 ∧ Below w.heap.size w w') := by
  have hl := h.out.len
  by_cases h4 : n < 4
  · refine (open_few h4 hE (by omega)).mono ?_
    rintro e w' ⟨h1, h2⟩
    rw [opn_few (by omega)]
    exact ⟨none, 0, 0, _, h1, rfl, Own.nil _ _, h2.out⟩
  · by_cases hs : sealL (l.take (n - 4)) = l
    · refine (open_ok h hc hnc (by omega) hs).mono ?_
      rintro e w' ⟨a', N, c', h1, h2⟩
      rw [opn_ok (by omega) (by rw [← hl]; exact hs), ← hl]
      exact ⟨a', N, c', _, h1, rfl, h2.out.2.1, h2.out.2.2⟩
    · refine (open_bad h hc hnc (by omega) hs hE hM).mono ?_
      rintro e w' ⟨h1, h2⟩
      rw [opn_bad (by omega) (by rw [← hl]; exact hs)]
      exact ⟨none, 0, 0, _, h1, rfl, Own.nil _ _, h2.out⟩
theorem refopen_any {w : World} {a : Option Addr} {n c : Nat} {l : List Nat} (h : Hid (Sln w a n l)) (hc : Hid (a = none → c = 0)) (hnc : n ≤ c) :
    Calls Tryd.prog 30 #[.slice a n c] w fun e w' => ∃ (a' : Option Addr) (N c' k : Nat), e = .returned (.tuple #[.slice a' N c', .int .i64 (k : Int)]) ∧ Hid (k = (opn l).2 ∧ Own w' w.heap.size a' N c' (opn l).1 ∧ Below w.heap.size w w') := by
  have hl := h.out.len
  have hm : n ≤ 140737488352256 := by rw [hl]; exact h.out.sli.2.1
  by_cases h4 : n < 4
  · refine (refopen_few h4).mono ?_
    rintro e w' ⟨h1, h2⟩
    rw [opn_few (by omega)]
    exact ⟨none, 0, 0, 5, h1, rfl, Own.nil _ _, by rw [h2]; exact Below.refl _ _⟩
  · by_cases hs : sealL (l.take (n - 4)) = l
    · refine (refopen_ok h hc hnc (by omega) hm hs).mono ?_
      rintro e w' ⟨a', N, c', h1, h2⟩
      rw [opn_ok (by omega) (by rw [← hl]; exact hs), ← hl]
      exact ⟨a', N, c', 0, h1, rfl, h2.out.2.1, h2.out.2.2⟩
    · refine (refopen_bad h hc hnc (by omega) hm hs).mono ?_
      rintro e w' ⟨h1, h2⟩
      rw [opn_bad (by omega) (by rw [← hl]; exact hs)]
      exact ⟨none, 0, 0, 6, h1, rfl, Own.nil _ _, h2.out⟩
theorem bnum_any {w : World} {v : Value} {k : Nat} {E : Nat → Addr} (hv : Hid (v = erv E k)) (hk : Hid (k = 0 ∨ k = 5 ∨ k = 6)) (hS : Hid (Sent w 18 E)) :
    Calls Tryd.prog 22 #[v] w fun e w' => e = .returned (.int .i64 (k : Int)) ∧ Hid (Below w.heap.size w w') := by
  rw [hv.out]
  rcases hk.out with rfl | rfl | rfl
  · refine (bnum_nil w).mono ?_
    rintro e w' ⟨h1, h2⟩
    exact ⟨h1, by rw [h2]; exact Below.refl _ _⟩
  · exact bnum_err 1 4 E w (by omega) rfl (by decide) hS
  · exact bnum_err 2 5 E w (by omega) rfl (by decide) hS
theorem Blk.own {w : World} {g B N : Nat} {L : List Nat} (h : Blk w g L) (hB : B ≤ g) (hN : N = L.length) (h1 : ∀ x ∈ L, x < 256) (h2 : N ≤ 140737488352256) : Own w B (some ⟨g, 0, none⟩) N N L := by
  subst hN
  exact ⟨rfl, ⟨by simp, .inr ⟨g, L.length, _, rfl, hB, h, Nat.le_refl _, by unfold maxLen; omega, by simp, by simp [List.take_of_length_le]⟩⟩, h1⟩
/- what lies in memory -/
structure Sms (w W : World) (a : Option Addr) (n : Nat) (l : List Nat) (gi gs Ns : Nat) (ao : Option Addr) (No co : Nat) (lo : List Nat) (aw : Option Addr) (Nw cw : Nat) (ak : Option Addr) (Nk ck : Nat) : Prop where
  bel : Below w.heap.size w W
  sb : Sln W a n l
  bi : Blk W gi (l ++ marks)
  ss : Own W w.heap.size (some ⟨gs, 0, none⟩) Ns Ns (sealL l)
  so : Own W w.heap.size ao No co lo
  sw : Own W w.heap.size aw Nw cw lo
  sk : Own W w.heap.size ak Nk ck l
theorem Sms.below {w W W' : World} {a : Option Addr} {n : Nat} {l : List Nat} {gi gs Ns : Nat} {ao : Option Addr} {No co : Nat} {lo : List Nat} {aw : Option Addr} {Nw cw : Nat} {ak : Option Addr} {Nk ck : Nat} (h : Sms w W a n l gi gs Ns ao No co lo aw Nw cw ak Nk ck) (hb : Below W.heap.size W W') : Sms w W' a n l gi gs Ns ao No co lo aw Nw cw ak Nk ck :=
  ⟨h.bel.trans (hb.mono h.bel.size), h.sb.below hb, h.bi.below hb h.bi.lt, h.ss.below hb, h.so.below hb, h.sw.below hb, h.sk.below hb⟩
/- an argument lies below what the call made -/
theorem old_block {w W : World} {a : Option Addr} {n : Nat} {l : List Nat} (h : Sln w a n l) {r : Option Nat} (hr : ∀ q, r = some q → w.heap.size ≤ q) : ∀ q off, l ≠ [] → a = some ⟨q, off, none⟩ → r ≠ some q := by
  intro q off hl ha e
  obtain ⟨b, o, h1, h2, _⟩ := h.sli.2.2.resolve_left hl
  rw [ha] at h1
  simp only [Option.some.injEq, Addr.mk.injEq, and_true] at h1
  have := hr q e
  omega
theorem Blk.grown {w w' : World} {g : Nat} {L : List Nat} {r : Option Nat} (h : Blk w g L) (hg : w.grownBy w' r) (hne : r ≠ some g) : Blk w' g L := (hg.block g h.lt (fun e => hne e.symm)).trans h
end Go.Proofs.YtnhnpkedkdefnaaDoor
