import Derived.Test.YtmkknklkdgkbaaaDoorMWb
import Derived.Test.YtmkknklkdgkbaaaDoorMXa
/- Yd -/
/- A Reader's Num, Text, Bytes at every bound: one word for each answer. -/
namespace Go.Proofs.YtmkknklkdgkbaaaDoor
open Go.ChangeShapes Go.WideShapes Go.ChangeAt Go.RowKit
set_option maxRecDepth 20000
set_option linter.unusedVariables false
set_option linter.unusedSimpArgs false
/- the number, the error's number, the place behind -/
def rdN (l : List Nat) (p : Nat) (z : Int) : Nat × Nat × Nat := if (nat 9 (l.drop p) 0 0).2.2 = true ∧ ((nat 9 (l.drop p) 0 0).1 : Int) ≤ z then ((nat 9 (l.drop p) 0 0).1, 0, p + (nat 9 (l.drop p) 0 0).2.1) else (0, 5, p)
/- the bytes, the error's number, the place behind -/
def rdB (l : List Nat) (p : Nat) (z : Int) : List Nat × Nat × Nat := if (nat 9 (l.drop p) 0 0).2.2 = true ∧ ((nat 9 (l.drop p) 0 0).1 : Int) ≤ z ∧ p + (nat 9 (l.drop p) 0 0).2.1 + (nat 9 (l.drop p) 0 0).1 ≤ l.length then ((l.drop (p + (nat 9 (l.drop p) 0 0).2.1)).take (nat 9 (l.drop p) 0 0).1, 0, p + (nat 9 (l.drop p) 0 0).2.1 + (nat 9 (l.drop p) 0 0).1) else ([], 5, p)
section
variable {l : List Nat} {p N S : Nat} {ok : Bool} {z : Int}
theorem rdN_ok (h : nat 9 (l.drop p) 0 0 = (N, S, true)) (hz : (N : Int) ≤ z) : rdN l p z = (N, 0, p + S) := by unfold rdN; rw [h]; simp [hz]
theorem rdN_bad (h : nat 9 (l.drop p) 0 0 = (N, S, ok)) (hz : ok = true → z < (N : Int)) : rdN l p z = (0, 5, p) := by
  unfold rdN
  rw [h]
  rw [if_neg]
  rintro ⟨h1, h2⟩
  have := hz h1
  simp only at h2
  omega
theorem rdB_ok (h : nat 9 (l.drop p) 0 0 = (N, S, true)) (hz : (N : Int) ≤ z) (hf : p + S + N ≤ l.length) : rdB l p z = ((l.drop (p + S)).take N, 0, p + S + N) := by unfold rdB; rw [h]; simp [hz, hf]
theorem rdB_bad (h : nat 9 (l.drop p) 0 0 = (N, S, ok)) (hz : ok = true → (N : Int) ≤ z → l.length < p + S + N) : rdB l p z = ([], 5, p) := by
  unfold rdB
  rw [h]
  rw [if_neg]
  rintro ⟨h1, h2, h3⟩
  have := hz h1 h2
  simp only at h3
  omega
end
theorem rdN_code (l : List Nat) (p : Nat) (z : Int) : (rdN l p z).2.1 = 0 ∨ (rdN l p z).2.1 = 5 ∨ (rdN l p z).2.1 = 6 := by unfold rdN; split <;> simp
theorem rdB_code (l : List Nat) (p : Nat) (z : Int) : (rdB l p z).2.1 = 0 ∨ (rdB l p z).2.1 = 5 ∨ (rdB l p z).2.1 = 6 := by unfold rdB; split <;> simp
set_option maxHeartbeats 1000000 in
theorem rnum_big {w : World} {g B M : Nat} {a : Option Addr} {n c : Nat} {l : List Nat} {p N S : Nat} {z : Int} {E : Nat → Addr} (hR : Hid (Rdr w g B a n c l p)) (hN : Hid (nat 9 (l.drop p) 0 0 = (N, S, true))) (hz : z < (N : Int)) (hE : Hid (Sent w M E)) (hM : 4 ≤ M) :
    Calls Tryd.prog 69 #[.pointer (some ⟨g, 0, none⟩), .int .i64 z] w fun e w' => e = .returned (.tuple #[.int .i64 0, .iface 130 (.pointer (some (E 3)))]) ∧ Hid (∃ j, w' = w.drewN j) := by
  go_enter Tryd.func69, Tryd.ntmps69
  go_upto_region 2 with (first
    | (go_at_call 70; refine (left_n hR).mono ?_; rintro e w1 ⟨a1, c1, rfl, H1⟩
       have S1 : Hid (Sln w1 a1 (n - p) (l.drop p)) := by
         obtain ⟨j, hj⟩ := H1.out.2
         rw [hj]
         exact H1.out.1.drewN j)
    | (go_at_call 75; refine (numberAt_n S1 hN).mono ?_; rintro e w2 ⟨rfl, H2⟩))
  have D2 : Hid (∃ j, w2 = w.drewN j) := drew_add H1.out.2 H2.out
  have ce : w2.cell? ⟨3, 0, none⟩ = some (.iface 130 (.pointer (some (E 3)))) := by obtain ⟨j, hj⟩ := D2.out; rw [hj, cell_drewN]; exact hE.out.c 3 (by omega)
  have D3 : Hid (∀ i, ∃ j, w2.drewN i = w.drewN j) := fun i => drew_add D2.out ⟨i, rfl⟩
  clear H1 H2 D2
  go_wp2
  go_quiet (fail)
  go_wp2
  go_ret2
  exact ⟨rfl, D3.out _⟩
set_option maxHeartbeats 1000000 in
theorem piece_big {w : World} {g B M : Nat} {a : Option Addr} {n c : Nat} {l : List Nat} {p N S : Nat} {z : Int} {E : Nat → Addr} (hR : Hid (Rdr w g B a n c l p)) (hN : Hid (nat 9 (l.drop p) 0 0 = (N, S, true))) (hz : z < (N : Int)) (hE : Hid (Sent w M E)) (hM : 4 ≤ M) :
    Calls Tryd.prog 67 #[.pointer (some ⟨g, 0, none⟩), .int .i64 z] w fun e w' => e = .returned (.tuple #[.slice none 0 0, .iface 130 (.pointer (some (E 3)))]) ∧ Hid (∃ j, w' = w.drewN j) := by
  go_enter Tryd.func67, Tryd.ntmps67
  go_upto_region 2 with (first
    | (go_at_call 70; refine (left_n hR).mono ?_; rintro e w1 ⟨a1, c1, rfl, H1⟩
       have S1 : Hid (Sln w1 a1 (n - p) (l.drop p)) := by
         obtain ⟨j, hj⟩ := H1.out.2
         rw [hj]
         exact H1.out.1.drewN j)
    | (go_at_call 75; refine (numberAt_n S1 hN).mono ?_; rintro e w2 ⟨rfl, H2⟩))
  have D2 : Hid (∃ j, w2 = w.drewN j) := drew_add H1.out.2 H2.out
  have ce : w2.cell? ⟨3, 0, none⟩ = some (.iface 130 (.pointer (some (E 3)))) := by obtain ⟨j, hj⟩ := D2.out; rw [hj, cell_drewN]; exact hE.out.c 3 (by omega)
  have D3 : Hid (∀ i, ∃ j, w2.drewN i = w.drewN j) := fun i => drew_add D2.out ⟨i, rfl⟩
  clear H1 H2 D2
  go_wp2
  go_quiet (fail)
  go_wp2
  go_ret2
  exact ⟨rfl, D3.out _⟩
/- piece answers nil and an error -/
def PieceBad (w : World) (g : Nat) (z : Int) (E : Nat → Addr) : Prop := Calls Tryd.prog 67 #[.pointer (some ⟨g, 0, none⟩), .int .i64 z] w fun e w' => e = .returned (.tuple #[.slice none 0 0, .iface 130 (.pointer (some (E 3)))]) ∧ Hid (∃ j, w' = w.drewN j)
theorem piece_bad {w : World} {g B M : Nat} {a : Option Addr} {n c : Nat} {l : List Nat} {p N S : Nat} {ok : Bool} {z : Int} {E : Nat → Addr} (hR : Hid (Rdr w g B a n c l p)) (hN : Hid (nat 9 (l.drop p) 0 0 = (N, S, ok))) (hz2 : z ≤ 9223372036854775807) (hbad : ok = true → (N : Int) ≤ z → n < p + S + N) (hE : Hid (Sent w M E)) (hM : 4 ≤ M) : PieceBad w g z E := by
  cases ok with
  | false => exact piece_cut hR hN hE hM
  | true =>
    by_cases h : (N : Int) ≤ z
    · exact piece_few hR hN h hz2 (hbad rfl h) hE hM
    · exact piece_big hR hN (by omega) hE hM
set_option maxHeartbeats 1000000 in
theorem rbytes_pb {w : World} {g : Nat} {z : Int} {E : Nat → Addr} (P : Hid (PieceBad w g z E)) :
    Calls Tryd.prog 56 #[.pointer (some ⟨g, 0, none⟩), .int .i64 z] w fun e w' => ∃ a' c', e = .returned (.tuple #[.slice a' 0 c', .iface 130 (.pointer (some (E 3)))]) ∧ Hid (Own w' w.heap.size a' 0 c' [] ∧ Below w.heap.size w w') := by
  have P2 : Hid (Calls Tryd.prog 67 #[.pointer (some ⟨g, 0, none⟩), .int .i64 z] w fun e w' => e = .returned (.tuple #[.slice none 0 0, .iface 130 (.pointer (some (E 3)))]) ∧ Hid (∃ j, w' = w.drewN j)) := P.out
  go_enter Tryd.func56, Tryd.ntmps56
  go_upto_region 2 with (first
    | (go_at_call 67; refine P2.out.mono ?_; rintro e w1 ⟨rfl, H1⟩))
  have S1 : Hid (Sln w1 none 0 []) := empty_sln w1
  go_wp2_with (first
    | (go_at_call 41; refine (clone_n (c := 0) (empty_sln w1) (fun _ => rfl)).mono ?_; rintro e w2 ⟨a2, c2, rfl, H2⟩))
  go_ret2
  obtain ⟨j, hj⟩ := H1.out
  have b1 : Below w.heap.size w w1 := by rw [hj]; exact below_drewN (Below.refl _ _) j
  exact ⟨a2, c2, rfl, H2.out.1.base b1.size, b1.trans (H2.out.2.mono b1.size)⟩
theorem erv0 (E : Nat → Addr) : erv E 0 = .nilIface := rfl
theorem erv5 (E : Nat → Addr) : erv E 5 = .iface 130 (.pointer (some (E 3))) := rfl
/- Num, at whatever bound -/
theorem rnum_any {w : World} {g B M : Nat} {a : Option Addr} {n c : Nat} {l : List Nat} {p : Nat} {z : Int} {E : Nat → Addr} (hR : Hid (Rdr w g B a n c l p)) (hz2 : z ≤ 9223372036854775807) (hE : Hid (Sent w M E)) (hM : 4 ≤ M) :
    Calls Tryd.prog 69 #[.pointer (some ⟨g, 0, none⟩), .int .i64 z] w fun e w' => ∃ (k : Nat) (v : Value), e = .returned (.tuple #[.int .i64 (k : Int), v]) ∧ Hid (k = (rdN l p z).1 ∧ v = erv E (rdN l p z).2.1 ∧ Rdr w' g B a n c l (rdN l p z).2.2 ∧ Wfr w w' g none) := by
  obtain ⟨N, S, ok, hN⟩ : ∃ N S ok, nat 9 (l.drop p) 0 0 = (N, S, ok) := ⟨_, _, _, rfl⟩
  by_cases h : ok = true ∧ (N : Int) ≤ z
  · obtain ⟨rfl, hz⟩ := h
    refine (rnum_ok hR hN hz hz2).mono ?_
    rintro e w' ⟨h1, h2⟩
    rw [rdN_ok hN hz]
    exact ⟨N, _, h1, rfl, rfl, h2.out.1, h2.out.2⟩
  · have hb : ok = true → z < (N : Int) := fun h1 => by have : ¬ (N : Int) ≤ z := fun h2 => h ⟨h1, h2⟩; omega
    have : Calls Tryd.prog 69 #[.pointer (some ⟨g, 0, none⟩), .int .i64 z] w fun e w' => e = .returned (.tuple #[.int .i64 0, .iface 130 (.pointer (some (E 3)))]) ∧ Hid (∃ j, w' = w.drewN j) := by
      cases ok with
      | false => exact rnum_bad hR hN hE hM
      | true => exact rnum_big hR hN (hb rfl) hE hM
    refine this.mono ?_
    rintro e w' ⟨h1, h2⟩
    rw [rdN_bad hN hb]
    obtain ⟨j, hj⟩ := h2.out
    exact ⟨0, _, h1, rfl, rfl, by rw [hj]; exact hR.out.drewN j, by rw [hj]; exact wfr_drewN w g j⟩
theorem rbytes_any {w : World} {g B M : Nat} {a : Option Addr} {n c : Nat} {l : List Nat} {p : Nat} {z : Int} {E : Nat → Addr} (hR : Hid (Rdr w g B a n c l p)) (hz2 : z ≤ 9223372036854775807) (hE : Hid (Sent w M E)) (hM : 4 ≤ M) :
    Calls Tryd.prog 56 #[.pointer (some ⟨g, 0, none⟩), .int .i64 z] w fun e w' => ∃ (a' : Option Addr) (m c' : Nat) (v : Value), e = .returned (.tuple #[.slice a' m c', v]) ∧ Hid (Own w' w.heap.size a' m c' (rdB l p z).1 ∧ v = erv E (rdB l p z).2.1 ∧ Rdr w' g B a n c l (rdB l p z).2.2 ∧ Wfr w w' g none) := by
  obtain ⟨N, S, ok, hN⟩ : ∃ N S ok, nat 9 (l.drop p) 0 0 = (N, S, ok) := ⟨_, _, _, rfl⟩
  have hl := hR.out.own.len
  by_cases h : ok = true ∧ (N : Int) ≤ z ∧ p + S + N ≤ n
  · obtain ⟨rfl, hz, hf⟩ := h
    refine (rbytes_ok hR hN hz hz2 hf).mono ?_
    rintro e w' ⟨a', m, c', h1, h2⟩
    rw [rdB_ok hN hz (by omega)]
    exact ⟨a', m, c', _, h1, h2.out.1, rfl, h2.out.2.1, h2.out.2.2.1⟩
  · have hb : ok = true → (N : Int) ≤ z → n < p + S + N := fun h1 h2 => by have : ¬ p + S + N ≤ n := fun h3 => h ⟨h1, h2, h3⟩; omega
    refine (rbytes_pb (piece_bad hR hN hz2 hb hE hM)).mono ?_
    rintro e w' ⟨a', c', h1, h2⟩
    rw [rdB_bad hN (by rw [← hl]; exact hb)]
    have hB := h2.out.2
    exact ⟨a', 0, c', _, h1, h2.out.1, rfl, hR.out.below hB, ⟨hB.os, hB.tape, hB.output, hB.size, fun k hk _ _ => hB.block k hk⟩⟩
end Go.Proofs.YtmkknklkdgkbaaaDoor
