/- What a Reader's piece, Text and Bytes do where the bytes are cut; Text and Bytes. -/
import Derived.Test.YtnhnpkedkdefnaaDoorWc
namespace Go.Proofs.YtnhnpkedkdefnaaDoor
open Go.ChangeShapes Go.WideShapes Go.ChangeAt Go.RowKit
set_option linter.unusedVariables false
set_option linter.unusedSimpArgs false
theorem drew_add {w w1 w2 : World} (h1 : ∃ j, w1 = w.drewN j) (h2 : ∃ j, w2 = w1.drewN j) : ∃ j, w2 = w.drewN j := by
  obtain ⟨i, hi⟩ := h1
  obtain ⟨j, hj⟩ := h2
  exact ⟨i + j, by rw [hj, hi]; simp [go_sem]⟩
set_option maxHeartbeats 1000000 in
theorem piece_cut {w : World} {g B M : Nat} {a : Option Addr} {n c : Nat} {l : List Nat} {p N S : Nat} {z : Int} {E : Nat → Addr} (hR : Hid (Rdr w g B a n c l p)) (hN : Hid (nat 9 (l.drop p) 0 0 = (N, S, false))) (hE : Hid (Sent w M E)) (hM : 2 ≤ M) :
    Calls Tryd.prog 42 #[.pointer (some ⟨g, 0, none⟩), .int .i64 z] w fun e w' => e = .returned (.tuple #[.slice none 0 0, .iface 85 (.pointer (some (E 1)))]) ∧ Hid (∃ j, w' = w.drewN j) := by
  go_enter Tryd.func42, Tryd.ntmps42
  go_upto_region 2 with (first
    | (go_at_call 40; refine (left_n hR).mono ?_; rintro e w1 ⟨a1, c1, rfl, H1⟩
       have S1 : Hid (Sln w1 a1 (n - p) (l.drop p)) := by
         obtain ⟨j, hj⟩ := H1.out.2
         rw [hj]
         exact H1.out.1.drewN j)
    | (go_at_call 39; refine (numberAt_n S1 hN).mono ?_; rintro e w2 ⟨rfl, H2⟩))
  have D2 : Hid (∃ j, w2 = w.drewN j) := drew_add H1.out.2 H2.out
  have ce : w2.cell? ⟨1, 0, none⟩ = some (.iface 85 (.pointer (some (E 1)))) := by obtain ⟨j, hj⟩ := D2.out; rw [hj, cell_drewN]; exact hE.out.c 1 (by omega)
  have D3 : Hid (∀ i, ∃ j, w2.drewN i = w.drewN j) := fun i => drew_add D2.out ⟨i, rfl⟩
  clear H1 H2 D2
  go_wp2
  go_quiet (fail)
  go_wp2
  go_ret2
  exact ⟨rfl, D3.out _⟩
set_option maxHeartbeats 1000000 in
theorem piece_few {w : World} {g B M : Nat} {a : Option Addr} {n c : Nat} {l : List Nat} {p N S : Nat} {z : Int} {E : Nat → Addr} (hR : Hid (Rdr w g B a n c l p)) (hN : Hid (nat 9 (l.drop p) 0 0 = (N, S, true))) (hz : (N : Int) ≤ z) (hz2 : z ≤ 9223372036854775807) (hf : n < p + S + N) (hE : Hid (Sent w M E)) (hM : 2 ≤ M) :
    Calls Tryd.prog 42 #[.pointer (some ⟨g, 0, none⟩), .int .i64 z] w fun e w' => e = .returned (.tuple #[.slice none 0 0, .iface 85 (.pointer (some (E 1)))]) ∧ Hid (∃ j, w' = w.drewN j) := by
  have hb := nat_bound 9 (l.drop p) 0 0 (by simp) (by rw [hN.out])
  rw [hN.out] at hb
  have hp := hR.out.le
  have hS : p + S ≤ n := by
    have h1 := hb.2.2.1
    have h2 := hR.out.own.len
    simp only [List.length_drop] at h1
    omega
  have h3 := hR.out.sz
  obtain ⟨t, Ht⟩ : ∃ t, t = n - p := ⟨_, rfl⟩
  obtain ⟨u, Hu⟩ : ∃ u, u = t - S := ⟨_, rfl⟩
  have eu : (t : Int) - (S : Int) = (u : Int) := by omega
  have i2 : (u : Int) < (N : Int) := by omega
  have i1 : ¬ (z < (N : Int)) := by omega
  have bS : S ≤ 140737488352256 := by omega
  have ht : t ≤ 140737488352256 := by omega
  have HT : Hid (n - p = t) := Ht.symm
  clear Ht Hu hf hb hS
  go_enter Tryd.func42, Tryd.ntmps42
  go_upto_region 2 with (first
    | (go_at_call 40; refine (left_n hR).mono ?_; rintro e w1 ⟨a1, c1, rfl, H1⟩
       have S1 : Hid (Sln w1 a1 (n - p) (l.drop p)) := by
         obtain ⟨j, hj⟩ := H1.out.2
         rw [hj]
         exact H1.out.1.drewN j)
    | (go_at_call 39; refine (numberAt_n S1 hN).mono ?_; rintro e w2 ⟨rfl, H2⟩))
  have D2 : Hid (∃ j, w2 = w.drewN j) := drew_add H1.out.2 H2.out
  have R2 : Hid (Rdr w2 g B a n c l p) := by obtain ⟨j, hj⟩ := D2.out; rw [hj]; exact hR.out.drewN j
  clear H1 H2
  go_upto_region 3 with (first
    | (go_at_call 27; refine (lft_n R2).mono ?_; rintro e w3 ⟨rfl, H3⟩; rw [HT.out]))
  have D3 : Hid (∃ j, w3 = w.drewN j) := drew_add D2.out H3.out
  have ce : w3.cell? ⟨1, 0, none⟩ = some (.iface 85 (.pointer (some (E 1)))) := by obtain ⟨j, hj⟩ := D3.out; rw [hj, cell_drewN]; exact hE.out.c 1 (by omega)
  have D4 : Hid (∀ i, ∃ j, w3.drewN i = w.drewN j) := fun i => drew_add D3.out ⟨i, rfl⟩
  clear H3 D2 D3 R2
  go_wp2
  go_quiet (fail)
  go_wp2
  go_ret2
  exact ⟨rfl, D4.out _⟩
/- Text and Bytes, out of what piece does -/
set_option maxHeartbeats 1000000 in
theorem rtext_ok {w : World} {g B : Nat} {a : Option Addr} {n c : Nat} {l : List Nat} {p N S : Nat} {z : Int} (hR : Hid (Rdr w g B a n c l p)) (hN : Hid (nat 9 (l.drop p) 0 0 = (N, S, true))) (hz : (N : Int) ≤ z) (hz2 : z ≤ 9223372036854775807) (hf : p + S + N ≤ n) :
    Calls Tryd.prog 23 #[.pointer (some ⟨g, 0, none⟩), .int .i64 z] w fun e w' => e = .returned (.tuple #[.string (spell ((l.drop (p + S)).take N)), .nilIface]) ∧ Hid (Rdr w' g B a n c l (p + S + N) ∧ Wfr w w' g none) := by
  go_enter Tryd.func23, Tryd.ntmps23
  go_upto_region 2 with (first
    | (go_at_call 42; refine (piece_ok hR hN hz hz2 hf).mono ?_; rintro e w1 ⟨a1, m1, c1, rfl, H1⟩))
  have CV := conv_n (k := c1) (show Hid (Sln w1 a1 m1 ((l.drop (p + S)).take N)) from H1.out.2.1)
  go_wp2
  go_ret2
  exact ⟨rfl, H1.out.2.2.2⟩
theorem empty_sln (w : World) : Sln w none 0 [] := ⟨rfl, by simp, by simp, .inl rfl⟩
set_option maxHeartbeats 1000000 in
theorem rtext_bad {w : World} {g B M : Nat} {a : Option Addr} {n c : Nat} {l : List Nat} {p N S : Nat} {ok : Bool} {z : Int} {E : Nat → Addr} (hR : Hid (Rdr w g B a n c l p)) (hN : Hid (nat 9 (l.drop p) 0 0 = (N, S, ok))) (hz : (N : Int) ≤ z) (hz2 : z ≤ 9223372036854775807) (hbad : ok = true → n < p + S + N) (hE : Hid (Sent w M E)) (hM : 2 ≤ M) :
    Calls Tryd.prog 23 #[.pointer (some ⟨g, 0, none⟩), .int .i64 z] w fun e w' => e = .returned (.tuple #[.string (spell []), .iface 85 (.pointer (some (E 1)))]) ∧ Hid (∃ j, w' = w.drewN j) := by
  have P : Hid (Calls Tryd.prog 42 #[.pointer (some ⟨g, 0, none⟩), .int .i64 z] w fun e w' => e = .returned (.tuple #[.slice none 0 0, .iface 85 (.pointer (some (E 1)))]) ∧ Hid (∃ j, w' = w.drewN j)) := by
    cases ok with
    | false => exact piece_cut hR hN hE hM
    | true => exact piece_few hR hN hz hz2 (hbad rfl) hE hM
  clear hbad
  go_enter Tryd.func23, Tryd.ntmps23
  go_upto_region 2 with (first
    | (go_at_call 42; refine P.out.mono ?_; rintro e w1 ⟨rfl, H1⟩))
  have CV := conv_n (k := 0) (show Hid (Sln w1 none 0 []) from empty_sln w1)
  go_wp2
  go_ret2
  exact ⟨rfl, H1.out⟩
set_option maxHeartbeats 1000000 in
theorem rbytes_ok {w : World} {g B : Nat} {a : Option Addr} {n c : Nat} {l : List Nat} {p N S : Nat} {z : Int} (hR : Hid (Rdr w g B a n c l p)) (hN : Hid (nat 9 (l.drop p) 0 0 = (N, S, true))) (hz : (N : Int) ≤ z) (hz2 : z ≤ 9223372036854775807) (hf : p + S + N ≤ n) :
    Calls Tryd.prog 25 #[.pointer (some ⟨g, 0, none⟩), .int .i64 z] w fun e w' => ∃ a' m c', e = .returned (.tuple #[.slice a' m c', .nilIface]) ∧ Hid (Own w' w.heap.size a' m c' ((l.drop (p + S)).take N) ∧ Rdr w' g B a n c l (p + S + N) ∧ Wfr w w' g none ∧ m = N) := by
  go_enter Tryd.func25, Tryd.ntmps25
  go_upto_region 2 with (first
    | (go_at_call 42; refine (piece_ok hR hN hz hz2 hf).mono ?_; rintro e w1 ⟨a1, m1, c1, rfl, H1⟩))
  have S1 : Hid (Sln w1 a1 m1 ((l.drop (p + S)).take N)) := H1.out.2.1
  have Z1 : Hid (a1 = none → c1 = 0) := H1.out.2.2.1
  go_wp2_with (first
    | (go_at_call 38; refine (clone_n S1 Z1).mono ?_; rintro e w2 ⟨a2, c2, rfl, H2⟩))
  go_ret2
  have f2 : Wfr w1 w2 g none := ⟨H2.out.2.os, H2.out.2.tape, H2.out.2.output, H2.out.2.size, fun k hk _ _ => H2.out.2.block k hk⟩
  exact ⟨a2, m1, c2, rfl, H2.out.1.base H1.out.2.2.2.2.size, H1.out.2.2.2.1.below H2.out.2, H1.out.2.2.2.2.none_trans f2, H1.out.1⟩
set_option maxHeartbeats 1000000 in
theorem rbytes_bad {w : World} {g B M : Nat} {a : Option Addr} {n c : Nat} {l : List Nat} {p N S : Nat} {ok : Bool} {z : Int} {E : Nat → Addr} (hR : Hid (Rdr w g B a n c l p)) (hN : Hid (nat 9 (l.drop p) 0 0 = (N, S, ok))) (hz : (N : Int) ≤ z) (hz2 : z ≤ 9223372036854775807) (hbad : ok = true → n < p + S + N) (hE : Hid (Sent w M E)) (hM : 2 ≤ M) :
    Calls Tryd.prog 25 #[.pointer (some ⟨g, 0, none⟩), .int .i64 z] w fun e w' => ∃ a' c', e = .returned (.tuple #[.slice a' 0 c', .iface 85 (.pointer (some (E 1)))]) ∧ Hid (Wfr w w' g none) := by
  have P : Hid (Calls Tryd.prog 42 #[.pointer (some ⟨g, 0, none⟩), .int .i64 z] w fun e w' => e = .returned (.tuple #[.slice none 0 0, .iface 85 (.pointer (some (E 1)))]) ∧ Hid (∃ j, w' = w.drewN j)) := by
    cases ok with
    | false => exact piece_cut hR hN hE hM
    | true => exact piece_few hR hN hz hz2 (hbad rfl) hE hM
  clear hbad
  go_enter Tryd.func25, Tryd.ntmps25
  go_upto_region 2 with (first
    | (go_at_call 42; refine P.out.mono ?_; rintro e w1 ⟨rfl, H1⟩))
  have S1 : Hid (Sln w1 none 0 []) := empty_sln w1
  have Z1 : Hid ((none : Option Addr) = none → 0 = 0) := fun _ => rfl
  go_wp2_with (first
    | (go_at_call 38; refine (clone_n (c := 0) (empty_sln w1) (fun _ => rfl)).mono ?_; rintro e w2 ⟨a2, c2, rfl, H2⟩))
  go_ret2
  have f1 : Wfr w w1 g none := by obtain ⟨j, hj⟩ := H1.out; rw [hj]; exact wfr_drewN w g j
  have f2 : Wfr w1 w2 g none := ⟨H2.out.2.os, H2.out.2.tape, H2.out.2.output, H2.out.2.size, fun k hk _ _ => H2.out.2.block k hk⟩
  exact ⟨a2, c2, rfl, f1.none_trans f2⟩
end Go.Proofs.YtnhnpkedkdefnaaDoor
