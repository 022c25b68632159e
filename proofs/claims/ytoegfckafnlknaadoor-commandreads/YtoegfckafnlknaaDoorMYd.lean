import Derived.Test.YtoegfckafnlknaaDoorMWb
import Derived.Test.YtoegfckafnlknaaDoorMXa
import Derived.Test.YtoegfckafnlknaaDoorMYb
import Derived.Lib.AppendZeros
/- Yd -/
/- A Reader's Num, Text, Bytes at every bound: one word for each answer. -/
namespace Go.Proofs.YtoegfckafnlknaaDoor
set_option maxRecDepth 20000
open Go.ChangeShapes Go.WideShapes Go.ChangeAt Go.RowKit
set_option linter.unusedVariables false
set_option linter.unusedSimpArgs false
/- the number, the error's number, the place behind -/
def rdN (l : List Nat) (p : Nat) (z : Int) : Nat × Nat × Nat := if (nat 9 (l.drop p) 0 0).2.2 = true ∧ ((nat 9 (l.drop p) 0 0).1 : Int) ≤ z then ((nat 9 (l.drop p) 0 0).1, 0, p + (nat 9 (l.drop p) 0 0).2.1) else (0, 5, p)
/- the bytes, the error's number, the place behind -/
def rdB (l : List Nat) (p : Nat) (z : Int) : List Nat × Nat × Nat := if (nat 9 (l.drop p) 0 0).2.2 = true ∧ ((nat 9 (l.drop p) 0 0).1 : Int) ≤ z ∧ p + (nat 9 (l.drop p) 0 0).2.1 + (nat 9 (l.drop p) 0 0).1 ≤ l.length then ((l.drop (p + (nat 9 (l.drop p) 0 0).2.1)).take (nat 9 (l.drop p) 0 0).1, 0, p + (nat 9 (l.drop p) 0 0).2.1 + (nat 9 (l.drop p) 0 0).1) else ([], 5, p)
section
variable {l : List Nat} {p N S : Nat} {ok : Bool} {z : Int}
theorem rdN_ok (h : nat 9 (l.drop p) 0 0 = (N, S, true)) (hz : (N : Int) ≤ z) : rdN l p z = (N, 0, p + S) := by unfold rdN; rw [h]; simp [hz]
theorem rdN_bad (h : nat 9 (l.drop p) 0 0 = (N, S, ok)) (hz : ok = true → z < (N : Int)) : rdN l p z = (0, 5, p) := by
  unfold rdN
  rw [h]
  rw [if_neg]
  rintro ⟨h1, h2⟩
  have := hz h1
  simp only at h2
  omega
theorem rdB_ok (h : nat 9 (l.drop p) 0 0 = (N, S, true)) (hz : (N : Int) ≤ z) (hf : p + S + N ≤ l.length) : rdB l p z = ((l.drop (p + S)).take N, 0, p + S + N) := by unfold rdB; rw [h]; simp [hz, hf]
theorem rdB_bad (h : nat 9 (l.drop p) 0 0 = (N, S, ok)) (hz : ok = true → (N : Int) ≤ z → l.length < p + S + N) : rdB l p z = ([], 5, p) := by
  unfold rdB
  rw [h]
  rw [if_neg]
  rintro ⟨h1, h2, h3⟩
  have := hz h1 h2
  simp only at h3
  omega
end
set_option maxHeartbeats 1000000 in
theorem rnum_big {w : World} {g B : Nat} {M : Nat → Prop} {a : Option Addr} {n c : Nat} {l : List Nat} {p N S : Nat} {z : Int} {E : Nat → Addr} (hR : Hid (Rdr w g B a n c l p)) (hN : Hid (nat 9 (l.drop p) 0 0 = (N, S, true))) (hz : z < (N : Int)) (hE : Hid (Sent w M E)) (hM : M 1) :
    Calls Tryd.prog 87 #[.pointer (some ⟨g, 0, none⟩), .int .i64 z] w fun e w' => e = .returned (.tuple #[.int .i64 0, .iface 132 (.pointer (some (E 1)))]) ∧ Hid (∃ j, w' = w.drewN j) := by
  go_enter Tryd.func87, Tryd.ntmps87
  go_upto_region 2 with (first
    | (go_at_call 90; refine (left_n hR).mono ?_; rintro e w1 ⟨a1, c1, rfl, H1⟩
       have S1 : Hid (Sln w1 a1 (n - p) (l.drop p)) := by
         obtain ⟨j, hj⟩ := H1.out.2
         rw [hj]
         exact H1.out.1.drewN j)
    | (go_at_call 92; refine (numberAt_n S1 hN).mono ?_; rintro e w2 ⟨rfl, H2⟩))
  have D2 : Hid (∃ j, w2 = w.drewN j) := drew_add H1.out.2 H2.out
  have ce : w2.cell? ⟨1, 0, none⟩ = some (.iface 132 (.pointer (some (E 1)))) := by obtain ⟨j, hj⟩ := D2.out; rw [hj, cell_drewN]; exact hE.out.c 1 hM
  have D3 : Hid (∀ i, ∃ j, w2.drewN i = w.drewN j) := fun i => drew_add D2.out ⟨i, rfl⟩
  clear H1 H2 D2
  go_wp2
  go_quiet (fail)
  go_wp2
  go_ret2
  exact ⟨rfl, D3.out _⟩
set_option maxHeartbeats 1000000 in
theorem piece_big {w : World} {g B : Nat} {M : Nat → Prop} {a : Option Addr} {n c : Nat} {l : List Nat} {p N S : Nat} {z : Int} {E : Nat → Addr} (hR : Hid (Rdr w g B a n c l p)) (hN : Hid (nat 9 (l.drop p) 0 0 = (N, S, true))) (hz : z < (N : Int)) (hE : Hid (Sent w M E)) (hM : M 1) :
    Calls Tryd.prog 89 #[.pointer (some ⟨g, 0, none⟩), .int .i64 z] w fun e w' => e = .returned (.tuple #[.slice none 0 0, .iface 132 (.pointer (some (E 1)))]) ∧ Hid (∃ j, w' = w.drewN j) := by
  go_enter Tryd.func89, Tryd.ntmps89
  go_upto_region 2 with (first
    | (go_at_call 90; refine (left_n hR).mono ?_; rintro e w1 ⟨a1, c1, rfl, H1⟩
       have S1 : Hid (Sln w1 a1 (n - p) (l.drop p)) := by
         obtain ⟨j, hj⟩ := H1.out.2
         rw [hj]
         exact H1.out.1.drewN j)
    | (go_at_call 92; refine (numberAt_n S1 hN).mono ?_; rintro e w2 ⟨rfl, H2⟩))
  have D2 : Hid (∃ j, w2 = w.drewN j) := drew_add H1.out.2 H2.out
  have ce : w2.cell? ⟨1, 0, none⟩ = some (.iface 132 (.pointer (some (E 1)))) := by obtain ⟨j, hj⟩ := D2.out; rw [hj, cell_drewN]; exact hE.out.c 1 hM
  have D3 : Hid (∀ i, ∃ j, w2.drewN i = w.drewN j) := fun i => drew_add D2.out ⟨i, rfl⟩
  clear H1 H2 D2
  go_wp2
  go_quiet (fail)
  go_wp2
  go_ret2
  exact ⟨rfl, D3.out _⟩
/- piece answers nil and an error -/
def PieceBad (w : World) (g : Nat) (z : Int) (E : Nat → Addr) : Prop := Calls Tryd.prog 89 #[.pointer (some ⟨g, 0, none⟩), .int .i64 z] w fun e w' => e = .returned (.tuple #[.slice none 0 0, .iface 132 (.pointer (some (E 1)))]) ∧ Hid (∃ j, w' = w.drewN j)
theorem piece_bad {w : World} {g B : Nat} {M : Nat → Prop} {a : Option Addr} {n c : Nat} {l : List Nat} {p N S : Nat} {ok : Bool} {z : Int} {E : Nat → Addr} (hR : Hid (Rdr w g B a n c l p)) (hN : Hid (nat 9 (l.drop p) 0 0 = (N, S, ok))) (hz2 : z ≤ 9223372036854775807) (hbad : ok = true → (N : Int) ≤ z → n < p + S + N) (hE : Hid (Sent w M E)) (hM : M 1) : PieceBad w g z E := by
  cases ok with
  | false => exact piece_cut hR hN hE hM
  | true =>
    by_cases h : (N : Int) ≤ z
    · exact piece_few hR hN h hz2 (hbad rfl h) hE hM
    · exact piece_big hR hN (by omega) hE hM
set_option maxHeartbeats 1000000 in
theorem rtext_pb {w : World} {g : Nat} {z : Int} {E : Nat → Addr} (P : Hid (PieceBad w g z E)) :
    Calls Tryd.prog 88 #[.pointer (some ⟨g, 0, none⟩), .int .i64 z] w fun e w' => e = .returned (.tuple #[.string (spell []), .iface 132 (.pointer (some (E 1)))]) ∧ Hid (∃ j, w' = w.drewN j) := by
  have P2 : Hid (Calls Tryd.prog 89 #[.pointer (some ⟨g, 0, none⟩), .int .i64 z] w fun e w' => e = .returned (.tuple #[.slice none 0 0, .iface 132 (.pointer (some (E 1)))]) ∧ Hid (∃ j, w' = w.drewN j)) := P.out
  go_enter Tryd.func88, Tryd.ntmps88
  go_upto_region 2 with (first
    | (go_at_call 89; refine P2.out.mono ?_; rintro e w1 ⟨rfl, H1⟩))
  have CV := conv_n (k := 0) (show Hid (Sln w1 none 0 []) from empty_sln w1)
  go_wp2
  go_ret2
  exact ⟨rfl, H1.out⟩
set_option maxHeartbeats 1000000 in
theorem rbytes_pb {w : World} {g : Nat} {z : Int} {E : Nat → Addr} (P : Hid (PieceBad w g z E)) :
    Calls Tryd.prog 84 #[.pointer (some ⟨g, 0, none⟩), .int .i64 z] w fun e w' => ∃ a' c', e = .returned (.tuple #[.slice a' 0 c', .iface 132 (.pointer (some (E 1)))]) ∧ Hid (Own w' w.heap.size a' 0 c' [] ∧ Below w.heap.size w w') := by
  have P2 : Hid (Calls Tryd.prog 89 #[.pointer (some ⟨g, 0, none⟩), .int .i64 z] w fun e w' => e = .returned (.tuple #[.slice none 0 0, .iface 132 (.pointer (some (E 1)))]) ∧ Hid (∃ j, w' = w.drewN j)) := P.out
  go_enter Tryd.func84, Tryd.ntmps84
  go_upto_region 2 with (first
    | (go_at_call 89; refine P2.out.mono ?_; rintro e w1 ⟨rfl, H1⟩))
  have S1 : Hid (Sln w1 none 0 []) := empty_sln w1
  go_wp2_with (first
    | (go_at_call 70; refine (clone_n (c := 0) (empty_sln w1) (fun _ => rfl)).mono ?_; rintro e w2 ⟨a2, c2, rfl, H2⟩))
  go_ret2
  obtain ⟨j, hj⟩ := H1.out
  have b1 : Below w.heap.size w w1 := by rw [hj]; exact below_drewN (Below.refl _ _) j
  exact ⟨a2, c2, rfl, H2.out.1.base b1.size, b1.trans (H2.out.2.mono b1.size)⟩
/- Num, at whatever bound -/
theorem rnum_any {w : World} {g B : Nat} {M : Nat → Prop} {a : Option Addr} {n c : Nat} {l : List Nat} {p : Nat} {z : Int} {E : Nat → Addr} (hR : Hid (Rdr w g B a n c l p)) (hz2 : z ≤ 9223372036854775807) (hE : Hid (Sent w M E)) (hM : M 1) :
    Calls Tryd.prog 87 #[.pointer (some ⟨g, 0, none⟩), .int .i64 z] w fun e w' => ∃ (k : Nat) (v : Value), e = .returned (.tuple #[.int .i64 (k : Int), v]) ∧ Hid (k = (rdN l p z).1 ∧ v = erv E (rdN l p z).2.1 ∧ Rdr w' g B a n c l (rdN l p z).2.2 ∧ Wfr w w' g none) := by
  obtain ⟨N, S, ok, hN⟩ : ∃ N S ok, nat 9 (l.drop p) 0 0 = (N, S, ok) := ⟨_, _, _, rfl⟩
  by_cases h : ok = true ∧ (N : Int) ≤ z
  · obtain ⟨rfl, hz⟩ := h
    refine (rnum_ok hR hN hz hz2).mono ?_
    rintro e w' ⟨h1, h2⟩
    rw [rdN_ok hN hz]
    exact ⟨N, _, h1, rfl, rfl, h2.out.1, h2.out.2⟩
  · have hb : ok = true → z < (N : Int) := fun h1 => by have : ¬ (N : Int) ≤ z := fun h2 => h ⟨h1, h2⟩; omega
    have : Calls Tryd.prog 87 #[.pointer (some ⟨g, 0, none⟩), .int .i64 z] w fun e w' => e = .returned (.tuple #[.int .i64 0, .iface 132 (.pointer (some (E 1)))]) ∧ Hid (∃ j, w' = w.drewN j) := by
      cases ok with
      | false => exact rnum_bad hR hN hE hM
      | true => exact rnum_big hR hN (hb rfl) hE hM
    refine this.mono ?_
    rintro e w' ⟨h1, h2⟩
    rw [rdN_bad hN hb]
    obtain ⟨j, hj⟩ := h2.out
    exact ⟨0, _, h1, rfl, rfl, by rw [hj]; exact hR.out.drewN j, by rw [hj]; exact wfr_drewN w g j⟩
theorem rtext_any {w : World} {g B : Nat} {M : Nat → Prop} {a : Option Addr} {n c : Nat} {l : List Nat} {p : Nat} {z : Int} {E : Nat → Addr} (hR : Hid (Rdr w g B a n c l p)) (hz2 : z ≤ 9223372036854775807) (hE : Hid (Sent w M E)) (hM : M 1) :
    Calls Tryd.prog 88 #[.pointer (some ⟨g, 0, none⟩), .int .i64 z] w fun e w' => ∃ (t : ByteArray) (v : Value), e = .returned (.tuple #[.string t, v]) ∧ Hid (t = spell (rdB l p z).1 ∧ v = erv E (rdB l p z).2.1 ∧ Rdr w' g B a n c l (rdB l p z).2.2 ∧ Wfr w w' g none) := by
  obtain ⟨N, S, ok, hN⟩ : ∃ N S ok, nat 9 (l.drop p) 0 0 = (N, S, ok) := ⟨_, _, _, rfl⟩
  have hl := hR.out.own.len
  by_cases h : ok = true ∧ (N : Int) ≤ z ∧ p + S + N ≤ n
  · obtain ⟨rfl, hz, hf⟩ := h
    refine (rtext_ok hR hN hz hz2 hf).mono ?_
    rintro e w' ⟨h1, h2⟩
    rw [rdB_ok hN hz (by omega)]
    exact ⟨_, _, h1, rfl, rfl, h2.out.1, h2.out.2⟩
  · have hb : ok = true → (N : Int) ≤ z → n < p + S + N := fun h1 h2 => by have : ¬ p + S + N ≤ n := fun h3 => h ⟨h1, h2, h3⟩; omega
    refine (rtext_pb (piece_bad hR hN hz2 hb hE hM)).mono ?_
    rintro e w' ⟨h1, h2⟩
    rw [rdB_bad hN (by rw [← hl]; exact hb)]
    obtain ⟨j, hj⟩ := h2.out
    exact ⟨_, _, h1, rfl, rfl, by rw [hj]; exact hR.out.drewN j, by rw [hj]; exact wfr_drewN w g j⟩
theorem rbytes_any {w : World} {g B : Nat} {M : Nat → Prop} {a : Option Addr} {n c : Nat} {l : List Nat} {p : Nat} {z : Int} {E : Nat → Addr} (hR : Hid (Rdr w g B a n c l p)) (hz2 : z ≤ 9223372036854775807) (hE : Hid (Sent w M E)) (hM : M 1) :
    Calls Tryd.prog 84 #[.pointer (some ⟨g, 0, none⟩), .int .i64 z] w fun e w' => ∃ (a' : Option Addr) (m c' : Nat) (v : Value), e = .returned (.tuple #[.slice a' m c', v]) ∧ Hid (Own w' w.heap.size a' m c' (rdB l p z).1 ∧ v = erv E (rdB l p z).2.1 ∧ Rdr w' g B a n c l (rdB l p z).2.2 ∧ Wfr w w' g none) := by
  obtain ⟨N, S, ok, hN⟩ : ∃ N S ok, nat 9 (l.drop p) 0 0 = (N, S, ok) := ⟨_, _, _, rfl⟩
  have hl := hR.out.own.len
  by_cases h : ok = true ∧ (N : Int) ≤ z ∧ p + S + N ≤ n
  · obtain ⟨rfl, hz, hf⟩ := h
    refine (rbytes_ok hR hN hz hz2 hf).mono ?_
    rintro e w' ⟨a', m, c', h1, h2⟩
    rw [rdB_ok hN hz (by omega)]
    exact ⟨a', m, c', _, h1, h2.out.1, rfl, h2.out.2.1, h2.out.2.2.1⟩
  · have hb : ok = true → (N : Int) ≤ z → n < p + S + N := fun h1 h2 => by have : ¬ p + S + N ≤ n := fun h3 => h ⟨h1, h2, h3⟩; omega
    refine (rbytes_pb (piece_bad hR hN hz2 hb hE hM)).mono ?_
    rintro e w' ⟨a', c', h1, h2⟩
    rw [rdB_bad hN (by rw [← hl]; exact hb)]
    have hB := h2.out.2
    exact ⟨a', 0, c', _, h1, h2.out.1, rfl, hR.out.below hB, ⟨hB.os, hB.tape, hB.output, hB.size, fun k hk _ _ => hB.block k hk⟩⟩
end Go.Proofs.YtoegfckafnlknaaDoor

/- Ye -/
/- The document's own Reader: Num and Bytes. -/
namespace Go.Proofs.YtoegfckafnlknaaDoor
set_option maxRecDepth 20000
open Go.ChangeShapes Go.WideShapes Go.ChangeAt Go.RowKit
set_option linter.unusedVariables false
set_option linter.unusedSimpArgs false
/- a Reader of the document's at block g: its bytes are whoever's -/
structure Rrf (w : World) (g : Nat) (a : Option Addr) (n c : Nat) (l : List Nat) (p : Nat) : Prop where
  blk : w.heap[g]? = some (.cells #[.slice a n c, .int .i64 (p : Int)] 79 (0, 0))
  sl : Sln w a n l
  nc : n ≤ c
  z : a = none → c = 0
  ne : ∀ b off, l ≠ [] → a = some ⟨b, off, none⟩ → b ≠ g
  le : p ≤ n
theorem Rrf.lt {w : World} {g : Nat} {a : Option Addr} {n c : Nat} {l : List Nat} {p : Nat} (h : Rrf w g a n c l p) : g < w.heap.size := (Array.getElem?_eq_some_iff.1 h.blk).1
theorem Rrf.c0 {w : World} {g : Nat} {a : Option Addr} {n c : Nat} {l : List Nat} {p : Nat} (h : Rrf w g a n c l p) : w.cell? ⟨g, 0, none⟩ = some (.slice a n c) := by
  have := h.blk
  simp [World.cell?, this]
theorem Rrf.c1 {w : World} {g : Nat} {a : Option Addr} {n c : Nat} {l : List Nat} {p : Nat} (h : Rrf w g a n c l p) : w.cell? ⟨g, 1, none⟩ = some (.int .i64 (p : Int)) := by
  have := h.blk
  simp [World.cell?, this]
theorem Rrf.below {w w' : World} {g : Nat} {a : Option Addr} {n c : Nat} {l : List Nat} {p : Nat} (h : Rrf w g a n c l p) (hb : Below w.heap.size w w') : Rrf w' g a n c l p := ⟨(hb.block g h.lt).trans h.blk, h.sl.below hb, h.nc, h.z, h.ne, h.le⟩
theorem Rrf.drewN {w : World} {g : Nat} {a : Option Addr} {n c : Nat} {l : List Nat} {p : Nat} (h : Rrf w g a n c l p) (j : Nat) : Rrf (w.drewN j) g a n c l p := h.below (below_drewN (Below.refl _ _) j)
theorem Rrf.go {w : World} {g : Nat} {a : Option Addr} {n c : Nat} {l : List Nat} {p : Nat} (h : Rrf w g a n c l p) {q : Nat} (hq : q ≤ n) : Rrf (w.setCell ⟨g, 1, none⟩ (.int .i64 (q : Int))) g a n c l q ∧ Wfr w (w.setCell ⟨g, 1, none⟩ (.int .i64 (q : Int))) g none :=
  ⟨⟨by rw [set_blk h.blk]; rfl, ((Wfr.refl w g none).setCell 1 _).sln h.sl (fun b off h1 h2 => ⟨h.ne b off h1 h2, by simp [blkOf]⟩), h.nc, h.z, h.ne, hq⟩, (Wfr.refl w g none).setCell 1 _⟩
theorem wfr_below {w w' : World} (g : Nat) (hB : Below w.heap.size w w') : Wfr w w' g none := ⟨hB.os, hB.tape, hB.output, hB.size, fun k hk _ _ => hB.block k hk⟩
set_option maxHeartbeats 1000000 in
theorem refrnum_any {w : World} {g : Nat} {a : Option Addr} {n c : Nat} {l : List Nat} {p : Nat} {z : Int} (hR : Hid (Rrf w g a n c l p)) :
    Calls Tryd.prog 55 #[.pointer (some ⟨g, 0, none⟩), .int .i64 z] w fun e w' => ∃ (k q : Nat), e = .returned (.tuple #[.int .i64 (k : Int), .int .i64 (q : Int)]) ∧ Hid (k = (rdN l p z).1 ∧ q = (rdN l p z).2.1 ∧ Rrf w' g a n c l (rdN l p z).2.2 ∧ Wfr w w' g none) := by
  obtain ⟨N, S, ok, hN0⟩ : ∃ N S ok, nat 9 (l.drop p) 0 0 = (N, S, ok) := ⟨_, _, _, rfl⟩
  have hN : Hid (nat 9 (l.drop p) 0 0 = (N, S, ok)) := hN0
  have hp := hR.out.le
  have hnc := hR.out.nc
  have S0 : Hid (Sln w.drew a n l) := hR.out.sl.drew
  have BW : Hid (Below w.heap.size w w.drew) := below_drewN (Below.refl _ _) 1
  have d0 : w.drew.cell? ⟨g, 0, none⟩ = some (.slice a n c) := (hR.out.drewN 1).c0
  have d1 : w.drew.cell? ⟨g, 1, none⟩ = some (.int .i64 (p : Int)) := (hR.out.drewN 1).c1
  obtain ⟨V, HV⟩ : ∃ V, Hid ((if ok then N else 0) = V) := ⟨_, rfl⟩
  obtain ⟨X, HX⟩ : ∃ X, Hid ((if ok then p + S else 0) = X) := ⟨_, rfl⟩
  have HB : Hid (ok = true → p + S ≤ n) := by
    intro h
    have hb := nat_bound 9 (l.drop p) 0 0 (by simp) (by rw [hN0]; exact h)
    rw [hN0] at hb
    have h1 := hb.2.2.1
    have h2 := hR.out.sl.len
    simp only [List.length_drop] at h1
    omega
  clear hN0
  go_enter Tryd.func55, Tryd.ntmps55
  go_upto_region 1 with (fail)
  go_region_held (fun w' => w'.cell? ⟨g, 0, none⟩ = some (.slice a n c) ∧ w'.cell? ⟨g, 1, none⟩ = some (.int .i64 (p : Int))) (exact ⟨d0, d1⟩) (first
    | (go_at_call 78; refine (refread_n S0 hnc hp hN).mono ?_; rintro e w1 ⟨rfl, H1⟩; rw [HV.out, HX.out]
       have B1 : Hid (Below w.heap.size w w1) := BW.out.trans H1.out
       have R1 : Hid (Rrf w1 g a n c l p) := hR.out.below B1.out
       have d0 := R1.out.c0
       have d1 := R1.out.c1))
  all_goals
    cases ok with
    | false =>
      have FIN : Hid (0 = (rdN l p z).1 ∧ 5 = (rdN l p z).2.1 ∧ Rrf w1 g a n c l (rdN l p z).2.2 ∧ Wfr w w1 g none) := by rw [rdN_bad (z := z) hN.out (fun h => by cases h)]; exact ⟨rfl, rfl, R1.out, wfr_below g B1.out⟩
      go_wp2
      go_ret2
      exact ⟨0, 5, rfl, FIN.out⟩
    | true =>
      by_cases hz : (N : Int) ≤ z
      · have eV : V = N := HV.out.symm
        have eX : X = p + S := HX.out.symm
        subst eV
        have hX : X ≤ n := by rw [eX]; exact HB.out rfl
        have G := R1.out.go hX
        have f1 : w1.frozen? ⟨g, 1, none⟩ = false := fz R1.out.blk 1
        have iz : ¬ (z < (V : Int)) := by omega
        have FIN : Hid (V = (rdN l p z).1 ∧ 0 = (rdN l p z).2.1 ∧ Rrf (w1.setCell ⟨g, 1, none⟩ (.int .i64 (X : Int))) g a n c l (rdN l p z).2.2 ∧ Wfr w (w1.setCell ⟨g, 1, none⟩ (.int .i64 (X : Int))) g none) := by rw [rdN_ok hN.out hz, ← eX]; exact ⟨rfl, rfl, G.1, (wfr_below g B1.out).none_trans G.2⟩
        clear G eX HV HX
        go_wp2
        go_ret2
        exact ⟨V, 0, rfl, FIN.out⟩
      · have eV : V = N := HV.out.symm
        subst eV
        have iz : z < (V : Int) := by omega
        have FIN : Hid (0 = (rdN l p z).1 ∧ 5 = (rdN l p z).2.1 ∧ Rrf w1 g a n c l (rdN l p z).2.2 ∧ Wfr w w1 g none) := by rw [rdN_bad (z := z) hN.out (fun _ => iz)]; exact ⟨rfl, rfl, R1.out, wfr_below g B1.out⟩
        clear HV HX
        go_wp2
        go_ret2
        exact ⟨0, 5, rfl, FIN.out⟩
/- what is cut out of a row -/
theorem slice_cut {w : World} {a : Option Addr} {n c q r N : Nat} {l : List Nat} (h : Sln w a n l) (hz : a = none → c = 0) (hnc : n ≤ c) (hr : q + N = r) (hn : r ≤ n) : Sln w (if c = q then a else a.map (·.add q)) (r - q) ((l.drop q).take N) ∧ ((if c = q then a else a.map (·.add q)) = none → c - q = 0) := by
  refine ⟨?_, fun h1 => ?_⟩
  · have h1 := slice_from h (lo := q) (by omega) hnc
    have h2 := h1.take (k := r - q) (by omega)
    rw [show r - q = N by omega] at h2 ⊢
    exact h2
  · by_cases hcq : c = q
    · omega
    · rw [if_neg hcq] at h1
      have := hz (by simpa using h1)
      omega
/- a Reader's two cells -/
def rS (g : Nat) (a : Option Addr) (n c r : Nat) (_ : Array Bool) (W : World) : Prop := W.cell? ⟨g, 0, none⟩ = some (.slice a n c) ∧ W.cell? ⟨g, 1, none⟩ = some (.int .i64 (r : Int))
set_option maxHeartbeats 2000000 in
theorem refrbytes_any {w : World} {g : Nat} {a : Option Addr} {n c : Nat} {l : List Nat} {p : Nat} {z : Int} (hR : Hid (Rrf w g a n c l p)) :
    Calls Tryd.prog 44 #[.pointer (some ⟨g, 0, none⟩), .int .i64 z] w fun e w' => ∃ (a' : Option Addr) (m c' q : Nat), e = .returned (.tuple #[.slice a' m c', .int .i64 (q : Int)]) ∧ Hid (Own w' w.heap.size a' m c' (rdB l p z).1 ∧ q = (rdB l p z).2.1 ∧ Rrf w' g a n c l (rdB l p z).2.2 ∧ Wfr w w' g none) := by
  obtain ⟨N, S, ok, hN0⟩ : ∃ N S ok, nat 9 (l.drop p) 0 0 = (N, S, ok) := ⟨_, _, _, rfl⟩
  have hN : Hid (nat 9 (l.drop p) 0 0 = (N, S, ok)) := hN0
  have hp := hR.out.le
  have hnc := hR.out.nc
  have hm := hR.out.sl.sli.2.1
  have hl : Hid (n = l.length) := hR.out.sl.len
  rw [← hl.out] at hm
  have S0 : Hid (Sln w.drew a n l) := hR.out.sl.drew
  have BW : Hid (Below w.heap.size w w.drew) := below_drewN (Below.refl _ _) 1
  have d0 : w.drew.cell? ⟨g, 0, none⟩ = some (.slice a n c) := (hR.out.drewN 1).c0
  have d1 : w.drew.cell? ⟨g, 1, none⟩ = some (.int .i64 (p : Int)) := (hR.out.drewN 1).c1
  obtain ⟨V, HV⟩ : ∃ V, Hid ((if ok then N else 0) = V) := ⟨_, rfl⟩
  obtain ⟨X, HX⟩ : ∃ X, Hid ((if ok then p + S else 0) = X) := ⟨_, rfl⟩
  have HB : Hid (ok = true → p + S ≤ n ∧ N < 9223372036854775808) := by
    intro h
    have hb := nat_bound 9 (l.drop p) 0 0 (by simp) (by rw [hN0]; exact h)
    rw [hN0] at hb
    have h1 := hb.2.2.1
    have h2 := hl.out
    simp only [List.length_drop] at h1
    have h3 := hb.1
    simp only at h3
    exact ⟨by omega, by omega⟩
  clear hN0
  go_enter Tryd.func44, Tryd.ntmps44
  go_upto_region 1 with (fail)
  go_region_held (fun w' => w'.cell? ⟨g, 0, none⟩ = some (.slice a n c) ∧ w'.cell? ⟨g, 1, none⟩ = some (.int .i64 (p : Int))) (exact ⟨d0, d1⟩) (first
    | (go_at_call 78; refine (refread_n S0 hnc hp hN).mono ?_; rintro e w1 ⟨rfl, H1⟩; rw [HV.out, HX.out]
       have B1 : Hid (Below w.heap.size w w1) := BW.out.trans H1.out
       have R1 : Hid (Rrf w1 g a n c l p) := hR.out.below B1.out
       have d0 := R1.out.c0
       have d1 := R1.out.c1))
  all_goals
    cases ok with
    | false =>
      have FIN : Hid (Own w1 w.heap.size none 0 0 (rdB l p z).1 ∧ 5 = (rdB l p z).2.1 ∧ Rrf w1 g a n c l (rdB l p z).2.2 ∧ Wfr w w1 g none) := by rw [rdB_bad (z := z) hN.out (fun h => by cases h)]; exact ⟨Own.nil _ _, rfl, R1.out, wfr_below g B1.out⟩
      go_wp2
      go_ret2
      exact ⟨none, 0, 0, 5, rfl, FIN.out⟩
    | true =>
      have eV : V = N := HV.out.symm
      subst eV
      have eX : X = p + S := HX.out.symm
      have hX : X ≤ n := by rw [eX]; exact (HB.out rfl).1
      have hV : V < 9223372036854775808 := (HB.out rfl).2
      have HX2 : Hid (X = p + S) := eX
      clear eX HV HX HB
      by_cases hz : (V : Int) ≤ z
      · have iz : ¬ (z < (V : Int)) := by omega
        obtain ⟨u, Hu⟩ : ∃ u, Hid (n - X = u) := ⟨_, rfl⟩
        have eu : (n : Int) - (X : Int) = (u : Int) := by have := Hu.out; omega
        have hu : u ≤ 140737488352256 := by rw [← Hu.out]; omega
        by_cases hf : V ≤ u
        · have if1 : ¬ ((u : Int) < (V : Int)) := by omega
          obtain ⟨r, Hr⟩ : ∃ r, Hid (X + V = r) := ⟨_, rfl⟩
          have er' : (X : Int) + (V : Int) = (r : Int) := by have := Hr.out; omega
          have hr : r ≤ n := by have h1 := Hr.out; have h2 := Hu.out; omega
          have hXr : X ≤ r := by have h1 := Hr.out; omega
          have hrc : r ≤ c := by omega
          have hrm : r ≤ 140737488352256 := by omega
          have hXm : X ≤ 140737488352256 := by omega
          have f1 : w1.frozen? ⟨g, 1, none⟩ = false := fz R1.out.blk 1
          have G := R1.out.go hr
          obtain ⟨w4, W4⟩ : ∃ w4, Hid (w1.setCell ⟨g, 1, none⟩ (.int .i64 (r : Int)) = w4) := ⟨_, rfl⟩
          rw [W4.out] at G
          have R4 : Hid (Rrf w4 g a n c l r) := G.1
          have F4 : Hid (Wfr w w4 g none) := (wfr_below g B1.out).none_trans G.2
          have RB : Hid (rdB l p z = ((l.drop X).take V, 0, r)) := by
            rw [rdB_ok hN.out hz (by have h1 := Hr.out; have h2 := HX2.out; have h3 := hl.out; omega), ← HX2.out, Hr.out]
            exact rfl
          clear G
          go_upto_region 5 with (fail)
          rw [W4.out]
          obtain ⟨W, HW⟩ : ∃ W, Hid (w4.drew = W) := ⟨_, rfl⟩
          have R5 : Hid (Rrf W g a n c l r) := by rw [← HW.out]; exact R4.out.drewN 1
          have F5 : Hid (Wfr w W g none) := by rw [← HW.out]; exact F4.out.none_trans (wfr_drewN _ g 1)
          have HS4 : Hid (rS g a n c r (Array.replicate 1 false) W) := ⟨R5.out.c0, R5.out.c1⟩
          have A5 : Below W.heap.size W (W.alloc (.cells #[] 5)) := (Below.refl _ _).alloc (Nat.le_refl _) _
          have R6 := R5.out.below A5
          have HS5 : Hid (rS g a n c r (Array.replicate 1 false) (W.alloc (.cells #[] 5))) := ⟨R6.c0, R6.c1⟩
          have SC := slice_cut R6.sl R6.z R6.nc Hr.out hr
          obtain ⟨a6, c6, w6, hrun, own6, gr6, new6⟩ := app_any (c2 := c - X) (own_empty W) SC.1 SC.2 (by omega) (by simp)
          rw [Nat.zero_add] at hrun own6
          rw [List.nil_append] at own6
          have B6 : Below W.heap.size W w6 := A5.grown gr6 (by simp) (fun j hj => by simp [blkOf] at hj; omega)
          have R7 := R5.out.below B6
          have HS6 : Hid (rS g a n c r (Array.replicate 1 false) w6) := ⟨R7.c0, R7.c1⟩
          have FIN : Hid (Own w6 w.heap.size a6 (r - X) c6 (rdB l p z).1 ∧ 0 = (rdB l p z).2.1 ∧ Rrf w6 g a n c l (rdB l p z).2.2 ∧ Wfr w w6 g none) := by rw [RB.out]; exact ⟨own6.base F5.out.size, rfl, R7, F5.out.none_trans (wfr_below g B6)⟩
          clear own6 gr6 new6 A5 R6 SC B6 R7 R5 F5 R4 F4 W4 RB
          by_cases hcX : c = X
          · rw [if_pos hcX] at hrun
            subst hcX
            obtain rfl : c = r := by omega
            simp only [Nat.sub_self] at hrun FIN
            have AP : Hid ((Builtin.append_ #[35, 35] 35 #[.slice (some ⟨W.heap.size, 0, none⟩) 0 0, .slice a 0 0]).run Tryd.prog (W.alloc (.cells #[] 5)) = .ok (.slice a6 0 c6) w6) := hrun
            clear hrun
            refine wp_region_till (S := rS g a n c c) (by kernel_rfl) ?_ (fun hS => ?_)
            · rw [HW.out]; exact HS4.out
            rw [HW.out] at hS ⊢
            clear HW
            refine till_take (i := 1) (v := .pointer (some ⟨g, 0, none⟩)) rfl (by kernel_rfl) (by kernel_rfl) (by kernel_rfl) (fun _ _ _ h => h) (fun L w => Iff.rfl) (Or.inl ⟨by rfl, fun w => by go_simp⟩) hS (fun hSb => ?_)
            simp only [List.getElem_toArray, List.getElem_cons_zero, List.getElem_cons_succ, Act.put, List.setIfInBounds_toArray, List.set_cons_zero, List.set_cons_succ]
            clear hS
            refine till_take (i := 2) (v := .pointer (some ⟨g, 0, none⟩)) rfl (by kernel_rfl) (by kernel_rfl) (by kernel_rfl) (fun _ _ _ h => h) (fun L w => Iff.rfl) (Or.inl ⟨by rfl, fun w => by go_simp⟩) hSb (fun hS => ?_)
            simp only [List.getElem_toArray, List.getElem_cons_zero, List.getElem_cons_succ, Act.put, List.setIfInBounds_toArray, List.set_cons_zero, List.set_cons_succ]
            clear hSb
            refine till_take (i := 3) (v := .pointer (some ⟨g, 0, none⟩)) rfl (by kernel_rfl) (by kernel_rfl) (by kernel_rfl) (fun _ _ _ h => h) (fun L w => Iff.rfl) (Or.inl ⟨by rfl, fun w => by go_simp⟩) hS (fun hSb => ?_)
            simp only [List.getElem_toArray, List.getElem_cons_zero, List.getElem_cons_succ, Act.put, List.setIfInBounds_toArray, List.set_cons_zero, List.set_cons_succ]
            clear hS
            refine till_read (i := 4) (c := 10) (v := .slice a n c) rfl rfl (by kernel_rfl) (by kernel_rfl) (by kernel_rfl) (by kernel_rfl) (by kernel_rfl) (fun _ _ _ h => h) (fun L w => Iff.rfl) (fun L w h1 h2 => h2) (Or.inl ⟨by rfl, fun w hSw => by (try dsimp only at hSw); go_simp⟩) hSb (fun hS => ?_)
            simp only [List.getElem_toArray, List.getElem_cons_zero, List.getElem_cons_succ, Act.put, List.setIfInBounds_toArray, List.set_cons_zero, List.set_cons_succ]
            clear hSb
            refine till_take (i := 5) (v := .int .i64 (c : Int)) rfl (by kernel_rfl) (by kernel_rfl) (by kernel_rfl) (fun _ _ _ h => h) (fun L w => Iff.rfl) (Or.inl ⟨by rfl, fun w => by go_simp⟩) hS (fun hSb => ?_)
            simp only [List.getElem_toArray, List.getElem_cons_zero, List.getElem_cons_succ, Act.put, List.setIfInBounds_toArray, List.set_cons_zero, List.set_cons_succ]
            clear hS
            refine till_take (i := 6) (v := .pointer (some ⟨g, 0, none⟩)) rfl (by kernel_rfl) (by kernel_rfl) (by kernel_rfl) (fun _ _ _ h => h) (fun L w => Iff.rfl) (Or.inl ⟨by rfl, fun w => by go_simp⟩) hSb (fun hS => ?_)
            simp only [List.getElem_toArray, List.getElem_cons_zero, List.getElem_cons_succ, Act.put, List.setIfInBounds_toArray, List.set_cons_zero, List.set_cons_succ]
            clear hSb
            refine till_take (i := 7) (v := .pointer (some ⟨g, 0, none⟩)) rfl (by kernel_rfl) (by kernel_rfl) (by kernel_rfl) (fun _ _ _ h => h) (fun L w => Iff.rfl) (Or.inl ⟨by rfl, fun w => by go_simp⟩) hS (fun hSb => ?_)
            simp only [List.getElem_toArray, List.getElem_cons_zero, List.getElem_cons_succ, Act.put, List.setIfInBounds_toArray, List.set_cons_zero, List.set_cons_succ]
            clear hS
            refine till_take (i := 8) (v := .pointer (some ⟨g, 1, none⟩)) rfl (by kernel_rfl) (by kernel_rfl) (by kernel_rfl) (fun _ _ _ h => h) (fun L w => Iff.rfl) (Or.inl ⟨by rfl, fun w => by go_simp⟩) hSb (fun hS => ?_)
            simp only [List.getElem_toArray, List.getElem_cons_zero, List.getElem_cons_succ, Act.put, List.setIfInBounds_toArray, List.set_cons_zero, List.set_cons_succ]
            clear hSb
            refine till_read (i := 9) (c := 10) (v := .int .i64 (c : Int)) rfl rfl (by kernel_rfl) (by kernel_rfl) (by kernel_rfl) (by kernel_rfl) (by kernel_rfl) (fun _ _ _ h => h) (fun L w => Iff.rfl) (fun L w h1 h2 => h2) (Or.inl ⟨by rfl, fun w hSw => by (try dsimp only at hSw); go_simp⟩) hS (fun hSb => ?_)
            simp only [List.getElem_toArray, List.getElem_cons_zero, List.getElem_cons_succ, Act.put, List.setIfInBounds_toArray, List.set_cons_zero, List.set_cons_succ]
            clear hS
            refine till_take (i := 10) (v := .slice a 0 0) rfl (by kernel_rfl) (by kernel_rfl) (by kernel_rfl) (fun _ _ _ h => h) (fun L w => Iff.rfl) (Or.inl ⟨by rfl, fun w => by go_simp⟩) hSb (fun hS => ?_)
            simp only [List.getElem_toArray, List.getElem_cons_zero, List.getElem_cons_succ, Act.put, List.setIfInBounds_toArray, List.set_cons_zero, List.set_cons_succ]
            clear hSb
            refine till_one (i := 0) (by kernel_rfl) rfl (fun K hK => ?_)
            simp only [List.getElem_toArray, List.getElem_cons_zero, List.getElem_cons_succ]
            rw [if_pos (by rfl)]
            go_simp
            refine hK.out _ _ (HS5.out) (fun hSb => ?_)
            clear hK K
            try simp only [List.getElem_toArray, List.getElem_cons_zero, List.getElem_cons_succ, Act.put, List.setIfInBounds_toArray, List.set_cons_zero, List.set_cons_succ]
            clear hS
            refine till_one (i := 11) (by kernel_rfl) rfl (fun K hK => ?_)
            simp only [List.getElem_toArray, List.getElem_cons_zero, List.getElem_cons_succ]
            rw [if_pos (by rfl)]
            refine Lib.wp_append_run _ (.tmp 46) (.tmp 56) 35 35 (by rfl) _ _ (by rfl) (by rfl) _ _ AP.out ?_
            refine hK.out _ _ (HS6.out) (fun hS => ?_)
            clear hK K
            try simp only [List.getElem_toArray, List.getElem_cons_zero, List.getElem_cons_succ, Act.put, List.setIfInBounds_toArray, List.set_cons_zero, List.set_cons_succ]
            clear hSb
            refine till_one (i := 12) (by kernel_rfl) rfl (fun K hK => ?_)
            simp only [List.getElem_toArray, List.getElem_cons_zero, List.getElem_cons_succ]
            rw [if_pos (by rfl)]
            go_simp
            refine hK.out _ _ (HS6.out) (fun hSb => ?_)
            clear hK K
            try simp only [List.getElem_toArray, List.getElem_cons_zero, List.getElem_cons_succ, Act.put, List.setIfInBounds_toArray, List.set_cons_zero, List.set_cons_succ]
            clear hS
            refine till_one (i := 13) (by kernel_rfl) rfl (fun K hK => ?_)
            simp only [List.getElem_toArray, List.getElem_cons_zero, List.getElem_cons_succ]
            rw [if_pos (by rfl)]
            go_simp
            refine hK.out _ _ (HS6.out) (fun hS => ?_)
            clear hK K
            try simp only [List.getElem_toArray, List.getElem_cons_zero, List.getElem_cons_succ, Act.put, List.setIfInBounds_toArray, List.set_cons_zero, List.set_cons_succ]
            clear hSb
            refine till_done (by kernel_rfl) ?_ _
            clear hS
            go_wp2
            go_ret2
            exact ⟨a6, 0, c6, 0, rfl, FIN.out⟩
          · rw [if_neg hcX] at hrun
            have AP : Hid ((Builtin.append_ #[35, 35] 35 #[.slice (some ⟨W.heap.size, 0, none⟩) 0 0, .slice (a.map (·.add X)) (r - X) (c - X)]).run Tryd.prog (W.alloc (.cells #[] 5)) = .ok (.slice a6 (r - X) c6) w6) := hrun
            clear hrun
            refine wp_region_till (S := rS g a n c r) (by kernel_rfl) ?_ (fun hS => ?_)
            · rw [HW.out]; exact HS4.out
            rw [HW.out] at hS ⊢
            clear HW
            refine till_take (i := 1) (v := .pointer (some ⟨g, 0, none⟩)) rfl (by kernel_rfl) (by kernel_rfl) (by kernel_rfl) (fun _ _ _ h => h) (fun L w => Iff.rfl) (Or.inl ⟨by rfl, fun w => by go_simp⟩) hS (fun hSb => ?_)
            simp only [List.getElem_toArray, List.getElem_cons_zero, List.getElem_cons_succ, Act.put, List.setIfInBounds_toArray, List.set_cons_zero, List.set_cons_succ]
            clear hS
            refine till_take (i := 2) (v := .pointer (some ⟨g, 0, none⟩)) rfl (by kernel_rfl) (by kernel_rfl) (by kernel_rfl) (fun _ _ _ h => h) (fun L w => Iff.rfl) (Or.inl ⟨by rfl, fun w => by go_simp⟩) hSb (fun hS => ?_)
            simp only [List.getElem_toArray, List.getElem_cons_zero, List.getElem_cons_succ, Act.put, List.setIfInBounds_toArray, List.set_cons_zero, List.set_cons_succ]
            clear hSb
            refine till_take (i := 3) (v := .pointer (some ⟨g, 0, none⟩)) rfl (by kernel_rfl) (by kernel_rfl) (by kernel_rfl) (fun _ _ _ h => h) (fun L w => Iff.rfl) (Or.inl ⟨by rfl, fun w => by go_simp⟩) hS (fun hSb => ?_)
            simp only [List.getElem_toArray, List.getElem_cons_zero, List.getElem_cons_succ, Act.put, List.setIfInBounds_toArray, List.set_cons_zero, List.set_cons_succ]
            clear hS
            refine till_read (i := 4) (c := 10) (v := .slice a n c) rfl rfl (by kernel_rfl) (by kernel_rfl) (by kernel_rfl) (by kernel_rfl) (by kernel_rfl) (fun _ _ _ h => h) (fun L w => Iff.rfl) (fun L w h1 h2 => h2) (Or.inl ⟨by rfl, fun w hSw => by (try dsimp only at hSw); go_simp⟩) hSb (fun hS => ?_)
            simp only [List.getElem_toArray, List.getElem_cons_zero, List.getElem_cons_succ, Act.put, List.setIfInBounds_toArray, List.set_cons_zero, List.set_cons_succ]
            clear hSb
            refine till_take (i := 5) (v := .int .i64 (X : Int)) rfl (by kernel_rfl) (by kernel_rfl) (by kernel_rfl) (fun _ _ _ h => h) (fun L w => Iff.rfl) (Or.inl ⟨by rfl, fun w => by go_simp⟩) hS (fun hSb => ?_)
            simp only [List.getElem_toArray, List.getElem_cons_zero, List.getElem_cons_succ, Act.put, List.setIfInBounds_toArray, List.set_cons_zero, List.set_cons_succ]
            clear hS
            refine till_take (i := 6) (v := .pointer (some ⟨g, 0, none⟩)) rfl (by kernel_rfl) (by kernel_rfl) (by kernel_rfl) (fun _ _ _ h => h) (fun L w => Iff.rfl) (Or.inl ⟨by rfl, fun w => by go_simp⟩) hSb (fun hS => ?_)
            simp only [List.getElem_toArray, List.getElem_cons_zero, List.getElem_cons_succ, Act.put, List.setIfInBounds_toArray, List.set_cons_zero, List.set_cons_succ]
            clear hSb
            refine till_take (i := 7) (v := .pointer (some ⟨g, 0, none⟩)) rfl (by kernel_rfl) (by kernel_rfl) (by kernel_rfl) (fun _ _ _ h => h) (fun L w => Iff.rfl) (Or.inl ⟨by rfl, fun w => by go_simp⟩) hS (fun hSb => ?_)
            simp only [List.getElem_toArray, List.getElem_cons_zero, List.getElem_cons_succ, Act.put, List.setIfInBounds_toArray, List.set_cons_zero, List.set_cons_succ]
            clear hS
            refine till_take (i := 8) (v := .pointer (some ⟨g, 1, none⟩)) rfl (by kernel_rfl) (by kernel_rfl) (by kernel_rfl) (fun _ _ _ h => h) (fun L w => Iff.rfl) (Or.inl ⟨by rfl, fun w => by go_simp⟩) hSb (fun hS => ?_)
            simp only [List.getElem_toArray, List.getElem_cons_zero, List.getElem_cons_succ, Act.put, List.setIfInBounds_toArray, List.set_cons_zero, List.set_cons_succ]
            clear hSb
            refine till_read (i := 9) (c := 10) (v := .int .i64 (r : Int)) rfl rfl (by kernel_rfl) (by kernel_rfl) (by kernel_rfl) (by kernel_rfl) (by kernel_rfl) (fun _ _ _ h => h) (fun L w => Iff.rfl) (fun L w h1 h2 => h2) (Or.inl ⟨by rfl, fun w hSw => by (try dsimp only at hSw); go_simp⟩) hS (fun hSb => ?_)
            simp only [List.getElem_toArray, List.getElem_cons_zero, List.getElem_cons_succ, Act.put, List.setIfInBounds_toArray, List.set_cons_zero, List.set_cons_succ]
            clear hS
            refine till_take (i := 10) (v := .slice (a.map (·.add X)) (r - X) (c - X)) rfl (by kernel_rfl) (by kernel_rfl) (by kernel_rfl) (fun _ _ _ h => h) (fun L w => Iff.rfl) (Or.inl ⟨by rfl, fun w => by go_simp⟩) hSb (fun hS => ?_)
            simp only [List.getElem_toArray, List.getElem_cons_zero, List.getElem_cons_succ, Act.put, List.setIfInBounds_toArray, List.set_cons_zero, List.set_cons_succ]
            clear hSb
            refine till_one (i := 0) (by kernel_rfl) rfl (fun K hK => ?_)
            simp only [List.getElem_toArray, List.getElem_cons_zero, List.getElem_cons_succ]
            rw [if_pos (by rfl)]
            go_simp
            refine hK.out _ _ (HS5.out) (fun hSb => ?_)
            clear hK K
            try simp only [List.getElem_toArray, List.getElem_cons_zero, List.getElem_cons_succ, Act.put, List.setIfInBounds_toArray, List.set_cons_zero, List.set_cons_succ]
            clear hS
            refine till_one (i := 11) (by kernel_rfl) rfl (fun K hK => ?_)
            simp only [List.getElem_toArray, List.getElem_cons_zero, List.getElem_cons_succ]
            rw [if_pos (by rfl)]
            refine Lib.wp_append_run _ (.tmp 46) (.tmp 56) 35 35 (by rfl) _ _ (by rfl) (by rfl) _ _ AP.out ?_
            refine hK.out _ _ (HS6.out) (fun hS => ?_)
            clear hK K
            try simp only [List.getElem_toArray, List.getElem_cons_zero, List.getElem_cons_succ, Act.put, List.setIfInBounds_toArray, List.set_cons_zero, List.set_cons_succ]
            clear hSb
            refine till_one (i := 12) (by kernel_rfl) rfl (fun K hK => ?_)
            simp only [List.getElem_toArray, List.getElem_cons_zero, List.getElem_cons_succ]
            rw [if_pos (by rfl)]
            go_simp
            refine hK.out _ _ (HS6.out) (fun hSb => ?_)
            clear hK K
            try simp only [List.getElem_toArray, List.getElem_cons_zero, List.getElem_cons_succ, Act.put, List.setIfInBounds_toArray, List.set_cons_zero, List.set_cons_succ]
            clear hS
            refine till_one (i := 13) (by kernel_rfl) rfl (fun K hK => ?_)
            simp only [List.getElem_toArray, List.getElem_cons_zero, List.getElem_cons_succ]
            rw [if_pos (by rfl)]
            go_simp
            refine hK.out _ _ (HS6.out) (fun hS => ?_)
            clear hK K
            try simp only [List.getElem_toArray, List.getElem_cons_zero, List.getElem_cons_succ, Act.put, List.setIfInBounds_toArray, List.set_cons_zero, List.set_cons_succ]
            clear hSb
            refine till_done (by kernel_rfl) ?_ _
            clear hS
            go_wp2
            go_ret2
            exact ⟨a6, r - X, c6, 0, rfl, FIN.out⟩
        · have if1 : (u : Int) < (V : Int) := by omega
          have FIN : Hid (Own w1 w.heap.size none 0 0 (rdB l p z).1 ∧ 5 = (rdB l p z).2.1 ∧ Rrf w1 g a n c l (rdB l p z).2.2 ∧ Wfr w w1 g none) := by rw [rdB_bad (z := z) hN.out (fun _ _ => by have h1 := HX2.out; have h2 := Hu.out; have h3 := hl.out; omega)]; exact ⟨Own.nil _ _, rfl, R1.out, wfr_below g B1.out⟩
          go_wp2
          go_ret2
          exact ⟨none, 0, 0, 5, rfl, FIN.out⟩
      · have iz : z < (V : Int) := by omega
        have FIN : Hid (Own w1 w.heap.size none 0 0 (rdB l p z).1 ∧ 5 = (rdB l p z).2.1 ∧ Rrf w1 g a n c l (rdB l p z).2.2 ∧ Wfr w w1 g none) := by rw [rdB_bad (z := z) hN.out (fun _ h => by omega)]; exact ⟨Own.nil _ _, rfl, R1.out, wfr_below g B1.out⟩
        go_wp2
        go_ret2
        exact ⟨none, 0, 0, 5, rfl, FIN.out⟩
end Go.Proofs.YtoegfckafnlknaaDoor
