import Derived.Test.YtppibcambhmomaaDoorPp
import Derived.Test.YtppibcambhmomaaDoorP09
import Derived.Test.YtppibcambhmomaaDoorP10
import Derived.Lib.AppendZeros
import Derived.Test.YtppibcambhmomaaDoorP08
import Derived.Defers
import Derived.Recover
import Derived.Test.YtppibcambhmomaaDoorP05
namespace Go.Proofs.YtppibcambhmomaaDoor
open Go.ChangeShapes Go.WideShapes Go.ChangeAt Go.RowKit
set_option linter.unusedVariables false
set_option linter.unusedSimpArgs false
def ordL : List Nat := [3, 4, 5, 6, 1, 7, 8, 9, 10, 11, 2, 12, 13, 14, 15, 16, 17, 0]
end Go.Proofs.YtppibcambhmomaaDoor
namespace Go.Proofs.YtppibcambhmomaaDoor
set_option maxRecDepth 20000
open Go.ChangeShapes Go.WideShapes Go.ChangeAt Go.RowKit
set_option linter.unusedVariables false
set_option linter.unusedSimpArgs false
def opn (l : List Nat) : List Nat × Nat := if l.length < 4 then ([], 5) else if sealL (l.take (l.length - 4)) = l then (l.take (l.length - 4), 0) else ([], 6)
theorem opn_few {l : List Nat} (h : l.length < 4) : opn l = ([], 5) := by rw [opn, if_pos h]
theorem opn_ok {l : List Nat} (h : 4 <= l.length) (h2 : sealL (l.take (l.length - 4)) = l) : opn l = (l.take (l.length - 4), 0) := by rw [opn, if_neg (by omega), if_pos h2]
theorem opn_bad {l : List Nat} (h : 4 <= l.length) (h2 : sealL (l.take (l.length - 4)) ≠ l) : opn l = ([], 6) := by rw [opn, if_neg (by omega), if_neg h2]
def erv (E : Nat -> Addr) (k : Nat) : Value := if k = 0 then .nilIface else if k = 5 then .iface 142 (.pointer (some (E 1))) else .iface 142 (.pointer (some (E 3)))
theorem open_any {w : World} {a : Option Addr} {n c : Nat} {M : Nat -> Prop} {l : List Nat} {E : Nat -> Addr} (h : Hid (Sln w a n l)) (hc : Hid (a = none -> c = 0)) (hnc : n <= c) (hE : Hid (Sent w M E)) (hM : M 3) (hM1 : M 1) :
  Calls Tryd.prog 23 #[.slice a n c] w fun e w' => ∃ a' N c' v, e = .returned (.tuple #[.slice a' N c', v]) /\ Hid (v = erv E (opn l).2 /\ Own w' w.heap.size a' N c' (opn l).1 /\ Below w.heap.size w w') := by
 have hl := h.out.len
 by_cases h4 : n < 4
 . refine (open_few h4 hE hM1).mono ?_
   rintro e w' ⟨h1, h2⟩
   rw [opn_few (by omega)]
   exact ⟨none, 0, 0, _, h1, rfl, Own.nil _ _, h2.out⟩
 . by_cases hs : sealL (l.take (n - 4)) = l
   . refine (open_ok h hc hnc (by omega) hs).mono ?_
     rintro e w' ⟨a', N, c', h1, h2⟩
     rw [opn_ok (by omega) (by rw [<- hl]; exact hs), <- hl]
     exact ⟨a', N, c', _, h1, rfl, h2.out.2.1, h2.out.2.2⟩
   . refine (open_bad h hc hnc (by omega) hs hE hM).mono ?_
     rintro e w' ⟨h1, h2⟩
     rw [opn_bad (by omega) (by rw [<- hl]; exact hs)]
     exact ⟨none, 0, 0, _, h1, rfl, Own.nil _ _, h2.out⟩
def rdN (l : List Nat) (p : Nat) (z : Int) : Nat × Nat × Nat := if (nat 9 (l.drop p) 0 0).2.2 = true /\ ((nat 9 (l.drop p) 0 0).1 : Int) <= z then ((nat 9 (l.drop p) 0 0).1, 0, p + (nat 9 (l.drop p) 0 0).2.1) else (0, 5, p)
def rdB (l : List Nat) (p : Nat) (z : Int) : List Nat × Nat × Nat := if (nat 9 (l.drop p) 0 0).2.2 = true /\ ((nat 9 (l.drop p) 0 0).1 : Int) <= z /\ p + (nat 9 (l.drop p) 0 0).2.1 + (nat 9 (l.drop p) 0 0).1 <= l.length then ((l.drop (p + (nat 9 (l.drop p) 0 0).2.1)).take (nat 9 (l.drop p) 0 0).1, 0, p + (nat 9 (l.drop p) 0 0).2.1 + (nat 9 (l.drop p) 0 0).1) else ([], 5, p)
section
variable {l : List Nat} {p N S : Nat} {ok : Bool} {z : Int}
theorem rdN_ok (h : nat 9 (l.drop p) 0 0 = (N, S, true)) (hz : (N : Int) <= z) : rdN l p z = (N, 0, p + S) := by unfold rdN; rw [h]; simp [hz]
theorem rdN_bad (h : nat 9 (l.drop p) 0 0 = (N, S, ok)) (hz : ok = true -> z < (N : Int)) : rdN l p z = (0, 5, p) := by
 unfold rdN
 rw [h]
 rw [if_neg]
 rintro ⟨h1, h2⟩
 have := hz h1
 simp only at h2
 omega
theorem rdB_ok (h : nat 9 (l.drop p) 0 0 = (N, S, true)) (hz : (N : Int) <= z) (hf : p + S + N <= l.length) : rdB l p z = ((l.drop (p + S)).take N, 0, p + S + N) := by unfold rdB; rw [h]; simp [hz, hf]
theorem rdB_bad (h : nat 9 (l.drop p) 0 0 = (N, S, ok)) (hz : ok = true -> (N : Int) <= z -> l.length < p + S + N) : rdB l p z = ([], 5, p) := by
 unfold rdB
 rw [h]
 rw [if_neg]
 rintro ⟨h1, h2, h3⟩
 have := hz h1 h2
 simp only at h3
 omega
end
set_option maxHeartbeats 1000000 in
theorem rnum_big {w : World} {g B : Nat} {M : Nat -> Prop} {a : Option Addr} {n c : Nat} {l : List Nat} {p N S : Nat} {z : Int} {E : Nat -> Addr} (hR : Hid (Rdr w g B a n c l p)) (hN : Hid (nat 9 (l.drop p) 0 0 = (N, S, true))) (hz : z < (N : Int)) (hE : Hid (Sent w M E)) (hM : M 1) :
  Calls Tryd.prog 73 #[.pointer (some ⟨g, 0, none⟩),.int .i64 z] w fun e w' => e = .returned (.tuple #[.int .i64 0, .iface 142 (.pointer (some (E 1)))]) /\ Hid (∃ j, w' = w.drewN j) := by
 go_enter Tryd.func73, Tryd.ntmps73
 go_upto_region 2 with (first
  | (go_at_call 77; refine (left_n hR).mono ?_; rintro e w1 ⟨a1, c1, rfl, H1⟩
     have S1 : Hid (Sln w1 a1 (n - p) (l.drop p)) := by
      obtain ⟨j, hj⟩ := H1.out.2
      rw [hj]
      exact H1.out.1.drewN j)
  | (go_at_call 85; refine (numberAt_n S1 hN).mono ?_; rintro e w2 ⟨rfl, H2⟩))
 have D2 : Hid (∃ j, w2 = w.drewN j) := drew_add H1.out.2 H2.out
 have ce : w2.cell? ⟨1, 0, none⟩ = some (.iface 142 (.pointer (some (E 1)))) := by obtain ⟨j, hj⟩ := D2.out; rw [hj, cell_drewN]; exact hE.out.c 1 hM
 have D3 : Hid (∀ i, ∃ j, w2.drewN i = w.drewN j) := fun i => drew_add D2.out ⟨i, rfl⟩
 clear H1 H2 D2
 go_wp2
 go_quiet (fail)
 go_wp2
 go_ret2
 exact ⟨rfl, D3.out _⟩
set_option maxHeartbeats 1000000 in
theorem piece_big {w : World} {g B : Nat} {M : Nat -> Prop} {a : Option Addr} {n c : Nat} {l : List Nat} {p N S : Nat} {z : Int} {E : Nat -> Addr} (hR : Hid (Rdr w g B a n c l p)) (hN : Hid (nat 9 (l.drop p) 0 0 = (N, S, true))) (hz : z < (N : Int)) (hE : Hid (Sent w M E)) (hM : M 1) :
  Calls Tryd.prog 88 #[.pointer (some ⟨g, 0, none⟩),.int .i64 z] w fun e w' => e = .returned (.tuple #[.slice none 0 0, .iface 142 (.pointer (some (E 1)))]) /\ Hid (∃ j, w' = w.drewN j) := by
 go_enter Tryd.func88, Tryd.ntmps88
 go_upto_region 2 with (first
  | (go_at_call 77; refine (left_n hR).mono ?_; rintro e w1 ⟨a1, c1, rfl, H1⟩
     have S1 : Hid (Sln w1 a1 (n - p) (l.drop p)) := by
      obtain ⟨j, hj⟩ := H1.out.2
      rw [hj]
      exact H1.out.1.drewN j)
  | (go_at_call 85; refine (numberAt_n S1 hN).mono ?_; rintro e w2 ⟨rfl, H2⟩))
 have D2 : Hid (∃ j, w2 = w.drewN j) := drew_add H1.out.2 H2.out
 have ce : w2.cell? ⟨1, 0, none⟩ = some (.iface 142 (.pointer (some (E 1)))) := by obtain ⟨j, hj⟩ := D2.out; rw [hj, cell_drewN]; exact hE.out.c 1 hM
 have D3 : Hid (∀ i, ∃ j, w2.drewN i = w.drewN j) := fun i => drew_add D2.out ⟨i, rfl⟩
 clear H1 H2 D2
 go_wp2
 go_quiet (fail)
 go_wp2
 go_ret2
 exact ⟨rfl, D3.out _⟩
def PieceBad (w : World) (g : Nat) (z : Int) (E : Nat -> Addr) : Prop := Calls Tryd.prog 88 #[.pointer (some ⟨g, 0, none⟩),.int .i64 z] w fun e w' => e = .returned (.tuple #[.slice none 0 0, .iface 142 (.pointer (some (E 1)))]) /\ Hid (∃ j, w' = w.drewN j)
theorem piece_bad {w : World} {g B : Nat} {M : Nat -> Prop} {a : Option Addr} {n c : Nat} {l : List Nat} {p N S : Nat} {ok : Bool} {z : Int} {E : Nat -> Addr} (hR : Hid (Rdr w g B a n c l p)) (hN : Hid (nat 9 (l.drop p) 0 0 = (N, S, ok))) (hz2 : z <= 9223372036854775807) (hbad : ok = true -> (N : Int) <= z -> n < p + S + N) (hE : Hid (Sent w M E)) (hM : M 1) : PieceBad w g z E := by
 cases ok with
 | false => exact piece_cut hR hN hE hM
 | true =>
   by_cases h : (N : Int) <= z
   . exact piece_few hR hN h hz2 (hbad rfl h) hE hM
   . exact piece_big hR hN (by omega) hE hM
set_option maxHeartbeats 1000000 in
theorem rtext_pb {w : World} {g : Nat} {z : Int} {E : Nat -> Addr} (P : Hid (PieceBad w g z E)) :
  Calls Tryd.prog 104 #[.pointer (some ⟨g, 0, none⟩),.int .i64 z] w fun e w' => e = .returned (.tuple #[.string (spell []), .iface 142 (.pointer (some (E 1)))]) /\ Hid (∃ j, w' = w.drewN j) := by
 have P2 : Hid (Calls Tryd.prog 88 #[.pointer (some ⟨g, 0, none⟩),.int .i64 z] w fun e w' => e = .returned (.tuple #[.slice none 0 0, .iface 142 (.pointer (some (E 1)))]) /\ Hid (∃ j, w' = w.drewN j)) := P.out
 go_enter Tryd.func104, Tryd.ntmps104
 go_upto_region 2 with (first
  | (go_at_call 88; refine P2.out.mono ?_; rintro e w1 ⟨rfl, H1⟩))
 have CV := conv_n (k := 0) (show Hid (Sln w1 none 0 []) from empty_sln w1)
 go_wp2
 go_ret2
 exact ⟨rfl, H1.out⟩
set_option maxHeartbeats 1000000 in
theorem rbytes_pb {w : World} {g : Nat} {z : Int} {E : Nat -> Addr} (P : Hid (PieceBad w g z E)) :
  Calls Tryd.prog 76 #[.pointer (some ⟨g, 0, none⟩),.int .i64 z] w fun e w' => ∃ a' c', e = .returned (.tuple #[.slice a' 0 c', .iface 142 (.pointer (some (E 1)))]) /\ Hid (Own w' w.heap.size a' 0 c' [] /\ Below w.heap.size w w') := by
 have P2 : Hid (Calls Tryd.prog 88 #[.pointer (some ⟨g, 0, none⟩),.int .i64 z] w fun e w' => e = .returned (.tuple #[.slice none 0 0, .iface 142 (.pointer (some (E 1)))]) /\ Hid (∃ j, w' = w.drewN j)) := P.out
 go_enter Tryd.func76, Tryd.ntmps76
 go_upto_region 2 with (first
  | (go_at_call 88; refine P2.out.mono ?_; rintro e w1 ⟨rfl, H1⟩))
 have S1 : Hid (Sln w1 none 0 []) := empty_sln w1
 go_wp2_with (first
  | (go_at_call 48; refine (clone_n (c := 0) (empty_sln w1) (fun _ => rfl)).mono ?_; rintro e w2 ⟨a2, c2, rfl, H2⟩))
 go_ret2
 obtain ⟨j, hj⟩ := H1.out
 have b1 : Below w.heap.size w w1 := by rw [hj]; exact below_drewN (Below.refl _ _) j
 exact ⟨a2, c2, rfl, H2.out.1.base b1.size, b1.trans (H2.out.2.mono b1.size)⟩
theorem rnum_any {w : World} {g B : Nat} {M : Nat -> Prop} {a : Option Addr} {n c : Nat} {l : List Nat} {p : Nat} {z : Int} {E : Nat -> Addr} (hR : Hid (Rdr w g B a n c l p)) (hz2 : z <= 9223372036854775807) (hE : Hid (Sent w M E)) (hM : M 1) :
  Calls Tryd.prog 73 #[.pointer (some ⟨g, 0, none⟩),.int .i64 z] w fun e w' => ∃ (k : Nat) (v : Value), e = .returned (.tuple #[.int .i64 (k : Int), v]) /\ Hid (k = (rdN l p z).1 /\ v = erv E (rdN l p z).2.1 /\ Rdr w' g B a n c l (rdN l p z).2.2 /\ Wfr w w' g none) := by
 obtain ⟨N, S, ok, hN⟩ : ∃ N S ok, nat 9 (l.drop p) 0 0 = (N, S, ok) := ⟨_, _, _, rfl⟩
 by_cases h : ok = true /\ (N : Int) <= z
 . obtain ⟨rfl, hz⟩ := h
   refine (rnum_ok hR hN hz hz2).mono ?_
   rintro e w' ⟨h1, h2⟩
   rw [rdN_ok hN hz]
   exact ⟨N, _, h1, rfl, rfl, h2.out.1, h2.out.2⟩
 . have hb : ok = true -> z < (N : Int) := fun h1 => by have : ¬ (N : Int) <= z := fun h2 => h ⟨h1, h2⟩; omega
   have : Calls Tryd.prog 73 #[.pointer (some ⟨g, 0, none⟩),.int .i64 z] w fun e w' => e = .returned (.tuple #[.int .i64 0, .iface 142 (.pointer (some (E 1)))]) /\ Hid (∃ j, w' = w.drewN j) := by
    cases ok with
    | false => exact rnum_bad hR hN hE hM
    | true => exact rnum_big hR hN (hb rfl) hE hM
   refine this.mono ?_
   rintro e w' ⟨h1, h2⟩
   rw [rdN_bad hN hb]
   obtain ⟨j, hj⟩ := h2.out
   exact ⟨0, _, h1, rfl, rfl, by rw [hj]; exact hR.out.drewN j, by rw [hj]; exact wfr_drewN w g j⟩
theorem rtext_any {w : World} {g B : Nat} {M : Nat -> Prop} {a : Option Addr} {n c : Nat} {l : List Nat} {p : Nat} {z : Int} {E : Nat -> Addr} (hR : Hid (Rdr w g B a n c l p)) (hz2 : z <= 9223372036854775807) (hE : Hid (Sent w M E)) (hM : M 1) :
  Calls Tryd.prog 104 #[.pointer (some ⟨g, 0, none⟩),.int .i64 z] w fun e w' => ∃ (t : ByteArray) (v : Value), e = .returned (.tuple #[.string t, v]) /\ Hid (t = spell (rdB l p z).1 /\ v = erv E (rdB l p z).2.1 /\ Rdr w' g B a n c l (rdB l p z).2.2 /\ Wfr w w' g none) := by
 obtain ⟨N, S, ok, hN⟩ : ∃ N S ok, nat 9 (l.drop p) 0 0 = (N, S, ok) := ⟨_, _, _, rfl⟩
 have hl := hR.out.own.len
 by_cases h : ok = true /\ (N : Int) <= z /\ p + S + N <= n
 . obtain ⟨rfl, hz, hf⟩ := h
   refine (rtext_ok hR hN hz hz2 hf).mono ?_
   rintro e w' ⟨h1, h2⟩
   rw [rdB_ok hN hz (by omega)]
   exact ⟨_, _, h1, rfl, rfl, h2.out.1, h2.out.2⟩
 . have hb : ok = true -> (N : Int) <= z -> n < p + S + N := fun h1 h2 => by have : ¬ p + S + N <= n := fun h3 => h ⟨h1, h2, h3⟩; omega
   refine (rtext_pb (piece_bad hR hN hz2 hb hE hM)).mono ?_
   rintro e w' ⟨h1, h2⟩
   rw [rdB_bad hN (by rw [<- hl]; exact hb)]
   obtain ⟨j, hj⟩ := h2.out
   exact ⟨_, _, h1, rfl, rfl, by rw [hj]; exact hR.out.drewN j, by rw [hj]; exact wfr_drewN w g j⟩
theorem rbytes_any {w : World} {g B : Nat} {M : Nat -> Prop} {a : Option Addr} {n c : Nat} {l : List Nat} {p : Nat} {z : Int} {E : Nat -> Addr} (hR : Hid (Rdr w g B a n c l p)) (hz2 : z <= 9223372036854775807) (hE : Hid (Sent w M E)) (hM : M 1) :
  Calls Tryd.prog 76 #[.pointer (some ⟨g, 0, none⟩),.int .i64 z] w fun e w' => ∃ (a' : Option Addr) (m c' : Nat) (v : Value), e = .returned (.tuple #[.slice a' m c', v]) /\ Hid (Own w' w.heap.size a' m c' (rdB l p z).1 /\ v = erv E (rdB l p z).2.1 /\ Rdr w' g B a n c l (rdB l p z).2.2 /\ Wfr w w' g none) := by
 obtain ⟨N, S, ok, hN⟩ : ∃ N S ok, nat 9 (l.drop p) 0 0 = (N, S, ok) := ⟨_, _, _, rfl⟩
 have hl := hR.out.own.len
 by_cases h : ok = true /\ (N : Int) <= z /\ p + S + N <= n
 . obtain ⟨rfl, hz, hf⟩ := h
   refine (rbytes_ok hR hN hz hz2 hf).mono ?_
   rintro e w' ⟨a', m, c', h1, h2⟩
   rw [rdB_ok hN hz (by omega)]
   exact ⟨a', m, c', _, h1, h2.out.1, rfl, h2.out.2.1, h2.out.2.2.1⟩
 . have hb : ok = true -> (N : Int) <= z -> n < p + S + N := fun h1 h2 => by have : ¬ p + S + N <= n := fun h3 => h ⟨h1, h2, h3⟩; omega
   refine (rbytes_pb (piece_bad hR hN hz2 hb hE hM)).mono ?_
   rintro e w' ⟨a', c', h1, h2⟩
   rw [rdB_bad hN (by rw [<- hl]; exact hb)]
   have hB := h2.out.2
   exact ⟨a', 0, c', _, h1, h2.out.1, rfl, hR.out.below hB, ⟨hB.os, hB.tape, hB.output, hB.size, fun k hk _ _ => hB.block k hk⟩⟩
structure Rrf (w : World) (g : Nat) (a : Option Addr) (n c : Nat) (l : List Nat) (p : Nat) : Prop where
 blk : w.heap[g]? = some (.cells #[.slice a n c,.int .i64 (p : Int)] 79 (0, 0))
 sl : Sln w a n l
 nc : n <= c
 z : a = none -> c = 0
 ne : ∀ b off, l ≠ [] -> a = some ⟨b, off, none⟩ -> b ≠ g
 le : p <= n
theorem wfr_below {w w' : World} (g : Nat) (hB : Below w.heap.size w w') : Wfr w w' g none := ⟨hB.os, hB.tape, hB.output, hB.size, fun k hk _ _ => hB.block k hk⟩
def rS (g : Nat) (a : Option Addr) (n c r : Nat) (_ : Array Bool) (W : World) : Prop := W.cell? ⟨g, 0, none⟩ = some (.slice a n c) /\ W.cell? ⟨g, 1, none⟩ = some (.int .i64 (r : Int))
end Go.Proofs.YtppibcambhmomaaDoor
namespace Go.Proofs.YtppibcambhmomaaDoor
open Go.ChangeShapes Go.WideShapes Go.ChangeAt Go.RowKit
set_option maxRecDepth 20000
set_option linter.unusedVariables false
set_option linter.unusedSimpArgs false
theorem need_ok (w : World) : Calls Tryd.prog 95 #[.nilIface] w fun e w' => e = .returned (.tuple #[]) /\ w' = w := by
 go_enter Tryd.func95, Tryd.ntmps95
 go_wp2
 go_end0
 exact ⟨rfl, rfl⟩
theorem need_bad (x : Addr) (w : World) : Calls Tryd.prog 95 #[er x] w fun e w' => e = .panicked [{ v := er x, recovered := false }] /\ w' = w := by
 go_enter Tryd.func95, Tryd.ntmps95
 go_wp2
 first
  | exact bodyPost_panic rfl ⟨rfl, rfl⟩
  | exact ⟨rfl, rfl, rfl⟩
  | exact ⟨rfl, rfl⟩
  | simp [bodyPost]
theorem numR_ok {w : World} {g B : Nat} {M : Nat -> Prop} {a : Option Addr} {n c : Nat} {l : List Nat} {p N q : Nat} {z : Int} {E : Nat -> Addr} (hR : Hid (Rdr w g B a n c l p)) (hz2 : z <= 9223372036854775807) (hE : Hid (Sent w M E)) (hM : M 1) (hr : Hid (rdN l p z = (N, 0, q))) :
  Calls Tryd.prog 96 #[.agg #[.pointer (some ⟨g, 0, none⟩)],.int .i64 z] w fun e w' => e = .returned (.int .i64 (N : Int)) /\ Hid (Rdr w' g B a n c l q /\ Wfr w w' g none) := by
 obtain ⟨gb, Hgb⟩ := nm (w.heap.size)
 obtain ⟨w1, Hw1⟩ := nm (w.alloc (.cells #[.pointer (some ⟨g, 0, none⟩)] 131))
 have b1 := al1 Hw1
 have R1 : Hid (Rdr w1 g B a n c l p) := hR.out.below b1.out
 have E1 : Hid (Sent w1 M E) := hE.out.below b1.out
 have k1 : w1.heap[gb]? = some (.cells #[.pointer (some ⟨g, 0, none⟩)] 131 (0, 0)) := by rw [<- Hw1.out, <- Hgb.out]; exact heap_alloc_new w _
 have x0 : w1.cell? ⟨gb, 0, none⟩ = some (.pointer (some ⟨g, 0, none⟩)) := by simp [World.cell?, k1]
 go_enter Tryd.func96, Tryd.ntmps96
 go_upto_region 1 with (fail)
 rw [Hw1.out, Hgb.out]
 go_upto_region 2 with (go_at_call 73; refine (rnum_any R1 hz2 E1 hM).mono ?_; rintro e w2 ⟨k, v, rfl, H2⟩)
 obtain ⟨rfl, rfl, H3⟩ : k = N /\ v = .nilIface /\ Hid (Rdr w2 g B a n c l q /\ Wfr w1 w2 g none) := by
  have h := H2.out
  rw [hr.out] at h
  exact ⟨h.1, h.2.1, h.2.2⟩
 go_wp2_with (go_at_call 95; refine (need_ok _).mono ?_; rintro e w0 ⟨rfl, h0⟩; rw [h0]; clear h0)
 go_ret
 refine ⟨rfl, H3.out.1, ?_⟩
 have h := H3.out.2
 rw [<- Hw1.out] at h
 exact wfr_alloc h
theorem numR_bad {w : World} {g B : Nat} {M : Nat -> Prop} {a : Option Addr} {n c : Nat} {l : List Nat} {p N q : Nat} {z : Int} {E : Nat -> Addr} (hR : Hid (Rdr w g B a n c l p)) (hz2 : z <= 9223372036854775807) (hE : Hid (Sent w M E)) (hM : M 1) (hr : Hid (rdN l p z = (N, 5, q))) :
  Calls Tryd.prog 96 #[.agg #[.pointer (some ⟨g, 0, none⟩)],.int .i64 z] w fun e w' => e = .panicked [{ v := er (E 1), recovered := false }] /\ Hid (Wfr w w' g none) := by
 obtain ⟨gb, Hgb⟩ := nm (w.heap.size)
 obtain ⟨w1, Hw1⟩ := nm (w.alloc (.cells #[.pointer (some ⟨g, 0, none⟩)] 131))
 have b1 := al1 Hw1
 have R1 : Hid (Rdr w1 g B a n c l p) := hR.out.below b1.out
 have E1 : Hid (Sent w1 M E) := hE.out.below b1.out
 have k1 : w1.heap[gb]? = some (.cells #[.pointer (some ⟨g, 0, none⟩)] 131 (0, 0)) := by rw [<- Hw1.out, <- Hgb.out]; exact heap_alloc_new w _
 have x0 : w1.cell? ⟨gb, 0, none⟩ = some (.pointer (some ⟨g, 0, none⟩)) := by simp [World.cell?, k1]
 go_enter Tryd.func96, Tryd.ntmps96
 go_upto_region 1 with (fail)
 rw [Hw1.out, Hgb.out]
 go_upto_region 2 with (go_at_call 73; refine (rnum_any R1 hz2 E1 hM).mono ?_; rintro e w2 ⟨k, v, rfl, H2⟩)
 obtain ⟨rfl, rfl, H3⟩ : k = N /\ v = er (E 1) /\ Hid (Rdr w2 g B a n c l q /\ Wfr w1 w2 g none) := by
  have h := H2.out
  rw [hr.out] at h
  exact ⟨h.1, h.2.1, h.2.2⟩
 go_wp2_with (go_at_call 95; refine (need_bad _ _).mono ?_; rintro e w0 ⟨rfl, h0⟩; rw [h0]; clear h0)
 have F : Hid (Wfr w w2 g none) := by
  have h := H3.out.2
  rw [<- Hw1.out] at h
  exact wfr_alloc h
 first
  | exact bodyPost_panic rfl ⟨rfl, F.out⟩
  | exact ⟨rfl, rfl, F.out⟩
  | exact ⟨rfl, F.out⟩
  | (simp [bodyPost]; exact F.out)
theorem textR_ok {w : World} {g B : Nat} {M : Nat -> Prop} {a : Option Addr} {n c : Nat} {l : List Nat} {L : List Nat} {p q : Nat} {z : Int} {E : Nat -> Addr} (hR : Hid (Rdr w g B a n c l p)) (hz2 : z <= 9223372036854775807) (hE : Hid (Sent w M E)) (hM : M 1) (hr : Hid (rdB l p z = (L, 0, q))) :
  Calls Tryd.prog 103 #[.agg #[.pointer (some ⟨g, 0, none⟩)],.int .i64 z] w fun e w' => e = .returned (.string (spell L)) /\ Hid (Rdr w' g B a n c l q /\ Wfr w w' g none) := by
 obtain ⟨gb, Hgb⟩ := nm (w.heap.size)
 obtain ⟨w1, Hw1⟩ := nm (w.alloc (.cells #[.pointer (some ⟨g, 0, none⟩)] 131))
 have b1 := al1 Hw1
 have R1 : Hid (Rdr w1 g B a n c l p) := hR.out.below b1.out
 have E1 : Hid (Sent w1 M E) := hE.out.below b1.out
 have k1 : w1.heap[gb]? = some (.cells #[.pointer (some ⟨g, 0, none⟩)] 131 (0, 0)) := by rw [<- Hw1.out, <- Hgb.out]; exact heap_alloc_new w _
 have x0 : w1.cell? ⟨gb, 0, none⟩ = some (.pointer (some ⟨g, 0, none⟩)) := by simp [World.cell?, k1]
 go_enter Tryd.func103, Tryd.ntmps103
 go_upto_region 1 with (fail)
 rw [Hw1.out, Hgb.out]
 go_upto_region 2 with (go_at_call 104; refine (rtext_any R1 hz2 E1 hM).mono ?_; rintro e w2 ⟨k, v, rfl, H2⟩)
 obtain ⟨rfl, rfl, H3⟩ : k = spell L /\ v = .nilIface /\ Hid (Rdr w2 g B a n c l q /\ Wfr w1 w2 g none) := by
  have h := H2.out
  rw [hr.out] at h
  exact ⟨h.1, h.2.1, h.2.2⟩
 go_wp2_with (go_at_call 95; refine (need_ok _).mono ?_; rintro e w0 ⟨rfl, h0⟩; rw [h0]; clear h0)
 go_ret
 refine ⟨rfl, H3.out.1, ?_⟩
 have h := H3.out.2
 rw [<- Hw1.out] at h
 exact wfr_alloc h
theorem textR_bad {w : World} {g B : Nat} {M : Nat -> Prop} {a : Option Addr} {n c : Nat} {l : List Nat} {L : List Nat} {p q : Nat} {z : Int} {E : Nat -> Addr} (hR : Hid (Rdr w g B a n c l p)) (hz2 : z <= 9223372036854775807) (hE : Hid (Sent w M E)) (hM : M 1) (hr : Hid (rdB l p z = (L, 5, q))) :
  Calls Tryd.prog 103 #[.agg #[.pointer (some ⟨g, 0, none⟩)],.int .i64 z] w fun e w' => e = .panicked [{ v := er (E 1), recovered := false }] /\ Hid (Wfr w w' g none) := by
 obtain ⟨gb, Hgb⟩ := nm (w.heap.size)
 obtain ⟨w1, Hw1⟩ := nm (w.alloc (.cells #[.pointer (some ⟨g, 0, none⟩)] 131))
 have b1 := al1 Hw1
 have R1 : Hid (Rdr w1 g B a n c l p) := hR.out.below b1.out
 have E1 : Hid (Sent w1 M E) := hE.out.below b1.out
 have k1 : w1.heap[gb]? = some (.cells #[.pointer (some ⟨g, 0, none⟩)] 131 (0, 0)) := by rw [<- Hw1.out, <- Hgb.out]; exact heap_alloc_new w _
 have x0 : w1.cell? ⟨gb, 0, none⟩ = some (.pointer (some ⟨g, 0, none⟩)) := by simp [World.cell?, k1]
 go_enter Tryd.func103, Tryd.ntmps103
 go_upto_region 1 with (fail)
 rw [Hw1.out, Hgb.out]
 go_upto_region 2 with (go_at_call 104; refine (rtext_any R1 hz2 E1 hM).mono ?_; rintro e w2 ⟨k, v, rfl, H2⟩)
 obtain ⟨rfl, rfl, H3⟩ : k = spell L /\ v = er (E 1) /\ Hid (Rdr w2 g B a n c l q /\ Wfr w1 w2 g none) := by
  have h := H2.out
  rw [hr.out] at h
  exact ⟨h.1, h.2.1, h.2.2⟩
 go_wp2_with (go_at_call 95; refine (need_bad _ _).mono ?_; rintro e w0 ⟨rfl, h0⟩; rw [h0]; clear h0)
 have F : Hid (Wfr w w2 g none) := by
  have h := H3.out.2
  rw [<- Hw1.out] at h
  exact wfr_alloc h
 first
  | exact bodyPost_panic rfl ⟨rfl, F.out⟩
  | exact ⟨rfl, rfl, F.out⟩
  | exact ⟨rfl, F.out⟩
  | (simp [bodyPost]; exact F.out)
noncomputable def ops76 : Array Oper := match Tryd.f102.body with
 | some c => match regIn 1 c with
   | some o => o
   | none => #[]
 | none => #[]
theorem sent_rdr {w w' : World} {M : Nat -> Prop} {E : Nat -> Addr} {g B : Nat} {a : Option Addr} {n c : Nat} {l : List Nat} {p q : Nat} (h : Sent w M E) (h1 : Rdr w g B a n c l p) (h2 : Rdr w' g B a n c l q) (hf : Wfr w w' g none) : Sent w' M E := by
 refine ⟨fun k hk => ?_, fun k hk => ?_, h.ne⟩
 . have hc := h.c k hk
   have hne : k ≠ g := by rintro rfl; rw [h1.c0] at hc; simp [er] at hc
   have := hf.block k (cell_lt hc) hne (by simp [blkOf])
   rw [<- hc]
   simp [World.cell?, this]
 . obtain ⟨cs, t, hr⟩ := h.row k hk
   by_cases e : (E k).block = g
   . exact ⟨_, _, by rw [e]; exact h2.blk⟩
   . exact ⟨cs, t, (hf.block _ (gl hr) e (by simp [blkOf])).trans hr⟩
theorem box_wfr {w w' : World} {g gb : Nat} {o : Obj} (hb : w.heap[gb]? = some o) (hne : gb ≠ g) (hf : Wfr w w' g none) : w'.heap[gb]? = some o := (hf.block gb (gl hb) hne (by simp [blkOf])).trans hb
theorem rdr_set {w : World} {g B : Nat} {a : Option Addr} {n c : Nat} {l : List Nat} {p gz : Nat} (h : Rdr w g B a n c l p) (hne : gz ≠ g) (ha : blkOf a ≠ some gz) (i : Nat) (v : Value) : Rdr (w.setCell ⟨gz, i, none⟩ v) g B a n c l p :=
 ⟨(heap_setCell_other w ⟨gz, i, none⟩ g v (Ne.symm hne)).trans h.blk, h.own.block (fun q hq => heap_setCell_other w ⟨gz, i, none⟩ q v (fun e => ha (by rw [hq]; exact congrArg some e))), h.ne, h.le, h.sz⟩
theorem wfr_set {w w' : World} {g gz : Nat} (h : Wfr w w' g none) (hz : w.heap.size <= gz) (i : Nat) (v : Value) : Wfr w (w'.setCell ⟨gz, i, none⟩ v) g none :=
 ⟨h.os, h.tape, h.output, by simp [World.setCell]; exact h.size, fun k hk h1 h2 => (heap_setCell_other w' ⟨gz, i, none⟩ k v (by show k ≠ gz; omega)).trans (h.block k hk h1 h2)⟩
set_option maxHeartbeats 2000000 in
theorem idR_bad1 {w : World} {g B : Nat} {M : Nat -> Prop} {a : Option Addr} {n c : Nat} {l : List Nat} {p X1 q1 : Nat} {E : Nat -> Addr} (hR : Hid (Rdr w g B a n c l p)) (hE : Hid (Sent w M E)) (hM : M 1) (hr1 : Hid (rdN l p 15 = (X1, 5, q1))) :
  Calls Tryd.prog 102 #[.agg #[.pointer (some ⟨g, 0, none⟩)]] w fun e w' => e = .panicked [{ v := er (E 1), recovered := false }] /\ Hid (Wfr w w' g none) := by
 obtain ⟨gb, Hgb⟩ := nm (w.heap.size)
 obtain ⟨gz, Hgz⟩ := nm (w.heap.size + 1)
 obtain ⟨w0, Hw0⟩ := nm ((w.alloc (.cells #[.pointer (some ⟨g, 0, none⟩)] 131)).alloc (.cells #[.int .i64 0,.int .i64 0,.int .i64 0] 23))
 obtain ⟨w1, Hw1⟩ := nm (w0.drew)
 have b0 : Hid (Below w.heap.size w w0) := by rw [<- Hw0.out]; exact alloc2 w _ _
 have b1 : Hid (Below w.heap.size w w1) := by rw [<- Hw1.out]; exact b0.out.drew
 have S1 : Hid (Rdr w1 g B a n c l p /\ Sent w1 M E /\ Wfr w w1 g none) := ⟨hR.out.below b1.out, hE.out.below b1.out, wfr_below g b1.out⟩
 have ne : Hid (gb ≠ g /\ gz ≠ g) := by have h1 := hR.out.lt; have h2 := Hgb.out; have h3 := Hgz.out; exact ⟨by omega, by omega⟩
 have kb : Hid (w1.heap[gb]? = some (.cells #[.pointer (some ⟨g, 0, none⟩)] 131 (0, 0)) /\ w1.heap[gz]? = some (.cells #[.int .i64 0,.int .i64 0,.int .i64 0] 23 (0, 0))) := by
  rw [<- Hw1.out, <- Hw0.out, <- Hgb.out, <- Hgz.out]
  refine ⟨?_, ?_⟩
  . show ((w.alloc (.cells #[.pointer (some ⟨g, 0, none⟩)] 131)).alloc _).heap[w.heap.size]? = _
    exact ((alloc1 _ _).block w.heap.size (by simp)).trans (heap_alloc_new w _)
  . have h := heap_alloc_new (w.alloc (.cells #[.pointer (some ⟨g, 0, none⟩)] 131)) (.cells #[.int .i64 0,.int .i64 0,.int .i64 0] 23)
    show ((w.alloc (.cells #[.pointer (some ⟨g, 0, none⟩)] 131)).alloc _).heap[w.heap.size + 1]? = _
    simpa using h
 have FR : Hid (∀ {w' : World}, Wfr w1 w' g none -> Wfr w w' g none) := fun {w'} h => S1.out.2.2.none_trans h
 go_enter Tryd.func102, Tryd.ntmps102
 go_upto_region 1 with (fail)
 rw [Hw0.out, Hgz.out, Hgb.out]
 refine wp_region_seq (ops := ops76) (C := fun W => W.cell? ⟨gb, 0, none⟩ = some (.pointer (some ⟨g, 0, none⟩))) [(0, false), (2, false), (4, false), (1, true), (3, true), (5, true), (6, false), (7, false), (8, false)] (by kernel_rfl) (by kernel_rfl) (by rw [Hw1.out]; simp [World.cell?, kb.out.1]) ?_
 rw [Hw1.out]
 clear Hw0 Hw1 b0 b1
 refine sty (o := ⟨some 6, .load 131 (.tmp 1), 131, "reader.go:71", #[], none⟩) (v := .agg #[.pointer (some ⟨g, 0, none⟩)]) (Or.inl ⟨by kernel_rfl, fun W hW => by have q0 := hW; go_simp⟩) ?_
 simp only [pG,Act.put]
 refine sty (o := ⟨some 8, .load 131 (.tmp 1), 131, "reader.go:71", #[], none⟩) (v := .agg #[.pointer (some ⟨g, 0, none⟩)]) (Or.inl ⟨by kernel_rfl, fun W hW => by have q0 := hW; go_simp⟩) ?_
 simp only [pG,Act.put]
 refine sty (o := ⟨some 10, .load 131 (.tmp 1), 131, "reader.go:71", #[], none⟩) (v := .agg #[.pointer (some ⟨g, 0, none⟩)]) (Or.inl ⟨by kernel_rfl, fun W hW => by have q0 := hW; go_simp⟩) ?_
 simp only [pG,Act.put]
 refine seq_call (o := ⟨some 7, .call { callee := .value (.func 96), args := #[.tmp 6, .const (.int .i64 15)], argTypes := #[131, 3] }, 3, "reader.go:71", #[⟨0, .data⟩], none⟩) (by kernel_rfl) (fun K hK => ?_)
 rw [if_pos (by kernel_rfl)]
 go_simp
 go_wp2_with (go_at_call 96; refine (numR_bad (z := 15) (show Hid (Rdr w1 g B a n c l p) from S1.out.1) (by omega) (show Hid (Sent w1 M E) from S1.out.2.1) hM hr1).mono ?_; rintro e w2 ⟨rfl, H2⟩)
 have F : Hid (Wfr w w2 g none) := S1.out.2.2.none_trans H2.out
 first
  | exact bodyPost_panic rfl ⟨rfl, F.out⟩
  | exact ⟨rfl, rfl, F.out⟩
  | exact ⟨rfl, F.out⟩
  | (simp [bodyPost]; exact F.out)
set_option maxHeartbeats 2000000 in
theorem idR_bad2 {w : World} {g B : Nat} {M : Nat -> Prop} {a : Option Addr} {n c : Nat} {l : List Nat} {p X1 q1 X2 q2 : Nat} {E : Nat -> Addr} (hR : Hid (Rdr w g B a n c l p)) (hE : Hid (Sent w M E)) (hM : M 1) (hr1 : Hid (rdN l p 15 = (X1, 0, q1))) (hr2 : Hid (rdN l q1 1099511627776 = (X2, 5, q2))) :
  Calls Tryd.prog 102 #[.agg #[.pointer (some ⟨g, 0, none⟩)]] w fun e w' => e = .panicked [{ v := er (E 1), recovered := false }] /\ Hid (Wfr w w' g none) := by
 obtain ⟨gb, Hgb⟩ := nm (w.heap.size)
 obtain ⟨gz, Hgz⟩ := nm (w.heap.size + 1)
 obtain ⟨w0, Hw0⟩ := nm ((w.alloc (.cells #[.pointer (some ⟨g, 0, none⟩)] 131)).alloc (.cells #[.int .i64 0,.int .i64 0,.int .i64 0] 23))
 obtain ⟨w1, Hw1⟩ := nm (w0.drew)
 have b0 : Hid (Below w.heap.size w w0) := by rw [<- Hw0.out]; exact alloc2 w _ _
 have b1 : Hid (Below w.heap.size w w1) := by rw [<- Hw1.out]; exact b0.out.drew
 have S1 : Hid (Rdr w1 g B a n c l p /\ Sent w1 M E /\ Wfr w w1 g none) := ⟨hR.out.below b1.out, hE.out.below b1.out, wfr_below g b1.out⟩
 have ne : Hid (gb ≠ g /\ gz ≠ g) := by have h1 := hR.out.lt; have h2 := Hgb.out; have h3 := Hgz.out; exact ⟨by omega, by omega⟩
 have kb : Hid (w1.heap[gb]? = some (.cells #[.pointer (some ⟨g, 0, none⟩)] 131 (0, 0)) /\ w1.heap[gz]? = some (.cells #[.int .i64 0,.int .i64 0,.int .i64 0] 23 (0, 0))) := by
  rw [<- Hw1.out, <- Hw0.out, <- Hgb.out, <- Hgz.out]
  refine ⟨?_, ?_⟩
  . show ((w.alloc (.cells #[.pointer (some ⟨g, 0, none⟩)] 131)).alloc _).heap[w.heap.size]? = _
    exact ((alloc1 _ _).block w.heap.size (by simp)).trans (heap_alloc_new w _)
  . have h := heap_alloc_new (w.alloc (.cells #[.pointer (some ⟨g, 0, none⟩)] 131)) (.cells #[.int .i64 0,.int .i64 0,.int .i64 0] 23)
    show ((w.alloc (.cells #[.pointer (some ⟨g, 0, none⟩)] 131)).alloc _).heap[w.heap.size + 1]? = _
    simpa using h
 have FR : Hid (∀ {w' : World}, Wfr w1 w' g none -> Wfr w w' g none) := fun {w'} h => S1.out.2.2.none_trans h
 go_enter Tryd.func102, Tryd.ntmps102
 go_upto_region 1 with (fail)
 rw [Hw0.out, Hgz.out, Hgb.out]
 refine wp_region_seq (ops := ops76) (C := fun W => W.cell? ⟨gb, 0, none⟩ = some (.pointer (some ⟨g, 0, none⟩))) [(0, false), (2, false), (4, false), (1, true), (3, true), (5, true), (6, false), (7, false), (8, false)] (by kernel_rfl) (by kernel_rfl) (by rw [Hw1.out]; simp [World.cell?, kb.out.1]) ?_
 rw [Hw1.out]
 clear Hw0 Hw1 b0 b1
 refine sty (o := ⟨some 6, .load 131 (.tmp 1), 131, "reader.go:71", #[], none⟩) (v := .agg #[.pointer (some ⟨g, 0, none⟩)]) (Or.inl ⟨by kernel_rfl, fun W hW => by have q0 := hW; go_simp⟩) ?_
 simp only [pG,Act.put]
 refine sty (o := ⟨some 8, .load 131 (.tmp 1), 131, "reader.go:71", #[], none⟩) (v := .agg #[.pointer (some ⟨g, 0, none⟩)]) (Or.inl ⟨by kernel_rfl, fun W hW => by have q0 := hW; go_simp⟩) ?_
 simp only [pG,Act.put]
 refine sty (o := ⟨some 10, .load 131 (.tmp 1), 131, "reader.go:71", #[], none⟩) (v := .agg #[.pointer (some ⟨g, 0, none⟩)]) (Or.inl ⟨by kernel_rfl, fun W hW => by have q0 := hW; go_simp⟩) ?_
 simp only [pG,Act.put]
 refine seq_call (o := ⟨some 7, .call { callee := .value (.func 96), args := #[.tmp 6, .const (.int .i64 15)], argTypes := #[131, 3] }, 3, "reader.go:71", #[⟨0, .data⟩], none⟩) (by kernel_rfl) (fun K hK => ?_)
 rw [if_pos (by kernel_rfl)]
 go_simp
 go_wp2_with (go_at_call 96; refine (numR_ok (z := 15) (show Hid (Rdr w1 g B a n c l p) from S1.out.1) (by omega) (show Hid (Sent w1 M E) from S1.out.2.1) hM hr1).mono ?_; rintro e w2 ⟨rfl, H2⟩)
 have S2 : Hid (Rdr w2 g B a n c l q1 /\ Sent w2 M E /\ Wfr w w2 g none) := ⟨H2.out.1, sent_rdr S1.out.2.1 S1.out.1 H2.out.1 H2.out.2, S1.out.2.2.none_trans H2.out.2⟩
 have kb2 : Hid (w2.heap[gb]? = some (.cells #[.pointer (some ⟨g, 0, none⟩)] 131 (0, 0)) /\ w2.heap[gz]? = some (.cells #[.int .i64 0,.int .i64 0,.int .i64 0] 23 (0, 0))) := ⟨box_wfr kb.out.1 ne.out.1 H2.out.2, box_wfr kb.out.2 ne.out.2 H2.out.2⟩
 refine hK.out _ _ (by simp [World.cell?, kb2.out.1]) ?_
 clear hK K H2 kb S1
 try simp only [pG,Act.put]
 refine seq_call (o := ⟨some 9, .call { callee := .value (.func 96), args := #[.tmp 8, .const (.int .i64 1099511627776)], argTypes := #[131, 3] }, 3, "reader.go:71", #[⟨2, .data⟩, ⟨1, .chain⟩], none⟩) (by kernel_rfl) (fun K hK => ?_)
 rw [if_pos (by kernel_rfl)]
 go_simp
 go_wp2_with (go_at_call 96; refine (numR_bad (z := 1099511627776) (show Hid (Rdr w2 g B a n c l q1) from S2.out.1) (by omega) (show Hid (Sent w2 M E) from S2.out.2.1) hM hr2).mono ?_; rintro e w3 ⟨rfl, H3⟩)
 have F : Hid (Wfr w w3 g none) := S2.out.2.2.none_trans H3.out
 first
  | exact bodyPost_panic rfl ⟨rfl, F.out⟩
  | exact ⟨rfl, rfl, F.out⟩
  | exact ⟨rfl, F.out⟩
  | (simp [bodyPost]; exact F.out)
set_option maxHeartbeats 2000000 in
theorem idR_bad3 {w : World} {g B : Nat} {M : Nat -> Prop} {a : Option Addr} {n c : Nat} {l : List Nat} {p X1 q1 X2 q2 X3 q3 : Nat} {E : Nat -> Addr} (hR : Hid (Rdr w g B a n c l p)) (hE : Hid (Sent w M E)) (hM : M 1) (hr1 : Hid (rdN l p 15 = (X1, 0, q1))) (hr2 : Hid (rdN l q1 1099511627776 = (X2, 0, q2))) (hr3 : Hid (rdN l q2 1099511627776 = (X3, 5, q3))) :
  Calls Tryd.prog 102 #[.agg #[.pointer (some ⟨g, 0, none⟩)]] w fun e w' => e = .panicked [{ v := er (E 1), recovered := false }] /\ Hid (Wfr w w' g none) := by
 obtain ⟨gb, Hgb⟩ := nm (w.heap.size)
 obtain ⟨gz, Hgz⟩ := nm (w.heap.size + 1)
 obtain ⟨w0, Hw0⟩ := nm ((w.alloc (.cells #[.pointer (some ⟨g, 0, none⟩)] 131)).alloc (.cells #[.int .i64 0,.int .i64 0,.int .i64 0] 23))
 obtain ⟨w1, Hw1⟩ := nm (w0.drew)
 have b0 : Hid (Below w.heap.size w w0) := by rw [<- Hw0.out]; exact alloc2 w _ _
 have b1 : Hid (Below w.heap.size w w1) := by rw [<- Hw1.out]; exact b0.out.drew
 have S1 : Hid (Rdr w1 g B a n c l p /\ Sent w1 M E /\ Wfr w w1 g none) := ⟨hR.out.below b1.out, hE.out.below b1.out, wfr_below g b1.out⟩
 have ne : Hid (gb ≠ g /\ gz ≠ g) := by have h1 := hR.out.lt; have h2 := Hgb.out; have h3 := Hgz.out; exact ⟨by omega, by omega⟩
 have kb : Hid (w1.heap[gb]? = some (.cells #[.pointer (some ⟨g, 0, none⟩)] 131 (0, 0)) /\ w1.heap[gz]? = some (.cells #[.int .i64 0,.int .i64 0,.int .i64 0] 23 (0, 0))) := by
  rw [<- Hw1.out, <- Hw0.out, <- Hgb.out, <- Hgz.out]
  refine ⟨?_, ?_⟩
  . show ((w.alloc (.cells #[.pointer (some ⟨g, 0, none⟩)] 131)).alloc _).heap[w.heap.size]? = _
    exact ((alloc1 _ _).block w.heap.size (by simp)).trans (heap_alloc_new w _)
  . have h := heap_alloc_new (w.alloc (.cells #[.pointer (some ⟨g, 0, none⟩)] 131)) (.cells #[.int .i64 0,.int .i64 0,.int .i64 0] 23)
    show ((w.alloc (.cells #[.pointer (some ⟨g, 0, none⟩)] 131)).alloc _).heap[w.heap.size + 1]? = _
    simpa using h
 have FR : Hid (∀ {w' : World}, Wfr w1 w' g none -> Wfr w w' g none) := fun {w'} h => S1.out.2.2.none_trans h
 go_enter Tryd.func102, Tryd.ntmps102
 go_upto_region 1 with (fail)
 rw [Hw0.out, Hgz.out, Hgb.out]
 refine wp_region_seq (ops := ops76) (C := fun W => W.cell? ⟨gb, 0, none⟩ = some (.pointer (some ⟨g, 0, none⟩))) [(0, false), (2, false), (4, false), (1, true), (3, true), (5, true), (6, false), (7, false), (8, false)] (by kernel_rfl) (by kernel_rfl) (by rw [Hw1.out]; simp [World.cell?, kb.out.1]) ?_
 rw [Hw1.out]
 clear Hw0 Hw1 b0 b1
 refine sty (o := ⟨some 6, .load 131 (.tmp 1), 131, "reader.go:71", #[], none⟩) (v := .agg #[.pointer (some ⟨g, 0, none⟩)]) (Or.inl ⟨by kernel_rfl, fun W hW => by have q0 := hW; go_simp⟩) ?_
 simp only [pG,Act.put]
 refine sty (o := ⟨some 8, .load 131 (.tmp 1), 131, "reader.go:71", #[], none⟩) (v := .agg #[.pointer (some ⟨g, 0, none⟩)]) (Or.inl ⟨by kernel_rfl, fun W hW => by have q0 := hW; go_simp⟩) ?_
 simp only [pG,Act.put]
 refine sty (o := ⟨some 10, .load 131 (.tmp 1), 131, "reader.go:71", #[], none⟩) (v := .agg #[.pointer (some ⟨g, 0, none⟩)]) (Or.inl ⟨by kernel_rfl, fun W hW => by have q0 := hW; go_simp⟩) ?_
 simp only [pG,Act.put]
 refine seq_call (o := ⟨some 7, .call { callee := .value (.func 96), args := #[.tmp 6, .const (.int .i64 15)], argTypes := #[131, 3] }, 3, "reader.go:71", #[⟨0, .data⟩], none⟩) (by kernel_rfl) (fun K hK => ?_)
 rw [if_pos (by kernel_rfl)]
 go_simp
 go_wp2_with (go_at_call 96; refine (numR_ok (z := 15) (show Hid (Rdr w1 g B a n c l p) from S1.out.1) (by omega) (show Hid (Sent w1 M E) from S1.out.2.1) hM hr1).mono ?_; rintro e w2 ⟨rfl, H2⟩)
 have S2 : Hid (Rdr w2 g B a n c l q1 /\ Sent w2 M E /\ Wfr w w2 g none) := ⟨H2.out.1, sent_rdr S1.out.2.1 S1.out.1 H2.out.1 H2.out.2, S1.out.2.2.none_trans H2.out.2⟩
 have kb2 : Hid (w2.heap[gb]? = some (.cells #[.pointer (some ⟨g, 0, none⟩)] 131 (0, 0)) /\ w2.heap[gz]? = some (.cells #[.int .i64 0,.int .i64 0,.int .i64 0] 23 (0, 0))) := ⟨box_wfr kb.out.1 ne.out.1 H2.out.2, box_wfr kb.out.2 ne.out.2 H2.out.2⟩
 refine hK.out _ _ (by simp [World.cell?, kb2.out.1]) ?_
 clear hK K H2 kb S1
 try simp only [pG,Act.put]
 refine seq_call (o := ⟨some 9, .call { callee := .value (.func 96), args := #[.tmp 8, .const (.int .i64 1099511627776)], argTypes := #[131, 3] }, 3, "reader.go:71", #[⟨2, .data⟩, ⟨1, .chain⟩], none⟩) (by kernel_rfl) (fun K hK => ?_)
 rw [if_pos (by kernel_rfl)]
 go_simp
 go_wp2_with (go_at_call 96; refine (numR_ok (z := 1099511627776) (show Hid (Rdr w2 g B a n c l q1) from S2.out.1) (by omega) (show Hid (Sent w2 M E) from S2.out.2.1) hM hr2).mono ?_; rintro e w3 ⟨rfl, H3⟩)
 have S3 : Hid (Rdr w3 g B a n c l q2 /\ Sent w3 M E /\ Wfr w w3 g none) := ⟨H3.out.1, sent_rdr S2.out.2.1 S2.out.1 H3.out.1 H3.out.2, S2.out.2.2.none_trans H3.out.2⟩
 have kb3 : Hid (w3.heap[gb]? = some (.cells #[.pointer (some ⟨g, 0, none⟩)] 131 (0, 0)) /\ w3.heap[gz]? = some (.cells #[.int .i64 0,.int .i64 0,.int .i64 0] 23 (0, 0))) := ⟨box_wfr kb2.out.1 ne.out.1 H3.out.2, box_wfr kb2.out.2 ne.out.2 H3.out.2⟩
 refine hK.out _ _ (by simp [World.cell?, kb3.out.1]) ?_
 clear hK K H3 kb2 S2
 try simp only [pG,Act.put]
 refine seq_call (o := ⟨some 11, .call { callee := .value (.func 96), args := #[.tmp 10, .const (.int .i64 1099511627776)], argTypes := #[131, 3] }, 3, "reader.go:71", #[⟨4, .data⟩, ⟨3, .chain⟩], none⟩) (by kernel_rfl) (fun K hK => ?_)
 rw [if_pos (by kernel_rfl)]
 go_simp
 go_wp2_with (go_at_call 96; refine (numR_bad (z := 1099511627776) (show Hid (Rdr w3 g B a n c l q2) from S3.out.1) (by omega) (show Hid (Sent w3 M E) from S3.out.2.1) hM hr3).mono ?_; rintro e w4 ⟨rfl, H4⟩)
 have F : Hid (Wfr w w4 g none) := S3.out.2.2.none_trans H4.out
 first
  | exact bodyPost_panic rfl ⟨rfl, F.out⟩
  | exact ⟨rfl, rfl, F.out⟩
  | exact ⟨rfl, F.out⟩
  | (simp [bodyPost]; exact F.out)
set_option maxHeartbeats 2000000 in
theorem idR_ok {w : World} {g B : Nat} {M : Nat -> Prop} {a : Option Addr} {n c : Nat} {l : List Nat} {p X1 q1 X2 q2 X3 q3 : Nat} {E : Nat -> Addr} (hR : Hid (Rdr w g B a n c l p)) (hE : Hid (Sent w M E)) (hM : M 1) (hr1 : Hid (rdN l p 15 = (X1, 0, q1))) (hr2 : Hid (rdN l q1 1099511627776 = (X2, 0, q2))) (hr3 : Hid (rdN l q2 1099511627776 = (X3, 0, q3))) :
  Calls Tryd.prog 102 #[.agg #[.pointer (some ⟨g, 0, none⟩)]] w fun e w' => e = .returned (.agg #[.int .i64 (X1 : Int),.int .i64 (X2 : Int),.int .i64 (X3 : Int)]) /\ Hid (Rdr w' g B a n c l q3 /\ Wfr w w' g none) := by
 obtain ⟨gb, Hgb⟩ := nm (w.heap.size)
 obtain ⟨gz, Hgz⟩ := nm (w.heap.size + 1)
 obtain ⟨w0, Hw0⟩ := nm ((w.alloc (.cells #[.pointer (some ⟨g, 0, none⟩)] 131)).alloc (.cells #[.int .i64 0,.int .i64 0,.int .i64 0] 23))
 obtain ⟨w1, Hw1⟩ := nm (w0.drew)
 have b0 : Hid (Below w.heap.size w w0) := by rw [<- Hw0.out]; exact alloc2 w _ _
 have b1 : Hid (Below w.heap.size w w1) := by rw [<- Hw1.out]; exact b0.out.drew
 have S1 : Hid (Rdr w1 g B a n c l p /\ Sent w1 M E /\ Wfr w w1 g none) := ⟨hR.out.below b1.out, hE.out.below b1.out, wfr_below g b1.out⟩
 have ne : Hid (gb ≠ g /\ gz ≠ g) := by have h1 := hR.out.lt; have h2 := Hgb.out; have h3 := Hgz.out; exact ⟨by omega, by omega⟩
 have kb : Hid (w1.heap[gb]? = some (.cells #[.pointer (some ⟨g, 0, none⟩)] 131 (0, 0)) /\ w1.heap[gz]? = some (.cells #[.int .i64 0,.int .i64 0,.int .i64 0] 23 (0, 0))) := by
  rw [<- Hw1.out, <- Hw0.out, <- Hgb.out, <- Hgz.out]
  refine ⟨?_, ?_⟩
  . show ((w.alloc (.cells #[.pointer (some ⟨g, 0, none⟩)] 131)).alloc _).heap[w.heap.size]? = _
    exact ((alloc1 _ _).block w.heap.size (by simp)).trans (heap_alloc_new w _)
  . have h := heap_alloc_new (w.alloc (.cells #[.pointer (some ⟨g, 0, none⟩)] 131)) (.cells #[.int .i64 0,.int .i64 0,.int .i64 0] 23)
    show ((w.alloc (.cells #[.pointer (some ⟨g, 0, none⟩)] 131)).alloc _).heap[w.heap.size + 1]? = _
    simpa using h
 have FR : Hid (∀ {w' : World}, Wfr w1 w' g none -> Wfr w w' g none) := fun {w'} h => S1.out.2.2.none_trans h
 go_enter Tryd.func102, Tryd.ntmps102
 go_upto_region 1 with (fail)
 rw [Hw0.out, Hgz.out, Hgb.out]
 refine wp_region_seq (ops := ops76) (C := fun W => W.cell? ⟨gb, 0, none⟩ = some (.pointer (some ⟨g, 0, none⟩))) [(0, false), (2, false), (4, false), (1, true), (3, true), (5, true), (6, false), (7, false), (8, false)] (by kernel_rfl) (by kernel_rfl) (by rw [Hw1.out]; simp [World.cell?, kb.out.1]) ?_
 rw [Hw1.out]
 clear Hw0 Hw1 b0 b1
 refine sty (o := ⟨some 6, .load 131 (.tmp 1), 131, "reader.go:71", #[], none⟩) (v := .agg #[.pointer (some ⟨g, 0, none⟩)]) (Or.inl ⟨by kernel_rfl, fun W hW => by have q0 := hW; go_simp⟩) ?_
 simp only [pG,Act.put]
 refine sty (o := ⟨some 8, .load 131 (.tmp 1), 131, "reader.go:71", #[], none⟩) (v := .agg #[.pointer (some ⟨g, 0, none⟩)]) (Or.inl ⟨by kernel_rfl, fun W hW => by have q0 := hW; go_simp⟩) ?_
 simp only [pG,Act.put]
 refine sty (o := ⟨some 10, .load 131 (.tmp 1), 131, "reader.go:71", #[], none⟩) (v := .agg #[.pointer (some ⟨g, 0, none⟩)]) (Or.inl ⟨by kernel_rfl, fun W hW => by have q0 := hW; go_simp⟩) ?_
 simp only [pG,Act.put]
 refine seq_call (o := ⟨some 7, .call { callee := .value (.func 96), args := #[.tmp 6, .const (.int .i64 15)], argTypes := #[131, 3] }, 3, "reader.go:71", #[⟨0, .data⟩], none⟩) (by kernel_rfl) (fun K hK => ?_)
 rw [if_pos (by kernel_rfl)]
 go_simp
 go_wp2_with (go_at_call 96; refine (numR_ok (z := 15) (show Hid (Rdr w1 g B a n c l p) from S1.out.1) (by omega) (show Hid (Sent w1 M E) from S1.out.2.1) hM hr1).mono ?_; rintro e w2 ⟨rfl, H2⟩)
 have S2 : Hid (Rdr w2 g B a n c l q1 /\ Sent w2 M E /\ Wfr w w2 g none) := ⟨H2.out.1, sent_rdr S1.out.2.1 S1.out.1 H2.out.1 H2.out.2, S1.out.2.2.none_trans H2.out.2⟩
 have kb2 : Hid (w2.heap[gb]? = some (.cells #[.pointer (some ⟨g, 0, none⟩)] 131 (0, 0)) /\ w2.heap[gz]? = some (.cells #[.int .i64 0,.int .i64 0,.int .i64 0] 23 (0, 0))) := ⟨box_wfr kb.out.1 ne.out.1 H2.out.2, box_wfr kb.out.2 ne.out.2 H2.out.2⟩
 refine hK.out _ _ (by simp [World.cell?, kb2.out.1]) ?_
 clear hK K H2 kb S1
 try simp only [pG,Act.put]
 refine seq_call (o := ⟨some 9, .call { callee := .value (.func 96), args := #[.tmp 8, .const (.int .i64 1099511627776)], argTypes := #[131, 3] }, 3, "reader.go:71", #[⟨2, .data⟩, ⟨1, .chain⟩], none⟩) (by kernel_rfl) (fun K hK => ?_)
 rw [if_pos (by kernel_rfl)]
 go_simp
 go_wp2_with (go_at_call 96; refine (numR_ok (z := 1099511627776) (show Hid (Rdr w2 g B a n c l q1) from S2.out.1) (by omega) (show Hid (Sent w2 M E) from S2.out.2.1) hM hr2).mono ?_; rintro e w3 ⟨rfl, H3⟩)
 have S3 : Hid (Rdr w3 g B a n c l q2 /\ Sent w3 M E /\ Wfr w w3 g none) := ⟨H3.out.1, sent_rdr S2.out.2.1 S2.out.1 H3.out.1 H3.out.2, S2.out.2.2.none_trans H3.out.2⟩
 have kb3 : Hid (w3.heap[gb]? = some (.cells #[.pointer (some ⟨g, 0, none⟩)] 131 (0, 0)) /\ w3.heap[gz]? = some (.cells #[.int .i64 0,.int .i64 0,.int .i64 0] 23 (0, 0))) := ⟨box_wfr kb2.out.1 ne.out.1 H3.out.2, box_wfr kb2.out.2 ne.out.2 H3.out.2⟩
 refine hK.out _ _ (by simp [World.cell?, kb3.out.1]) ?_
 clear hK K H3 kb2 S2
 try simp only [pG,Act.put]
 refine seq_call (o := ⟨some 11, .call { callee := .value (.func 96), args := #[.tmp 10, .const (.int .i64 1099511627776)], argTypes := #[131, 3] }, 3, "reader.go:71", #[⟨4, .data⟩, ⟨3, .chain⟩], none⟩) (by kernel_rfl) (fun K hK => ?_)
 rw [if_pos (by kernel_rfl)]
 go_simp
 go_wp2_with (go_at_call 96; refine (numR_ok (z := 1099511627776) (show Hid (Rdr w3 g B a n c l q2) from S3.out.1) (by omega) (show Hid (Sent w3 M E) from S3.out.2.1) hM hr3).mono ?_; rintro e w4 ⟨rfl, H4⟩)
 have S4 : Hid (Rdr w4 g B a n c l q3 /\ Sent w4 M E /\ Wfr w w4 g none) := ⟨H4.out.1, sent_rdr S3.out.2.1 S3.out.1 H4.out.1 H4.out.2, S3.out.2.2.none_trans H4.out.2⟩
 have kb4 : Hid (w4.heap[gb]? = some (.cells #[.pointer (some ⟨g, 0, none⟩)] 131 (0, 0)) /\ w4.heap[gz]? = some (.cells #[.int .i64 0,.int .i64 0,.int .i64 0] 23 (0, 0))) := ⟨box_wfr kb3.out.1 ne.out.1 H4.out.2, box_wfr kb3.out.2 ne.out.2 H4.out.2⟩
 refine hK.out _ _ (by simp [World.cell?, kb4.out.1]) ?_
 clear hK K H4 kb3 S3
 try simp only [pG,Act.put]
 refine stk (o := ⟨some 3, .assign (.tmp 7), 3, "reader.go:71", #[⟨1, .data⟩, ⟨5, .chain⟩, ⟨0, .phase⟩, ⟨1, .phase⟩, { on := 2, ground := .textOnly Go.Departure.lateStores }, { on := 3, ground := .textOnly Go.Departure.lateStoresUnsure }, { on := 4, ground := .textOnly Go.Departure.lateStores }, { on := 5, ground := .textOnly Go.Departure.lateStoresUnsure }], none⟩) (v := .int .i64 (X1 : Int)) ?_
 simp only [pG,Act.put]
 refine stk (o := ⟨some 4, .assign (.tmp 9), 3, "reader.go:71", #[⟨3, .data⟩, ⟨6, .chain⟩, ⟨0, .phase⟩, ⟨1, .phase⟩, ⟨2, .phase⟩, ⟨3, .phase⟩, { on := 4, ground := .textOnly Go.Departure.lateStores }, { on := 5, ground := .textOnly Go.Departure.lateStoresUnsure }, ⟨6, .phase⟩], none⟩) (v := .int .i64 (X2 : Int)) ?_
 simp only [pG,Act.put]
 refine stk (o := ⟨some 5, .assign (.tmp 11), 3, "reader.go:71", #[⟨5, .data⟩, ⟨7, .chain⟩, ⟨0, .phase⟩, ⟨1, .phase⟩, ⟨2, .phase⟩, ⟨3, .phase⟩, ⟨4, .phase⟩, ⟨5, .phase⟩, ⟨6, .phase⟩, ⟨7, .phase⟩], none⟩) (v := .int .i64 (X3 : Int)) ?_
 simp only [pG,Act.put]
 show (Exit.then _ _) .normal _ _
 have z0 : w4.cell? ⟨gz, 0, none⟩ = some (.int .i64 0) := by simp [World.cell?, kb4.out.2]
 have z1 : w4.cell? ⟨gz, 1, none⟩ = some (.int .i64 0) := by simp [World.cell?, kb4.out.2]
 have z2 : w4.cell? ⟨gz, 2, none⟩ = some (.int .i64 0) := by simp [World.cell?, kb4.out.2]
 have f0 := fz kb4.out.2 0
 have f1 := fz kb4.out.2 1
 have f2 := fz kb4.out.2 2
 have FIN : Hid (Rdr (((w4.setCell ⟨gz, 0, none⟩ (.int .i64 (X1 : Int))).setCell ⟨gz, 1, none⟩ (.int .i64 (X2 : Int))).setCell ⟨gz, 2, none⟩ (.int .i64 (X3 : Int))) g B a n c l q3 /\ Wfr w (((w4.setCell ⟨gz, 0, none⟩ (.int .i64 (X1 : Int))).setCell ⟨gz, 1, none⟩ (.int .i64 (X2 : Int))).setCell ⟨gz, 2, none⟩ (.int .i64 (X3 : Int))) g none) := by
  have ha : blkOf a ≠ some gz := fun h => by
   have h1 := (hR.out.own.ge gz h).2
   have h2 := Hgz.out
   omega
  have hz : w.heap.size <= gz := by have := Hgz.out; omega
  exact ⟨rdr_set (rdr_set (rdr_set S4.out.1 ne.out.2 ha _ _) ne.out.2 ha _ _) ne.out.2 ha _ _, wfr_set (wfr_set (wfr_set S4.out.2.2 hz _ _) hz _ _) hz _ _⟩
 have RW : Hid ((((w4.setCell ⟨gz, 0, none⟩ (.int .i64 (X1 : Int))).setCell ⟨gz, 1, none⟩ (.int .i64 (X2 : Int))).setCell ⟨gz, 2, none⟩ (.int .i64 (X3 : Int))).heap[gz]? = some (.cells #[.int .i64 (X1 : Int),.int .i64 (X2 : Int),.int .i64 (X3 : Int)] 23 (0, 0))) := by
  have h := set_blk (set_blk (set_blk kb4.out.2 0 (.int .i64 (X1 : Int))) 1 (.int .i64 (X2 : Int))) 2 (.int .i64 (X3 : Int))
  show _ = _
  simpa using h
 go_wp2
 refine bodyPost_ret (results_cell_row (p := 2) (ty := 23) (by rfl) _ _ gz 23 _ (0, 0) _ (by rfl) RW.out Tryd.underlying23 rfl (by kernel_rfl)) rfl ?_
 exact ⟨rfl, FIN.out⟩
theorem end_bad {w : World} {g B : Nat} {M : Nat -> Prop} {E : Nat -> Addr} {a : Option Addr} {n c : Nat} {l : List Nat} {p : Nat} (hR : Hid (Rdr w g B a n c l p)) (hE : Hid (Sent w M E)) (hM : M 1) (hp : Hid (p < n)) :
  Calls Tryd.prog 51 #[.pointer (some ⟨g, 0, none⟩)] w fun e w' => e = .returned (er (E 1)) /\ Hid (∃ j, w' = w.drewN j) := by
 obtain ⟨d, Hd⟩ := nm (n - p)
 have i1 : (0 : Int) < (d : Int) := by have h1 := Hd.out; have h2 := hp.out; omega
 go_enter Tryd.func51, Tryd.ntmps51
 go_upto_region 2 with (first
  | (go_at_call 68; refine (lft_n hR).mono ?_; rintro e w1 ⟨rfl, H1⟩; rw [Hd.out]))
 have ce : w1.cell? ⟨1, 0, none⟩ = some (er (E 1)) := by obtain ⟨j, hj⟩ := H1.out; rw [hj, cell_drewN]; exact hE.out.c 1 hM
 go_wp2
 go_ret
 exact ⟨rfl, H1.out⟩
theorem ta_er (x : Addr) (w : World) : Sem.run Tryd.prog (Instr.typeAssert (er x) 20 33 true) w = .ok (.tuple #[er x,.bool true]) w := by
 first
  | kernel_rfl
  | rfl
theorem ta_nil (w : World) : Sem.run Tryd.prog (Instr.typeAssert .nilIface 20 33 true) w = .ok (.tuple #[.nilIface,.bool false]) w := by
 first
  | kernel_rfl
  | rfl
theorem ctch_bad (p x : Addr) (v0 : Value) (older : List PanicEntry) (w : World) (hc : w.cell? p = some v0) (hz : w.frozen? p = false) :
  CallsD Tryd.prog 101 #[.pointer (some p)] (.panicking ({ v := er x, recovered := false } :: older)) w fun e u' w' =>
   e = .returned (.tuple #[]) /\ u' = .panicking ({ v := er x, recovered := true } :: older) /\ w' = w.setCell p (er x) := by
 refine callsD_of_wpS Tryd.func101 rfl fun c₀ cs hu => ?_
 apply wpS_seq
 apply wpS_region
 simp [wpOpsS, go_sem, recoverD, hu, Tryd.ntmps101, Exit.thenS, ta_er]
 apply wpS_seq
 apply wpS_region
 simp [wpOpsS, go_sem, Exit.thenS]
 refine wpS_cond (t := true) (by simp [Act.eval, Array.replicate]) ?_
 simp only [if_true]
 apply wpS_region
 simp [wpOpsS, go_sem, hc, hz, bodyPostS, results, Tryd.results101, Array.replicate]
theorem ctch_idle (p : Addr) (w : World) :
  CallsD Tryd.prog 101 #[.pointer (some p)] .returning w fun e u' w' => e = .returned (.tuple #[]) /\ u' = .returning /\ w' = w := by
 refine callsD_of_wpS Tryd.func101 rfl fun c₀ cs hu => ?_
 apply wpS_seq
 apply wpS_region
 simp [wpOpsS, go_sem, recoverD, hu, Tryd.ntmps101, Exit.thenS, ta_nil]
 apply wpS_seq
 apply wpS_region
 simp [wpOpsS, go_sem, Exit.thenS]
 refine wpS_cond (t := false) (by simp [Act.eval, Array.replicate]) ?_
 simp only [Bool.false_eq_true, if_false]
 refine wpS_of_wp (wp_skip ?_)
 cases c₀
 simp_all [bodyPostS, results, Tryd.results101]
end Go.Proofs.YtppibcambhmomaaDoor
