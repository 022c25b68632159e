/- Put of package frame, and the laws' alive. -/
import Derived.Test.YtmkknklkdgkbaaaDoorGe
import Derived.Test.YtmkknklkdgkbaaaDoorSn
import Derived.Lib.SlBytesConst
namespace Go.Proofs.YtmkknklkdgkbaaaDoor
open Go.ChangeShapes Go.WideShapes Go.ChangeAt Go.RowKit
set_option maxRecDepth 20000
set_option linter.unusedVariables false
set_option linter.unusedSimpArgs false
abbrev stv (a b c d e : Int) : Value := .agg #[.int .i64 a, .int .i64 b, .int .i64 c, .int .i64 d, .int .i64 e]
/- a frame -/
def frameL (ns l : List Nat) : List Nat := headL ns ++ bodyL l
set_option maxHeartbeats 1000000 in
theorem put_form {w : World} {E : Nat → Addr} {M : Nat} (a b c d e : Int) (v : Value) (hM : Hid (Mst w)) (hE : Hid (Sent w M E)) (h1 : 1 ≤ M) (hbad : okN [1, a, b, c, d, e, 0] = false) :
    Calls Tryd.prog 11 #[.agg #[.int .i64 a, .int .i64 b, .int .i64 c, .int .i64 d, .int .i64 e], v] w fun en w' => en = .returned (.tuple #[.slice none 0 0, .iface 130 (.pointer (some (E 0)))]) ∧ Hid (Below w.heap.size w w') := by
  obtain ⟨W0, HW0⟩ : ∃ W0, Hid (w.alloc (.cells #[.int .i64 a, .int .i64 b, .int .i64 c, .int .i64 d, .int .i64 e] 25) = W0) := ⟨_, rfl⟩
  have b0 : Hid (Below w.heap.size w W0) := by rw [← HW0.out]; exact (Below.refl _ w).alloc (Nat.le_refl _) _
  have M0 : Hid (Mst W0) := hM.out.below b0.out hM.out.lt
  go_enter Tryd.func11, Tryd.ntmps11
  go_wp2_with (go_at_call 25; rw [HW0.out]; refine (inForm_n a b c d e _ M0).mono ?_; rintro en w1 ⟨rfl, H1⟩; rw [hbad])
  have B1 : Hid (Below w.heap.size w w1) := b0.out.trans (H1.out.mono b0.out.size)
  have ce := (hE.out.below B1.out).c 0 (by omega)
  unfold er at ce
  go_wp2
  go_quiet (fail)
  go_wp2
  go_ret2
  exact ⟨rfl, below_drewN B1.out _⟩
set_option maxHeartbeats 1000000 in
theorem put_large {w : World} {E : Nat → Addr} {M : Nat} (a b c d e : Int) (sa : Option Addr) (n k : Nat) (hM : Hid (Mst w)) (hE : Hid (Sent w M E)) (h1 : 2 ≤ M) (hok : okN [1, a, b, c, d, e, 0] = true) (hn : 1024 < n) :
    Calls Tryd.prog 11 #[.agg #[.int .i64 a, .int .i64 b, .int .i64 c, .int .i64 d, .int .i64 e], .slice sa n k] w fun en w' => en = .returned (.tuple #[.slice none 0 0, .iface 130 (.pointer (some (E 1)))]) ∧ Hid (Below w.heap.size w w') := by
  obtain ⟨W0, HW0⟩ : ∃ W0, Hid (w.alloc (.cells #[.int .i64 a, .int .i64 b, .int .i64 c, .int .i64 d, .int .i64 e] 25) = W0) := ⟨_, rfl⟩
  have b0 : Hid (Below w.heap.size w W0) := by rw [← HW0.out]; exact (Below.refl _ w).alloc (Nat.le_refl _) _
  have M0 : Hid (Mst W0) := hM.out.below b0.out hM.out.lt
  have i1 : (1024 : Int) < (n : Int) := by omega
  go_enter Tryd.func11, Tryd.ntmps11
  go_wp2_with (go_at_call 25; rw [HW0.out]; refine (inForm_n a b c d e _ M0).mono ?_; rintro en w1 ⟨rfl, H1⟩; rw [hok])
  have B1 : Hid (Below w.heap.size w w1) := b0.out.trans (H1.out.mono b0.out.size)
  have ce := (hE.out.below B1.out).c 1 (by omega)
  unfold er at ce
  go_wp2
  go_quiet (fail)
  go_wp2
  go_ret2
  exact ⟨rfl, below_drewN B1.out _⟩
set_option maxHeartbeats 1000000 in
theorem put_ok {w : World} (a b c d e n k : Nat) (sa : Option Addr) (l : List Nat) (hM : Hid (Mst w)) (hK : Hid (Kst w)) (hS : Hid (Sln w sa n l)) (hc : Hid (sa = none → k = 0)) (hok : okN [1, (a : Int), b, c, d, e, 0] = true) (hn : n ≤ 1024) :
    Calls Tryd.prog 11 #[.agg #[.int .i64 (a : Int), .int .i64 (b : Int), .int .i64 (c : Int), .int .i64 (d : Int), .int .i64 (e : Int)], .slice sa n k] w fun en w' => ∃ af N cf, en = .returned (.tuple #[.slice af N cf, .nilIface]) ∧ Hid (Own w' w.heap.size af N cf (frameL [1, a, b, c, d, e, n] l) ∧ N ≤ 4000 ∧ Below w.heap.size w w') := by
  obtain ⟨W0, HW0⟩ : ∃ W0, Hid (w.alloc (.cells #[.int .i64 (a : Int), .int .i64 (b : Int), .int .i64 (c : Int), .int .i64 (d : Int), .int .i64 (e : Int)] 25) = W0) := ⟨_, rfl⟩
  have b0 : Hid (Below w.heap.size w W0) := by rw [← HW0.out]; exact (Below.refl _ w).alloc (Nat.le_refl _) _
  have M0 : Hid (Mst W0) := hM.out.below b0.out hM.out.lt
  have K0 : Hid (19 < w.heap.size) := kst_pos hK.out
  have i1 : ¬ ((1024 : Int) < (n : Int)) := by omega
  have ns7 : Hid (([1, a, b, c, d, e, n] : List Nat).length = 7) := rfl
  have nsb : Hid (∀ x ∈ [1, a, b, c, d, e, n], x < 9223372036854775808) := by
    unfold okN at hok
    simp only [List.all_eq_true, List.mem_range] at hok
    have o1 := hok 1 (by omega)
    have o2 := hok 2 (by omega)
    have o3 := hok 3 (by omega)
    have o4 := hok 4 (by omega)
    have o5 := hok 5 (by omega)
    simp [okAt, mostL] at o1 o2 o3 o4 o5
    intro x hx
    simp only [List.mem_cons, List.not_mem_nil, or_false] at hx
    omega
  have nse : Hid ([1, a, b, c, d, e, n] = [1, a, b, c, d, e, n]) := rfl
  obtain ⟨ns, HNS⟩ : ∃ ns, Hid ([1, a, b, c, d, e, n] = ns) := ⟨_, rfl⟩
  rw [HNS.out] at ns7 nsb ⊢
  go_enter Tryd.func11, Tryd.ntmps11
  go_wp2_with (first
    | (go_at_call 25; rw [HW0.out]; refine (inForm_n (a : Int) b c d e _ M0).mono ?_; rintro en w1 ⟨rfl, H1⟩; rw [hok]
       have B1 : Hid (Below w.heap.size w w1) := b0.out.trans (H1.out.mono b0.out.size)
       have c0 : W0.cell? ⟨w.heap.size, 0, none⟩ = some (.int .i64 (a : Int)) ∧ W0.cell? ⟨w.heap.size, 1, none⟩ = some (.int .i64 (b : Int)) ∧ W0.cell? ⟨w.heap.size, 2, none⟩ = some (.int .i64 (c : Int)) ∧ W0.cell? ⟨w.heap.size, 3, none⟩ = some (.int .i64 (d : Int)) ∧ W0.cell? ⟨w.heap.size, 4, none⟩ = some (.int .i64 (e : Int)) := by
         rw [← HW0.out]; simp [go_sem]
       obtain ⟨q0, q1, q2, q3, q4⟩ := c0
       have z0 : w.heap.size < W0.heap.size := by rw [← HW0.out]; simp
       have q0 := (H1.out.cell (p := ⟨w.heap.size, 0, none⟩) z0).trans q0
       have q1 := (H1.out.cell (p := ⟨w.heap.size, 1, none⟩) z0).trans q1
       have q2 := (H1.out.cell (p := ⟨w.heap.size, 2, none⟩) z0).trans q2
       have q3 := (H1.out.cell (p := ⟨w.heap.size, 3, none⟩) z0).trans q3
       have q4 := (H1.out.cell (p := ⟨w.heap.size, 4, none⟩) z0).trans q4
       clear z0)
    | (go_at_call 26; refine (headOf_n ns ns7 nsb a b c d e n HNS.symm _).mono ?_; rintro en w2 ⟨ah, Nh, ch, rfl, H2⟩
       have B2 : Hid (Below w.heap.size w w2) := B1.out.trans (H2.out.2.2.mono B1.out.size)
       have S2 : Hid (Sln w2 sa n l) := hS.out.below B2.out
       have K2 : Hid (Kst w2) := hK.out.below B2.out K0.out
       have N2 : Hid (19 < w2.heap.size) := Nat.lt_of_lt_of_le K0.out B2.out.size
       clear q0 q1 q2 q3 q4)
    | (go_at_call 27; refine (bodyOf_n S2 hc hn K2 N2).mono ?_; rintro en w3 ⟨gb, Nb, cb, rfl, H3⟩
       have B3 : Hid (Below w.heap.size w w3) := B2.out.trans (H3.out.2.2.mono B2.out.size)
       have hb4 : Nb ≤ 2100 := by have h1 := H3.out.2.1; unfold blks at h1; omega
       have hh4 : Nh ≤ 1000 := H2.out.2.1
       obtain ⟨af, cf, w4, hrun, own4, gr4, new4⟩ := app_any (c2 := cb) ((H2.out.1.below H3.out.2.2).base B1.out.size) (H3.out.1.sln (by omega)) (by simp) (by omega) B3.out.size
       have AP : Hid ((Builtin.append_ #[26, 26] 26 #[.slice ah Nh ch, .slice (some ⟨gb, 0, none⟩) Nb cb]).run Tryd.prog w3 = .ok (.slice af (Nh + Nb) cf) w4) := hrun
       have FIN : Hid (Own w4 w.heap.size af (Nh + Nb) cf (frameL ns l) ∧ Nh + Nb ≤ 4000 ∧ Below w.heap.size w w4) :=
         ⟨own4, by omega, B3.out.grown gr4 B3.out.size (fun j hj => Nat.le_trans B1.out.size (H2.out.1.ge j hj).1)⟩
       clear hrun own4 gr4 new4)
    | (at_builtin; refine wpList_app (by rfl) (.tmp 26) (.tmp 28) (by rfl) (by rfl) (by rfl) (by rfl) AP ?_))
  go_ret2
  exact ⟨af, Nh + Nb, cf, rfl, FIN.out⟩
def abL : List Nat := [97, 98]
theorem conv_ab (w : World) : (convert 26 26 (.slice (some ⟨w.heap.size, 0, none⟩) 2 2)).run Tryd.prog (w.alloc (.cells #[.int .u8 97, .int .u8 98] 5)) = .ok (.slice (some ⟨w.heap.size, 0, none⟩) 2 2) (w.alloc (.cells (abL.map bv).toArray 5 (2, 3))) := Lib.run_convert_bytes_const w 26 5 _ 2 2 Tryd.underlying26 Tryd.underlying5
theorem encs_al : encs [1, 1, 2, 3, 0, 4, 2] = [1, 1, 2, 3, 0, 4, 2] := by simp [encs, enc_lt]
theorem head_al : ∃ x y z u, headL [1, 1, 2, 3, 0, 4, 2] = [11, 1, 1, 2, 3, 0, 4, 2, x, y, z, u] := by
  unfold headL
  rw [encs_al]
  obtain ⟨s, hs⟩ : ∃ s, fsum [1, 1, 2, 3, 0, 4, 2] = s := ⟨_, rfl⟩
  unfold sealL be4
  rw [hs]
  refine ⟨s / 16777216 % 256, s / 65536 % 256, s / 256 % 256, s % 256, ?_⟩
  rw [show (([1, 1, 2, 3, 0, 4, 2] : List Nat) ++ [s / 16777216 % 256, s / 65536 % 256, s / 256 % 256, s % 256]).length = 11 from rfl, enc_lt (by omega)]
  rfl
theorem body_al : ∃ d, bodyL abL = [97, 98] ++ d ∧ d.length = 32 := ⟨Gs.sum (pc abL 0), rfl, sum_len _⟩
theorem frame_al : (frameL [1, 1, 2, 3, 0, 4, 2] abL).length = 46 ∧ (frameL [1, 1, 2, 3, 0, 4, 2] abL).getD 0 0 = 11 ∧ (frameL [1, 1, 2, 3, 0, 4, 2] abL).getD 12 0 = 97 := by
  obtain ⟨x, y, z, u, h1⟩ := head_al
  obtain ⟨d, h2, h3⟩ := body_al
  unfold frameL
  rw [h1, h2]
  refine ⟨by simp [h3], rfl, rfl⟩
set_option maxHeartbeats 1000000 in
theorem alive_n {w : World} (hM : Hid (Mst w)) (hK : Hid (Kst w)) : Calls Tryd.prog 9 #[] w fun e w' => e = .returned (.bool true) ∧ Hid (Below w.heap.size w w') := by
  have C1 := conv_ab w
  have s0 := const_sln w abL (2, 3) (by decide) (by decide)
  obtain ⟨W1, HW1⟩ : ∃ W1, Hid (w.alloc (.cells (abL.map bv).toArray 5 (2, 3)) = W1) := ⟨_, rfl⟩
  have b1 : Hid (Below w.heap.size w W1) := by rw [← HW1.out]; exact (Below.refl _ w).alloc (Nat.le_refl _) _
  have S1 : Hid (Sln W1 (some ⟨w.heap.size, 0, none⟩) 2 abL) := by rw [← HW1.out]; exact s0
  have Z1 : Hid ((some (⟨w.heap.size, 0, none⟩ : Addr)) = none → 2 = 0) := fun h => by cases h
  have M1 : Hid (Mst W1) := hM.out.below b1.out hM.out.lt
  have K1 : Hid (Kst W1) := hK.out.below b1.out (kst_pos hK.out)
  have OK : okN [1, ((1 : Nat) : Int), (2 : Nat), (3 : Nat), (0 : Nat), (4 : Nat), 0] = true := by decide
  rw [HW1.out] at C1
  clear s0
  go_enter Tryd.func9, Tryd.ntmps9
  go_wp2_with (go_at_call 11; refine (put_ok 1 2 3 0 4 2 2 _ abL M1 K1 S1 Z1 OK (by omega)).mono ?_; rintro e w2 ⟨af, N, cf, rfl, H2⟩
               have e46 : N = 46 := by rw [H2.out.1.len]; exact frame_al.1
               subst e46
               obtain ⟨g, hg, _, q0, _⟩ := H2.out.1.cell (i := 0) (by omega)
               obtain ⟨g', hg', _, q12, _⟩ := H2.out.1.cell (i := 12) (by omega)
               rw [hg] at hg'
               cases hg'
               rw [frame_al.2.1] at q0
               rw [frame_al.2.2] at q12
               subst hg
               have F2 : Hid (Below w.heap.size w w2) := b1.out.trans (H2.out.2.2.mono b1.out.size))
  go_ret
  exact ⟨rfl, F2.out⟩
end Go.Proofs.YtmkknklkdgkbaaaDoor
