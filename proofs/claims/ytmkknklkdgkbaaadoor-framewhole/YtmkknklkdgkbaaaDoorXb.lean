/- The document's own Open; the program's Open where there are too few bytes, and where the sum is right. -/
import Derived.Test.YtmkknklkdgkbaaaDoorXa
namespace Go.Proofs.YtmkknklkdgkbaaaDoor
open Go.ChangeShapes Go.WideShapes Go.ChangeAt Go.RowKit
set_option maxRecDepth 20000
set_option linter.unusedVariables false
set_option linter.unusedSimpArgs false
set_option maxHeartbeats 1000000 in
theorem refopen_few {w : World} {a : Option Addr} {n c : Nat} (hn : n < 4) :
    Calls Tryd.prog 39 #[.slice a n c] w fun e w' => e = .returned (.tuple #[.slice none 0 0, .int .i64 5]) ∧ w' = w := by
  have i1 : (n : Int) < 4 := by omega
  go_enter Tryd.func39, Tryd.ntmps39
  go_wp2
  go_ret2
  exact ⟨rfl, rfl⟩
set_option maxHeartbeats 1000000 in
theorem refopen_bad {w : World} {a : Option Addr} {n c : Nat} {l : List Nat} (h : Hid (Sln w a n l)) (hc : Hid (a = none → c = 0)) (hnc : n ≤ c) (hn : 4 ≤ n) (hm : n ≤ 140737488352256) (hbad : Hid (sealL (l.take (n - 4)) ≠ l)) :
    Calls Tryd.prog 39 #[.slice a n c] w fun e w' => e = .returned (.tuple #[.slice none 0 0, .int .i64 6]) ∧ Hid (Below w.heap.size w w') := by
  obtain ⟨q, hq⟩ : ∃ q, n = q + 4 := ⟨n - 4, by omega⟩
  subst hq
  have eq4 : q + 4 - 4 = q := by omega
  have S1 : Hid (Sln w.drew a q (l.take q)) := (h.out.take (by omega)).drew
  have Z1 : Hid (a = none → q = 0) := fun e => by have := hc.out e; omega
  have NE : Hid (sealL (l.take q) ≠ l) := by have := hbad.out; rw [eq4] at this; exact this
  have C0 := conv_n (k := c) (show Hid (Sln w.drew a (q + 4) l) from h.out.drew)
  have BW : Hid (Below w.heap.size w w.drew) := below_drewN (Below.refl _ _) 1
  clear hbad
  go_enter Tryd.func39, Tryd.ntmps39
  go_upto_region 4 with (fail)
  go_region_held (fun w' => (convert 26 9 (.slice a (q + 4) c)).run Tryd.prog w' = .ok (.string (spell l)) w') (exact C0) (first
    | (go_at_call 31; refine (refseal_n S1 Z1 (by omega)).mono ?_; rintro e w1 ⟨a1, N, c1, rfl, H1⟩
       have B1 : Hid (Below w.heap.size w w1) := BW.out.trans H1.out.2.2
       have T1 : Hid (Sln w1 a1 N (sealL (l.take q))) := H1.out.2.1.sln (by rw [H1.out.1]; omega)
       have C0 := conv_n (k := c) (show Hid (Sln w1 a (q + 4) l) from h.out.below B1.out)
       have C1 := conv_n (k := c1) T1
       have SB : ((spell (sealL (l.take q))).toList == (spell l).toList) = false := by rw [spell_beq T1.out.lt h.out.lt]; simpa using NE.out))
  all_goals
    go_wp2
    go_ret2
    exact ⟨rfl, B1.out⟩
set_option maxHeartbeats 1000000 in
theorem refopen_ok {w : World} {a : Option Addr} {n c : Nat} {l : List Nat} (h : Hid (Sln w a n l)) (hc : Hid (a = none → c = 0)) (hnc : n ≤ c) (hn : 4 ≤ n) (hm : n ≤ 140737488352256) (hok : Hid (sealL (l.take (n - 4)) = l)) :
    Calls Tryd.prog 39 #[.slice a n c] w fun e w' => ∃ a' N c', e = .returned (.tuple #[.slice a' N c', .int .i64 0]) ∧ Hid (N = n - 4 ∧ Own w' w.heap.size a' N c' (l.take (n - 4)) ∧ Below w.heap.size w w') := by
  obtain ⟨q, hq⟩ : ∃ q, n = q + 4 := ⟨n - 4, by omega⟩
  subst hq
  have eq4 : q + 4 - 4 = q := by omega
  have S0 : Hid (Sln w a q (l.take q)) := h.out.take (by omega)
  have S1 : Hid (Sln w.drew a q (l.take q)) := S0.out.drew
  have Z1 : Hid (a = none → q = 0) := fun e => by have := hc.out e; omega
  have NE : Hid (sealL (l.take q) = l) := by have := hok.out; rw [eq4] at this; exact this
  have C0 := conv_n (k := c) (show Hid (Sln w.drew a (q + 4) l) from h.out.drew)
  have BW : Hid (Below w.heap.size w w.drew) := below_drewN (Below.refl _ _) 1
  clear hok
  rw [eq4]
  go_enter Tryd.func39, Tryd.ntmps39
  go_upto_region 4 with (fail)
  go_region_held (fun w' => (convert 26 9 (.slice a (q + 4) c)).run Tryd.prog w' = .ok (.string (spell l)) w') (exact C0) (first
    | (go_at_call 31; refine (refseal_n S1 Z1 (by omega)).mono ?_; rintro e w1 ⟨a1, N, c1, rfl, H1⟩
       have B1 : Hid (Below w.heap.size w w1) := BW.out.trans H1.out.2.2
       have T1 : Hid (Sln w1 a1 N (sealL (l.take q))) := H1.out.2.1.sln (by rw [H1.out.1]; omega)
       have C0 := conv_n (k := c) (show Hid (Sln w1 a (q + 4) l) from h.out.below B1.out)
       have C1 := conv_n (k := c1) T1
       rw [NE.out] at C1))
  all_goals
    have b1 : Below w.heap.size w (w1.alloc (.cells #[] 5)) := B1.out.alloc B1.out.size _
    obtain ⟨a2, c2, w2, hrun, own2, gr2, new2⟩ := app_any (c2 := c) (own_empty w1) (S0.out.below b1) hc.out (by omega) (by simp)
    rw [Nat.zero_add] at hrun own2
    rw [List.nil_append] at own2
    have AP : Hid ((Builtin.append_ #[26, 26] 26 #[.slice (some ⟨w1.heap.size, 0, none⟩) 0 0, .slice a q c]).run Tryd.prog (w1.alloc (.cells #[] 5)) = .ok (.slice a2 q c2) w2) := hrun
    have FIN : Hid (Own w2 w.heap.size a2 q c2 (l.take q) ∧ Below w.heap.size w w2) := ⟨own2.base B1.out.size, b1.grown gr2 b1.size (fun k e => by simp [blkOf] at e; have := B1.out.size; omega)⟩
    clear hrun own2 gr2 new2 b1 H1
    go_wp2_with (at_builtin; refine wpList_app (by rfl) (.tmp 20) (.tmp 23) (by rfl) (by rfl) (by rfl) (by rfl) AP ?_)
    go_ret2
    exact ⟨a2, q, c2, rfl, rfl, FIN.out⟩
set_option maxHeartbeats 1000000 in
theorem open_few {w : World} {a : Option Addr} {n c M : Nat} {E : Nat → Addr} (hn : n < 4) (hE : Hid (Sent w M E)) (hM : 4 ≤ M) :
    Calls Tryd.prog 57 #[.slice a n c] w fun e w' => e = .returned (.tuple #[.slice none 0 0, .iface 130 (.pointer (some (E 3)))]) ∧ Hid (Below w.heap.size w w') := by
  have i1 : (n : Int) < 4 := by omega
  have ce := hE.out.c 3 (by omega)
  unfold er at ce
  have FIN : Hid (∀ j, Below w.heap.size w (w.drewN j)) := fun j => below_drewN (Below.refl _ _) j
  go_enter Tryd.func57, Tryd.ntmps57
  go_wp2
  go_quiet (fail)
  go_wp2
  go_ret2
  exact ⟨rfl, FIN.out _⟩
set_option maxHeartbeats 1000000 in
theorem open_ok {w : World} {a : Option Addr} {n c : Nat} {l : List Nat} (h : Hid (Sln w a n l)) (hc : Hid (a = none → c = 0)) (hnc : n ≤ c) (hn : 4 ≤ n) (hok : Hid (sealL (l.take (n - 4)) = l)) :
    Calls Tryd.prog 57 #[.slice a n c] w fun e w' => ∃ a' N c', e = .returned (.tuple #[.slice a' N c', .nilIface]) ∧ Hid (N = n - 4 ∧ Own w' w.heap.size a' N c' (l.take (n - 4)) ∧ Below w.heap.size w w') := by
  have m := h.out.sli.2.1
  have e := h.out.len
  rw [← e] at m
  obtain ⟨q, hq⟩ : ∃ q, n = q + 4 := ⟨n - 4, by omega⟩
  subst hq
  have eq4 : q + 4 - 4 = q := by omega
  have S1 : Hid (Sln w a q (l.take q)) := h.out.take (by omega)
  have NE : Hid (decide (sealL (l.take q) = l) = true) := by have := hok.out; rw [eq4] at this; show decide _ = true; simpa using this
  clear e hok
  rw [eq4]
  go_enter Tryd.func57, Tryd.ntmps57
  go_wp2_with (first
    | (go_at_call 49; refine (seal_n S1 hc).mono ?_; rintro e w1 ⟨g, N, rfl, H1⟩
       have L1 : Hid ((sealL (l.take q)).length ≤ 140737488352256) := by have := S1.out.len; rw [Hid, seal_len, ← this]; omega
       have T1 : Hid (Sln w1 (some ⟨g, 0, none⟩) N (sealL (l.take q))) := by
         have := H1.out.2.2.1.sln (seal_bytes S1.out.lt) L1.out
         rw [seal_len, ← S1.out.len, ← H1.out.1] at this
         exact this
       have T2 : Hid (Sln w1 a (q + 4) l) := h.out.below H1.out.2.2.2
       have T3 : Hid (Sln w1 a q (l.take q)) := S1.out.below H1.out.2.2.2
       have B1 : Hid (Below w.heap.size w w1) := H1.out.2.2.2)
    | (go_at_call 68; refine (equal_n T1 T2).mono ?_; rintro e w9 ⟨rfl, h9⟩; rw [h9, NE.out]; clear h9)
    | (go_at_call 41; refine (clone_n T3 hc).mono ?_; rintro e w2 ⟨a2, c2, rfl, H2⟩))
  go_ret2
  exact ⟨a2, q, c2, rfl, rfl, H2.out.1.base B1.out.size, B1.out.trans (H2.out.2.mono B1.out.size)⟩
end Go.Proofs.YtmkknklkdgkbaaaDoor
