import Derived.Test.YtoegfckafnlknaaDoorMVa
import Derived.Deep.RegionHeld
/- Xa -/
/- The document's own Sum, Seal and Open; Open in all cases. -/
namespace Go.Proofs.YtoegfckafnlknaaDoor
set_option maxRecDepth 20000
open Go.ChangeShapes Go.WideShapes Go.ChangeAt Go.RowKit
set_option linter.unusedVariables false
set_option linter.unusedSimpArgs false
theorem u64_xor_nat (a b : Nat) (ha : a < 18446744073709551616) (hb : b < 18446744073709551616) : bits .xor .u64 (a : Int) (b : Int) = ((a ^^^ b : Nat) : Int) := by
  have h : a ^^^ b < 18446744073709551616 := Nat.xor_lt_two_pow (n := 64) ha hb
  show IntKind.u64.wrap ((BitVec.ofInt 64 (a : Int) ^^^ BitVec.ofInt 64 (b : Int)).toNat : Int) = _
  rw [BitVec.toNat_xor, BitVec.toNat_ofInt, BitVec.toNat_ofInt, IntKind.wrap_u64]
  have ea : ((a : Int) % ((2 ^ 64 : Nat) : Int)).toNat = a := by omega
  have eb : ((b : Int) % ((2 ^ 64 : Nat) : Int)).toNat = b := by omega
  rw [ea, eb]
  omega
set_option maxHeartbeats 1000000 in
theorem refsum_n {w : World} {a : Option Addr} {n c : Nat} {l : List Nat} (h : Hid (Sln w a n l)) :
    Calls Tryd.prog 81 #[.slice a n c] w fun e w' => e = .returned (.int .u32 ((fsum l : Nat) : Int)) ∧ w' = w := by
  have m := h.out.sli.2.1
  have e := h.out.len
  rw [← e] at m
  have hE : Hid (n = l.length) := e
  clear e
  have F0 : Hid (fnv 2166136261 (l.take 0) = 2166136261) := rfl
  go_enter Tryd.func81, Tryd.ntmps81
  go_wp2
  go_loop [3, 8] (fun ts ti => ∃ k s : Nat, k ≤ n ∧ s < 4294967296 ∧ Hid (fnv 2166136261 (l.take k) = s) ∧ ts = .int .u64 s ∧ ti = .int .i64 k) (fun _ ti => n - (intOf ti).toNat)
  case atStart => exact ⟨0, 2166136261, by omega, by omega, F0.out, rfl, rfl⟩
  case round =>
    obtain ⟨k, s, hk, hs, HS, rfl, rfl⟩ := hrel
    by_cases hlt : k < n
    · obtain ⟨b, off, rfl, c1⟩ := row_at h.out hlt
      obtain ⟨x, Hx⟩ : ∃ x, Hid (l.getD k 0 = x) := ⟨_, rfl⟩
      have hx : x < 256 := by rw [← Hx.out]; exact getD_lt h.out.lt k
      rw [Hx.out] at c1
      obtain ⟨y, Hy⟩ : ∃ y, Hid (s ^^^ x = y) := ⟨_, rfl⟩
      have hy : y < 4294967296 := by rw [← Hy.out]; exact Nat.xor_lt_two_pow (n := 32) hs (by omega)
      have e1 : bits .xor .u64 (s : Int) (x : Int) = (y : Int) := by rw [u64_xor_nat s x (by omega) (by omega), Hy.out]
      obtain ⟨z, Hz⟩ : ∃ z, Hid (y * 16777619 % 4294967296 = z) := ⟨_, rfl⟩
      have hz : z < 4294967296 := by rw [← Hz.out]; exact Nat.mod_lt _ (by omega)
      have e2 : Int.tmod ((y : Int) * 16777619) 4294967296 = (z : Int) := by rw [Int.tmod_eq_emod_of_nonneg (by omega)]; have := Hz.out; omega
      have e3 : (y : Int) * 16777619 % 4294967296 = (z : Int) := by have := Hz.out; omega
      have F1 : Hid (fnv 2166136261 (l.take (k + 1)) = z) := by
        rw [take_succ_getD (by rw [← hE.out]; exact hlt), fnv_snoc, HS.out, Hx.out, stp, Hy.out]
        exact Hz.out
      clear hE HS Hx Hy Hz
      go_wp2
      go_round
      case rel => exact ⟨k + 1, z, by omega, hz, F1.out, by go_num, by go_num⟩
      case measure => simp [intOf]; omega
    · have ek : k = n := by omega
      have F1 : Hid (fsum l = s) := by
        rw [← HS.out, ek, hE.out, List.take_length]; rfl
      clear hE HS
      go_wp2
      go_ret
      exact ⟨by rw [F1.out]; rfl, rfl⟩
theorem own_empty (w : World) : Own (w.alloc (.cells #[] 5)) w.heap.size (some ⟨w.heap.size, 0, none⟩) 0 0 [] := ⟨rfl, World.ownsRow_made w #[] 0 (Nat.le_refl _) (by unfold maxLen; omega) (by simp), by simp⟩
set_option maxHeartbeats 1000000 in
theorem refseal_n {a : Option Addr} {n k : Nat} {l : List Nat} {w : World} (h : Hid (Sln w a n l)) (hk : Hid (a = none → k = 0)) (hn : n + 4 ≤ 140737488352256) :
    Calls Tryd.prog 50 #[.slice a n k] w fun e w' => ∃ a' N c', e = .returned (.slice a' N c') ∧ Hid (N = n + 4 ∧ Own w' w.heap.size a' N c' (sealL l) ∧ Below w.heap.size w w') := by
  have e := h.out.len
  have b1 : Below w.heap.size w (w.alloc (.cells #[] 5)) := (Below.refl _ _).alloc (Nat.le_refl _) _
  obtain ⟨a2, c2, w2, hrun, own2, gr2, new2⟩ := app_any (c2 := k) (own_empty w) (h.out.below b1) hk.out (by omega) (by simp)
  rw [Nat.zero_add] at hrun own2
  rw [List.nil_append] at own2
  have b2 : Below w.heap.size w w2 := b1.grown gr2 (by simp) (fun k e => by simp [blkOf] at e; omega)
  obtain ⟨s, Hs⟩ : ∃ s, Hid (fsum l = s) := ⟨_, rfl⟩
  have hs : s < 4294967296 := by rw [← Hs.out]; exact fsum_lt l
  obtain ⟨b3, H3⟩ : ∃ b3, b3 = s / 16777216 := ⟨_, rfl⟩
  obtain ⟨q2, H2⟩ : ∃ q2, q2 = s / 65536 := ⟨_, rfl⟩
  obtain ⟨b2', H2'⟩ : ∃ b2, b2 = q2 % 256 := ⟨_, rfl⟩
  obtain ⟨q1, H1⟩ : ∃ q1, q1 = s / 256 := ⟨_, rfl⟩
  obtain ⟨b1', H1'⟩ : ∃ b1, b1 = q1 % 256 := ⟨_, rfl⟩
  obtain ⟨b0, H0⟩ : ∃ b0, b0 = s % 256 := ⟨_, rfl⟩
  have e3 : (s : Int) / 16777216 = (b3 : Int) := by omega
  have e2 : (s : Int) / 65536 = (q2 : Int) := by omega
  have e2' : (q2 : Int) % 256 = (b2' : Int) := by omega
  have e1 : (s : Int) / 256 = (q1 : Int) := by omega
  have e1' : (q1 : Int) % 256 = (b1' : Int) := by omega
  have e0 : (s : Int) % 256 = (b0 : Int) := by omega
  have x3 : b3 < 256 := by omega
  have x2 : b2' < 256 := by omega
  have x1 : b1' < 256 := by omega
  have x0 : b0 < 256 := by omega
  have y2 : q2 < 65536 := by omega
  have y1 : q1 < 16777216 := by omega
  have EQ : Hid (be4 s = [b3, b2', b1', b0]) := by
    show be4 s = _
    unfold be4
    rw [H2', H1', H3, H2, H1, H0, Nat.mod_eq_of_lt (a := s / 16777216) (by omega)]
  have b3w : Below w.heap.size w (w2.alloc (four b3 b2' b1' b0)) := b2.alloc b2.size _
  have bm : Blk (w2.alloc (four b3 b2' b1' b0)) w2.heap.size [b3, b2', b1', b0] := by
    show (w2.heap.push _)[w2.heap.size]? = _
    simp [bv]
  have sm := bm.sln (by simp; omega) (by simp)
  have own3 : Own (w2.alloc (four b3 b2' b1' b0)) w.heap.size a2 n c2 l := ⟨own2.len, own2.own.alloc _, own2.lt⟩
  obtain ⟨a4, c4, w4, hrun4, own4, gr4, new4⟩ := app_any (c2 := 4) own3 sm (by simp) (by simp; omega) b3w.size
  simp only [List.length_cons, List.length_nil, Nat.zero_add, Nat.reduceAdd] at hrun4 own4
  have AP1 : Hid ((Builtin.append_ #[35, 35] 35 #[.slice (some ⟨w.heap.size, 0, none⟩) 0 0, .slice a n k]).run Tryd.prog (w.alloc (.cells #[] 5)) = .ok (.slice a2 n c2) w2) := hrun
  have AP2 : Hid ((Builtin.append_ #[35, 35] 35 #[.slice a2 n c2, .slice (some ⟨w2.heap.size, 0, none⟩) 4 4]).run Tryd.prog (w2.alloc (four b3 b2' b1' b0)) = .ok (.slice a4 (n + 4) c4) w4) := hrun4
  have FIN : Hid (Own w4 w.heap.size a4 (n + 4) c4 (sealL l) ∧ Below w.heap.size w w4) := by
    refine ⟨?_, b3w.grown gr4 b3w.size (fun j hj => (own3.ge j hj).1)⟩
    rw [sealL, Hs.out, EQ.out]
    exact own4
  clear hrun own2 gr2 new2 b1 b2 e H3 H2 H2' H1 H1' H0 b3w bm sm own3 hrun4 own4 gr4 new4 EQ
  go_enter Tryd.func50, Tryd.ntmps50
  go_wp2_with (first
    | (at_builtin; refine wpList_app (by rfl) (.tmp 6) (.tmp 7) (by rfl) (by rfl) (by rfl) (by rfl) AP1 ?_)
    | (at_builtin; refine wpList_app (by rfl) (.tmp 8) (.tmp 20) (by rfl) (by rfl) (by rfl) (by rfl) AP2 ?_)
    | (go_at_call 81; refine (refsum_n h).mono ?_; rintro e w9 ⟨rfl, h9⟩; rw [h9, Hs.out]; clear h9))
  go_ret
  exact ⟨a4, n + 4, c4, rfl, rfl, FIN.out⟩
end Go.Proofs.YtoegfckafnlknaaDoor

/- Xb -/
/- The document's own Open; the program's Open where there are too few bytes, and where the sum is right. -/
namespace Go.Proofs.YtoegfckafnlknaaDoor
set_option maxRecDepth 20000
open Go.ChangeShapes Go.WideShapes Go.ChangeAt Go.RowKit
set_option linter.unusedVariables false
set_option linter.unusedSimpArgs false
set_option maxHeartbeats 1000000 in
theorem refopen_few {w : World} {a : Option Addr} {n c : Nat} (hn : n < 4) :
    Calls Tryd.prog 54 #[.slice a n c] w fun e w' => e = .returned (.tuple #[.slice none 0 0, .int .i64 5]) ∧ w' = w := by
  have i1 : (n : Int) < 4 := by omega
  go_enter Tryd.func54, Tryd.ntmps54
  go_wp2
  go_ret2
  exact ⟨rfl, rfl⟩
set_option maxHeartbeats 1000000 in
theorem refopen_bad {w : World} {a : Option Addr} {n c : Nat} {l : List Nat} (h : Hid (Sln w a n l)) (hc : Hid (a = none → c = 0)) (hnc : n ≤ c) (hn : 4 ≤ n) (hm : n ≤ 140737488352256) (hbad : Hid (sealL (l.take (n - 4)) ≠ l)) :
    Calls Tryd.prog 54 #[.slice a n c] w fun e w' => e = .returned (.tuple #[.slice none 0 0, .int .i64 6]) ∧ Hid (Below w.heap.size w w') := by
  obtain ⟨q, hq⟩ : ∃ q, n = q + 4 := ⟨n - 4, by omega⟩
  subst hq
  have eq4 : q + 4 - 4 = q := by omega
  have S1 : Hid (Sln w.drew a q (l.take q)) := (h.out.take (by omega)).drew
  have Z1 : Hid (a = none → q = 0) := fun e => by have := hc.out e; omega
  have NE : Hid (sealL (l.take q) ≠ l) := by have := hbad.out; rw [eq4] at this; exact this
  have C0 := conv_n (k := c) (show Hid (Sln w.drew a (q + 4) l) from h.out.drew)
  have BW : Hid (Below w.heap.size w w.drew) := below_drewN (Below.refl _ _) 1
  clear hbad
  go_enter Tryd.func54, Tryd.ntmps54
  go_upto_region 4 with (fail)
  go_region_held (fun w' => (convert 35 9 (.slice a (q + 4) c)).run Tryd.prog w' = .ok (.string (spell l)) w') (exact C0) (first
    | (go_at_call 50; refine (refseal_n S1 Z1 (by omega)).mono ?_; rintro e w1 ⟨a1, N, c1, rfl, H1⟩
       have B1 : Hid (Below w.heap.size w w1) := BW.out.trans H1.out.2.2
       have T1 : Hid (Sln w1 a1 N (sealL (l.take q))) := H1.out.2.1.sln (by rw [H1.out.1]; omega)
       have C0 := conv_n (k := c) (show Hid (Sln w1 a (q + 4) l) from h.out.below B1.out)
       have C1 := conv_n (k := c1) T1
       have SB : ((spell (sealL (l.take q))).toList == (spell l).toList) = false := by rw [spell_beq T1.out.lt h.out.lt]; simpa using NE.out))
  all_goals
    go_wp2
    go_ret2
    exact ⟨rfl, B1.out⟩
set_option maxHeartbeats 1000000 in
theorem refopen_ok {w : World} {a : Option Addr} {n c : Nat} {l : List Nat} (h : Hid (Sln w a n l)) (hc : Hid (a = none → c = 0)) (hnc : n ≤ c) (hn : 4 ≤ n) (hm : n ≤ 140737488352256) (hok : Hid (sealL (l.take (n - 4)) = l)) :
    Calls Tryd.prog 54 #[.slice a n c] w fun e w' => ∃ a' N c', e = .returned (.tuple #[.slice a' N c', .int .i64 0]) ∧ Hid (N = n - 4 ∧ Own w' w.heap.size a' N c' (l.take (n - 4)) ∧ Below w.heap.size w w') := by
  obtain ⟨q, hq⟩ : ∃ q, n = q + 4 := ⟨n - 4, by omega⟩
  subst hq
  have eq4 : q + 4 - 4 = q := by omega
  have S0 : Hid (Sln w a q (l.take q)) := h.out.take (by omega)
  have S1 : Hid (Sln w.drew a q (l.take q)) := S0.out.drew
  have Z1 : Hid (a = none → q = 0) := fun e => by have := hc.out e; omega
  have NE : Hid (sealL (l.take q) = l) := by have := hok.out; rw [eq4] at this; exact this
  have C0 := conv_n (k := c) (show Hid (Sln w.drew a (q + 4) l) from h.out.drew)
  have BW : Hid (Below w.heap.size w w.drew) := below_drewN (Below.refl _ _) 1
  clear hok
  rw [eq4]
  go_enter Tryd.func54, Tryd.ntmps54
  go_upto_region 4 with (fail)
  go_region_held (fun w' => (convert 35 9 (.slice a (q + 4) c)).run Tryd.prog w' = .ok (.string (spell l)) w') (exact C0) (first
    | (go_at_call 50; refine (refseal_n S1 Z1 (by omega)).mono ?_; rintro e w1 ⟨a1, N, c1, rfl, H1⟩
       have B1 : Hid (Below w.heap.size w w1) := BW.out.trans H1.out.2.2
       have T1 : Hid (Sln w1 a1 N (sealL (l.take q))) := H1.out.2.1.sln (by rw [H1.out.1]; omega)
       have C0 := conv_n (k := c) (show Hid (Sln w1 a (q + 4) l) from h.out.below B1.out)
       have C1 := conv_n (k := c1) T1
       rw [NE.out] at C1))
  all_goals
    have b1 : Below w.heap.size w (w1.alloc (.cells #[] 5)) := B1.out.alloc B1.out.size _
    obtain ⟨a2, c2, w2, hrun, own2, gr2, new2⟩ := app_any (c2 := c) (own_empty w1) (S0.out.below b1) hc.out (by omega) (by simp)
    rw [Nat.zero_add] at hrun own2
    rw [List.nil_append] at own2
    have AP : Hid ((Builtin.append_ #[35, 35] 35 #[.slice (some ⟨w1.heap.size, 0, none⟩) 0 0, .slice a q c]).run Tryd.prog (w1.alloc (.cells #[] 5)) = .ok (.slice a2 q c2) w2) := hrun
    have FIN : Hid (Own w2 w.heap.size a2 q c2 (l.take q) ∧ Below w.heap.size w w2) := ⟨own2.base B1.out.size, b1.grown gr2 b1.size (fun k e => by simp [blkOf] at e; have := B1.out.size; omega)⟩
    clear hrun own2 gr2 new2 b1 H1
    go_wp2_with (at_builtin; refine wpList_app (by rfl) (.tmp 20) (.tmp 23) (by rfl) (by rfl) (by rfl) (by rfl) AP ?_)
    go_ret2
    exact ⟨a2, q, c2, rfl, rfl, FIN.out⟩
set_option maxHeartbeats 1000000 in
theorem open_few {w : World} {a : Option Addr} {n c : Nat} {M : Nat → Prop} {E : Nat → Addr} (hn : n < 4) (hE : Hid (Sent w M E)) (hM : M 1) :
    Calls Tryd.prog 51 #[.slice a n c] w fun e w' => e = .returned (.tuple #[.slice none 0 0, .iface 132 (.pointer (some (E 1)))]) ∧ Hid (Below w.heap.size w w') := by
  have i1 : (n : Int) < 4 := by omega
  have ce := hE.out.c 1 hM
  unfold er at ce
  have FIN : Hid (∀ j, Below w.heap.size w (w.drewN j)) := fun j => below_drewN (Below.refl _ _) j
  go_enter Tryd.func51, Tryd.ntmps51
  go_wp2
  go_quiet (fail)
  go_wp2
  go_ret2
  exact ⟨rfl, FIN.out _⟩
set_option maxHeartbeats 1000000 in
theorem open_ok {w : World} {a : Option Addr} {n c : Nat} {l : List Nat} (h : Hid (Sln w a n l)) (hc : Hid (a = none → c = 0)) (hnc : n ≤ c) (hn : 4 ≤ n) (hok : Hid (sealL (l.take (n - 4)) = l)) :
    Calls Tryd.prog 51 #[.slice a n c] w fun e w' => ∃ a' N c', e = .returned (.tuple #[.slice a' N c', .nilIface]) ∧ Hid (N = n - 4 ∧ Own w' w.heap.size a' N c' (l.take (n - 4)) ∧ Below w.heap.size w w') := by
  have m := h.out.sli.2.1
  have e := h.out.len
  rw [← e] at m
  obtain ⟨q, hq⟩ : ∃ q, n = q + 4 := ⟨n - 4, by omega⟩
  subst hq
  have eq4 : q + 4 - 4 = q := by omega
  have S1 : Hid (Sln w a q (l.take q)) := h.out.take (by omega)
  have NE : Hid (decide (sealL (l.take q) = l) = true) := by have := hok.out; rw [eq4] at this; show decide _ = true; simpa using this
  clear e hok
  rw [eq4]
  go_enter Tryd.func51, Tryd.ntmps51
  go_wp2_with (first
    | (go_at_call 48; refine (seal_n S1 hc).mono ?_; rintro e w1 ⟨g, N, rfl, H1⟩
       have L1 : Hid ((sealL (l.take q)).length ≤ 140737488352256) := by have := S1.out.len; rw [Hid, seal_len, ← this]; omega
       have T1 : Hid (Sln w1 (some ⟨g, 0, none⟩) N (sealL (l.take q))) := by
         have := H1.out.2.2.1.sln (seal_bytes S1.out.lt) L1.out
         rw [seal_len, ← S1.out.len, ← H1.out.1] at this
         exact this
       have T2 : Hid (Sln w1 a (q + 4) l) := h.out.below H1.out.2.2.2
       have T3 : Hid (Sln w1 a q (l.take q)) := S1.out.below H1.out.2.2.2
       have B1 : Hid (Below w.heap.size w w1) := H1.out.2.2.2)
    | (go_at_call 82; refine (equal_n T1 T2).mono ?_; rintro e w9 ⟨rfl, h9⟩; rw [h9, NE.out]; clear h9)
    | (go_at_call 70; refine (clone_n T3 hc).mono ?_; rintro e w2 ⟨a2, c2, rfl, H2⟩))
  go_ret2
  exact ⟨a2, q, c2, rfl, rfl, H2.out.1.base B1.out.size, B1.out.trans (H2.out.2.mono B1.out.size)⟩
end Go.Proofs.YtoegfckafnlknaaDoor

/- Xd -/
/- Rows of the call's own that are written over; the laws' own Apart. -/
namespace Go.Proofs.YtoegfckafnlknaaDoor
set_option maxRecDepth 20000
open Go.ChangeShapes Go.WideShapes Go.ChangeAt Go.RowKit
set_option linter.unusedVariables false
set_option linter.unusedSimpArgs false
theorem set_lt {L : List Nat} (h : ∀ x ∈ L, x < 256) (k v : Nat) (hv : v < 256) : ∀ x ∈ L.set k v, x < 256 := by
  intro x hx
  rcases List.mem_or_eq_of_mem_set hx with h1 | h1
  · exact h x h1
  · omega
/- where a row that isn't empty lies -/
theorem Own.at {w : World} {B : Nat} {a : Option Addr} {n c : Nat} {L : List Nat} (h : Own w B a n c L) (hn : 0 < n) : ∃ g cur, a = some ⟨g, 0, none⟩ ∧ B ≤ g ∧ w.heap[g]? = some (.cells cur 5 (0, 0)) ∧ cur.toList.take n = L.map bv := by
  rcases h.own.2 with ⟨h1, h0⟩ | ⟨g, cap, cur, h1, h2, h3, h4, h5, h6, h7⟩
  · omega
  · simp only [Value.slice.injEq] at h1
    exact ⟨g, cur, h1.1, h2, h3, by simpa using h7⟩
theorem Own.cell {w : World} {B : Nat} {a : Option Addr} {n c : Nat} {L : List Nat} (h : Own w B a n c L) {i : Nat} (hi : i < n) : ∃ g, a = some ⟨g, 0, none⟩ ∧ B ≤ g ∧ w.cell? ⟨g, i, none⟩ = some (.int .u8 (L.getD i 0 : Nat)) ∧ w.frozen? ⟨g, i, none⟩ = false := by
  obtain ⟨g, cur, ha, hB, hg, ht⟩ := h.at (by omega)
  refine ⟨g, ha, hB, ?_, fz hg i⟩
  have hl := h.len
  have h1 : (cur.toList.take n)[i]? = some (bv (L.getD i 0)) := by rw [ht]; simp [List.getD, show i < L.length by omega]
  rw [List.getElem?_take_of_lt hi] at h1
  unfold World.cell?
  simp only [hg]
  have h2 : cur[i]? = some (bv (L.getD i 0)) := by simpa using h1
  simpa [bv] using h2
theorem Own.set {w : World} {B : Nat} {a : Option Addr} {n c : Nat} {L : List Nat} (h : Own w B a n c L) {g i x : Nat} (hg : a = some ⟨g, 0, none⟩) (hi : i < n) (hx : x < 256) : Own (w.setCell ⟨g, i, none⟩ (.int .u8 (x : Int))) B a n c (L.set i x) := by
  refine ⟨by rw [List.length_set]; exact h.len, ⟨by have := h.own.1; simpa using this, ?_⟩, set_lt h.lt i x hx⟩
  rcases h.own.2 with ⟨h1, h0⟩ | ⟨g', cap, cur, h1, h2, h3, h4, h5, h6, h7⟩
  · omega
  · simp only [Value.slice.injEq] at h1
    obtain ⟨e1, _, e3⟩ := h1
    rw [hg] at e1
    simp only [Option.some.injEq, Addr.mk.injEq, and_true] at e1
    subst e1
    refine .inr ⟨g, cap, cur.setIfInBounds i (bv x), by rw [hg, e3], h2, by rw [set_blk h3]; rfl, h4, h5, by simpa using h6, ?_⟩
    simp only [Nat.mul_one] at h7 ⊢
    rw [Array.toList_setIfInBounds, List.take_set, h7, List.map_set]
theorem Sln.grown {w w' : World} {a : Option Addr} {n : Nat} {l : List Nat} {r : Option Nat} (h : Sln w a n l) (hg : w.grownBy w' r) (hne : ∀ q off, l ≠ [] → a = some ⟨q, off, none⟩ → r ≠ some q) : Sln w' a n l := by
  refine ⟨h.len, h.lt, h.sli.2.1, ?_⟩
  rcases h.sli.2.2 with h0 | ⟨b, off, ha, hb, hr⟩
  · exact .inl h0
  · by_cases h0 : l = []
    · exact .inl h0
    · refine .inr ⟨b, off, ha, Nat.lt_of_lt_of_le hb hg.size, fun i hi => ?_⟩
      rw [World.cell?_of_block (w := w) (hg.block b hb (fun e => hne b off h0 ha e.symm))]
      exact hr i hi
abbrev sevO : Obj := .cells #[.int .u8 7, .int .u8 7, .int .u8 7, .int .u8 7, .int .u8 7, .int .u8 7, .int .u8 7, .int .u8 7] 5
def sev : List Nat := [7, 7, 7, 7, 7, 7, 7, 7]
end Go.Proofs.YtoegfckafnlknaaDoor

/- Xc -/
/- What the laws' own Num (an error's number) does. -/
namespace Go.Proofs.YtoegfckafnlknaaDoor
open Go.ChangeShapes Go.WideShapes Go.ChangeAt Go.RowKit
set_option linter.unusedVariables false
set_option linter.unusedSimpArgs false
def ordL : List Nat := [3, 4, 5, 6, 1, 7, 8, 9, 10, 11, 2, 12, 13, 14, 15, 16, 17, 0]
theorem bnum_nil (w : World) : Calls Tryd.prog 22 #[.nilIface] w fun e w' => e = .returned (.int .i64 (0 : Int)) ∧ w' = w := by
  go_enter Tryd.func22, Tryd.ntmps22
  go_wp2
  go_ret
  exact ⟨rfl, rfl⟩
theorem ordL_lt : ∀ i, i < 18 → ordL.getD i 0 < 18 := by decide
set_option maxRecDepth 20000 in
set_option maxHeartbeats 1000000 in
theorem bnum_err (g p : Nat) (E : Nat → Addr) (w : World) (hp : p < 18) (ho : ordL.getD p 0 = g) (hf : ∀ i, i < p → ordL.getD i 0 ≠ g) (hS : Hid (Sent w (fun g => g < 18) E)) :
    Calls Tryd.prog 22 #[.iface 132 (.pointer (some (E g)))] w fun e w' => e = .returned (.int .i64 ((p : Int) + 1)) ∧ Hid (Below w.heap.size w w') := by
  have cs : ∀ g, g < 18 → w.cell? ⟨g, 0, none⟩ = some (.iface 132 (.pointer (some (E g)))) := hS.out.c
  have c0 := cs 0 (by omega)
  have c1 := cs 1 (by omega)
  have c2 := cs 2 (by omega)
  have c3 := cs 3 (by omega)
  have c4 := cs 4 (by omega)
  have c5 := cs 5 (by omega)
  have c6 := cs 6 (by omega)
  have c7 := cs 7 (by omega)
  have c8 := cs 8 (by omega)
  have c9 := cs 9 (by omega)
  have c10 := cs 10 (by omega)
  have c11 := cs 11 (by omega)
  have c12 := cs 12 (by omega)
  have c13 := cs 13 (by omega)
  have c14 := cs 14 (by omega)
  have c15 := cs 15 (by omega)
  have c16 := cs 16 (by omega)
  have c17 := cs 17 (by omega)
  clear cs
  obtain ⟨w1, hw1⟩ : ∃ w1, w1 = w.alloc (.cells #[er (E 3), er (E 4), er (E 5), er (E 6), er (E 1), er (E 7), er (E 8), er (E 9), er (E 10), er (E 11), er (E 2), er (E 12), er (E 13), er (E 14), er (E 15), er (E 16), er (E 17), er (E 0)] 33) := ⟨_, rfl⟩
  have CC : Hid (∀ i, i < 18 → w1.cell? ⟨w.heap.size, i, none⟩ = some (er (E (ordL.getD i 0)))) := by
    intro i hi
    have e : (#[er (E 3), er (E 4), er (E 5), er (E 6), er (E 1), er (E 7), er (E 8), er (E 9), er (E 10), er (E 11), er (E 2), er (E 12), er (E 13), er (E 14), er (E 15), er (E 16), er (E 17), er (E 0)] : Array Value) = (ordL.map fun g => er (E g)).toArray := rfl
    rw [hw1, e]
    have hl : i < ordL.length := hi
    simp [hl, List.getD]
  have LB : Hid (Below w.heap.size w w1) := by rw [hw1]; exact (Below.refl _ _).alloc (Nat.le_refl _) _
  have S1 : Hid (Sent w1 (fun g => g < 18) E) := hS.out.below LB.out
  have HO : Hid (ordL.getD p 0 = g ∧ ∀ i, i < p → ordL.getD i 0 ≠ g) := ⟨ho, hf⟩
  have hg : g < 18 := by rw [← ho]; exact ordL_lt p hp
  clear ho hf
  go_enter Tryd.func22, Tryd.ntmps22
  go_upto_region 4 with (fail)
  unfold er at hw1
  rw [← hw1]
  clear hw1 c0 c1 c2 c3 c4 c5 c6 c7 c8 c9 c10 c11 c12 c13 c14 c15 c16 c17
  obtain ⟨q, Hq⟩ : ∃ q, Hid (w.heap.size = q) := ⟨_, rfl⟩
  rw [Hq.out] at CC ⊢
  go_wp2
  go_loop [29] (fun ti => ∃ i : Nat, i ≤ p ∧ ti = .int .i64 (i : Int)) (fun ti => 18 - (intOf ti).toNat)
  case atStart => exact ⟨0, by omega, rfl⟩
  case round =>
    obtain ⟨i, hi, rfl⟩ := hrel
    have ci := CC.out i (by omega)
    unfold er at ci
    have i1 : (i : Int) < 18 := by omega
    by_cases hip : i = p
    · subst hip
      rw [HO.out.1] at ci
      have eq := eql_same w1 (E g)
      go_wp2
      go_ret
      exact ⟨rfl, LB.out⟩
    · have hne := HO.out.2 i (by omega)
      have eq := eql_other S1.out (M := fun g => g < 18) hg (ordL_lt i (by omega)) (fun e => hne e.symm)
      obtain ⟨o, Ho⟩ : ∃ o, Hid (ordL.getD i 0 = o) := ⟨_, rfl⟩
      rw [Ho.out] at ci eq
      clear hne
      go_wp2
      go_round
      case rel => exact ⟨i + 1, by omega, by go_num⟩
      case measure => simp [intOf]; omega
end Go.Proofs.YtoegfckafnlknaaDoor

/- Xe -/
/- Open's answers in one word; what lies in memory while WireSums looks. -/
namespace Go.Proofs.YtoegfckafnlknaaDoor
set_option maxRecDepth 20000
open Go.ChangeShapes Go.WideShapes Go.ChangeAt Go.RowKit
set_option linter.unusedVariables false
set_option linter.unusedSimpArgs false
def opn (l : List Nat) : List Nat × Nat := if l.length < 4 then ([], 5) else if sealL (l.take (l.length - 4)) = l then (l.take (l.length - 4), 0) else ([], 6)
theorem opn_few {l : List Nat} (h : l.length < 4) : opn l = ([], 5) := by rw [opn, if_pos h]
theorem opn_ok {l : List Nat} (h : 4 ≤ l.length) (h2 : sealL (l.take (l.length - 4)) = l) : opn l = (l.take (l.length - 4), 0) := by rw [opn, if_neg (by omega), if_pos h2]
theorem opn_bad {l : List Nat} (h : 4 ≤ l.length) (h2 : sealL (l.take (l.length - 4)) ≠ l) : opn l = ([], 6) := by rw [opn, if_neg (by omega), if_neg h2]
theorem opn_code (l : List Nat) : (opn l).2 = 0 ∨ (opn l).2 = 5 ∨ (opn l).2 = 6 := by
  unfold opn
  split
  · simp
  · split <;> simp
def erv (E : Nat → Addr) (k : Nat) : Value := if k = 0 then .nilIface else if k = 5 then .iface 132 (.pointer (some (E 1))) else .iface 132 (.pointer (some (E 7)))
theorem open_any {w : World} {a : Option Addr} {n c : Nat} {M : Nat → Prop} {l : List Nat} {E : Nat → Addr} (h : Hid (Sln w a n l)) (hc : Hid (a = none → c = 0)) (hnc : n ≤ c) (hE : Hid (Sent w M E)) (hM : M 7) (hM1 : M 1) :
    Calls Tryd.prog 51 #[.slice a n c] w fun e w' => ∃ a' N c' v, e = .returned (.tuple #[.slice a' N c', v]) ∧ Hid (v = erv E (opn l).2 ∧ Own w' w.heap.size a' N c' (opn l).1 ∧ Below w.heap.size w w') := by
  have hl := h.out.len
  by_cases h4 : n < 4
  · refine (open_few h4 hE hM1).mono ?_
    rintro e w' ⟨h1, h2⟩
    rw [opn_few (by omega)]
    exact ⟨none, 0, 0, _, h1, rfl, Own.nil _ _, h2.out⟩
  · by_cases hs : sealL (l.take (n - 4)) = l
    · refine (open_ok h hc hnc (by omega) hs).mono ?_
      rintro e w' ⟨a', N, c', h1, h2⟩
      rw [opn_ok (by omega) (by rw [← hl]; exact hs), ← hl]
      exact ⟨a', N, c', _, h1, rfl, h2.out.2.1, h2.out.2.2⟩
    · refine (open_bad h hc hnc (by omega) hs hE hM).mono ?_
      rintro e w' ⟨h1, h2⟩
      rw [opn_bad (by omega) (by rw [← hl]; exact hs)]
      exact ⟨none, 0, 0, _, h1, rfl, Own.nil _ _, h2.out⟩
theorem refopen_any {w : World} {a : Option Addr} {n c : Nat} {l : List Nat} (h : Hid (Sln w a n l)) (hc : Hid (a = none → c = 0)) (hnc : n ≤ c) :
    Calls Tryd.prog 54 #[.slice a n c] w fun e w' => ∃ (a' : Option Addr) (N c' k : Nat), e = .returned (.tuple #[.slice a' N c', .int .i64 (k : Int)]) ∧ Hid (k = (opn l).2 ∧ Own w' w.heap.size a' N c' (opn l).1 ∧ Below w.heap.size w w') := by
  have hl := h.out.len
  have hm : n ≤ 140737488352256 := by rw [hl]; exact h.out.sli.2.1
  by_cases h4 : n < 4
  · refine (refopen_few h4).mono ?_
    rintro e w' ⟨h1, h2⟩
    rw [opn_few (by omega)]
    exact ⟨none, 0, 0, 5, h1, rfl, Own.nil _ _, by rw [h2]; exact Below.refl _ _⟩
  · by_cases hs : sealL (l.take (n - 4)) = l
    · refine (refopen_ok h hc hnc (by omega) hm hs).mono ?_
      rintro e w' ⟨a', N, c', h1, h2⟩
      rw [opn_ok (by omega) (by rw [← hl]; exact hs), ← hl]
      exact ⟨a', N, c', 0, h1, rfl, h2.out.2.1, h2.out.2.2⟩
    · refine (refopen_bad h hc hnc (by omega) hm hs).mono ?_
      rintro e w' ⟨h1, h2⟩
      rw [opn_bad (by omega) (by rw [← hl]; exact hs)]
      exact ⟨none, 0, 0, 6, h1, rfl, Own.nil _ _, h2.out⟩
theorem bnum_any {w : World} {v : Value} {k : Nat} {E : Nat → Addr} (hv : Hid (v = erv E k)) (hk : Hid (k = 0 ∨ k = 5 ∨ k = 6)) (hS : Hid (Sent w (fun g => g < 18) E)) :
    Calls Tryd.prog 22 #[v] w fun e w' => e = .returned (.int .i64 (k : Int)) ∧ Hid (Below w.heap.size w w') := by
  rw [hv.out]
  rcases hk.out with rfl | rfl | rfl
  · refine (bnum_nil w).mono ?_
    rintro e w' ⟨h1, h2⟩
    exact ⟨h1, by rw [h2]; exact Below.refl _ _⟩
  · exact bnum_err 1 4 E w (by omega) rfl (by decide) hS
  · exact bnum_err 7 5 E w (by omega) rfl (by decide) hS
theorem Blk.own {w : World} {g B N : Nat} {L : List Nat} (h : Blk w g L) (hB : B ≤ g) (hN : N = L.length) (h1 : ∀ x ∈ L, x < 256) (h2 : N ≤ 140737488352256) : Own w B (some ⟨g, 0, none⟩) N N L := by
  subst hN
  exact ⟨rfl, ⟨by simp, .inr ⟨g, L.length, _, rfl, hB, h, Nat.le_refl _, by unfold maxLen; omega, by simp, by simp [List.take_of_length_le]⟩⟩, h1⟩
/- an argument lies below what the call made -/
theorem Blk.grown {w w' : World} {g : Nat} {L : List Nat} {r : Option Nat} (h : Blk w g L) (hg : w.grownBy w' r) (hne : r ≠ some g) : Blk w' g L := (hg.block g h.lt (fun e => hne e.symm)).trans h
end Go.Proofs.YtoegfckafnlknaaDoor
