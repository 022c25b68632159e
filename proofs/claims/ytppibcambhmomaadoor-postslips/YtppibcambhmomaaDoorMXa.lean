/- The document's own Sum, Seal and Open; Open in all cases. -/
import Derived.Test.YtppibcambhmomaaDoorMh
import Derived.Test.YtppibcambhmomaaDoorMVa
import Derived.Deep.RegionHeld
namespace Go.Proofs.YtppibcambhmomaaDoor
set_option maxRecDepth 20000
open Go.ChangeShapes Go.WideShapes Go.ChangeAt Go.RowKit
set_option linter.unusedVariables false
set_option linter.unusedSimpArgs false
theorem u64_xor_nat (a b : Nat) (ha : a < 18446744073709551616) (hb : b < 18446744073709551616) : bits .xor .u64 (a : Int) (b : Int) = ((a ^^^ b : Nat) : Int) := by
  have h : a ^^^ b < 18446744073709551616 := Nat.xor_lt_two_pow (n := 64) ha hb
  show IntKind.u64.wrap ((BitVec.ofInt 64 (a : Int) ^^^ BitVec.ofInt 64 (b : Int)).toNat : Int) = _
  rw [BitVec.toNat_xor, BitVec.toNat_ofInt, BitVec.toNat_ofInt, IntKind.wrap_u64]
  have ea : ((a : Int) % ((2 ^ 64 : Nat) : Int)).toNat = a := by omega
  have eb : ((b : Int) % ((2 ^ 64 : Nat) : Int)).toNat = b := by omega
  rw [ea, eb]
  omega
set_option maxHeartbeats 1000000 in
theorem refsum_n {w : World} {a : Option Addr} {n c : Nat} {l : List Nat} (h : Hid (Sln w a n l)) :
    Calls Tryd.prog 52 #[.slice a n c] w fun e w' => e = .returned (.int .u32 ((fsum l : Nat) : Int)) ∧ w' = w := by
  have m := h.out.sli.2.1
  have e := h.out.len
  rw [← e] at m
  have hE : Hid (n = l.length) := e
  clear e
  have F0 : Hid (fnv 2166136261 (l.take 0) = 2166136261) := rfl
  go_enter Tryd.func52, Tryd.ntmps52
  go_wp2
  go_loop [3, 8] (fun ts ti => ∃ k s : Nat, k ≤ n ∧ s < 4294967296 ∧ Hid (fnv 2166136261 (l.take k) = s) ∧ ts = .int .u64 s ∧ ti = .int .i64 k) (fun _ ti => n - (intOf ti).toNat)
  case atStart => exact ⟨0, 2166136261, by omega, by omega, F0.out, rfl, rfl⟩
  case round =>
    obtain ⟨k, s, hk, hs, HS, rfl, rfl⟩ := hrel
    by_cases hlt : k < n
    · obtain ⟨b, off, rfl, c1⟩ := row_at h.out hlt
      obtain ⟨x, Hx⟩ : ∃ x, Hid (l.getD k 0 = x) := ⟨_, rfl⟩
      have hx : x < 256 := by rw [← Hx.out]; exact getD_lt h.out.lt k
      rw [Hx.out] at c1
      obtain ⟨y, Hy⟩ : ∃ y, Hid (s ^^^ x = y) := ⟨_, rfl⟩
      have hy : y < 4294967296 := by rw [← Hy.out]; exact Nat.xor_lt_two_pow (n := 32) hs (by omega)
      have e1 : bits .xor .u64 (s : Int) (x : Int) = (y : Int) := by rw [u64_xor_nat s x (by omega) (by omega), Hy.out]
      obtain ⟨z, Hz⟩ : ∃ z, Hid (y * 16777619 % 4294967296 = z) := ⟨_, rfl⟩
      have hz : z < 4294967296 := by rw [← Hz.out]; exact Nat.mod_lt _ (by omega)
      have e2 : Int.tmod ((y : Int) * 16777619) 4294967296 = (z : Int) := by rw [Int.tmod_eq_emod_of_nonneg (by omega)]; have := Hz.out; omega
      have e3 : (y : Int) * 16777619 % 4294967296 = (z : Int) := by have := Hz.out; omega
      have F1 : Hid (fnv 2166136261 (l.take (k + 1)) = z) := by
        rw [take_succ_getD (by rw [← hE.out]; exact hlt), fnv_snoc, HS.out, Hx.out, stp, Hy.out]
        exact Hz.out
      clear hE HS Hx Hy Hz
      go_wp2
      go_round
      case rel => exact ⟨k + 1, z, by omega, hz, F1.out, by go_num, by go_num⟩
      case measure => simp [intOf]; omega
    · have ek : k = n := by omega
      have F1 : Hid (fsum l = s) := by
        rw [← HS.out, ek, hE.out, List.take_length]; rfl
      clear hE HS
      go_wp2
      go_ret
      exact ⟨by rw [F1.out]; rfl, rfl⟩
theorem own_empty (w : World) : Own (w.alloc (.cells #[] 5)) w.heap.size (some ⟨w.heap.size, 0, none⟩) 0 0 [] := ⟨rfl, World.ownsRow_made w #[] 0 (Nat.le_refl _) (by unfold maxLen; omega) (by simp), by simp⟩
set_option maxHeartbeats 1000000 in
theorem refseal_n {a : Option Addr} {n k : Nat} {l : List Nat} {w : World} (h : Hid (Sln w a n l)) (hk : Hid (a = none → k = 0)) (hn : n + 4 ≤ 140737488352256) :
    Calls Tryd.prog 27 #[.slice a n k] w fun e w' => ∃ a' N c', e = .returned (.slice a' N c') ∧ Hid (N = n + 4 ∧ Own w' w.heap.size a' N c' (sealL l) ∧ Below w.heap.size w w') := by
  have e := h.out.len
  have b1 : Below w.heap.size w (w.alloc (.cells #[] 5)) := (Below.refl _ _).alloc (Nat.le_refl _) _
  obtain ⟨a2, c2, w2, hrun, own2, gr2, new2⟩ := app_any (c2 := k) (own_empty w) (h.out.below b1) hk.out (by omega) (by simp)
  rw [Nat.zero_add] at hrun own2
  rw [List.nil_append] at own2
  have b2 : Below w.heap.size w w2 := b1.grown gr2 (by simp) (fun k e => by simp [blkOf] at e; omega)
  obtain ⟨s, Hs⟩ : ∃ s, Hid (fsum l = s) := ⟨_, rfl⟩
  have hs : s < 4294967296 := by rw [← Hs.out]; exact fsum_lt l
  obtain ⟨b3, H3⟩ : ∃ b3, b3 = s / 16777216 := ⟨_, rfl⟩
  obtain ⟨q2, H2⟩ : ∃ q2, q2 = s / 65536 := ⟨_, rfl⟩
  obtain ⟨b2', H2'⟩ : ∃ b2, b2 = q2 % 256 := ⟨_, rfl⟩
  obtain ⟨q1, H1⟩ : ∃ q1, q1 = s / 256 := ⟨_, rfl⟩
  obtain ⟨b1', H1'⟩ : ∃ b1, b1 = q1 % 256 := ⟨_, rfl⟩
  obtain ⟨b0, H0⟩ : ∃ b0, b0 = s % 256 := ⟨_, rfl⟩
  have e3 : (s : Int) / 16777216 = (b3 : Int) := by omega
  have e2 : (s : Int) / 65536 = (q2 : Int) := by omega
  have e2' : (q2 : Int) % 256 = (b2' : Int) := by omega
  have e1 : (s : Int) / 256 = (q1 : Int) := by omega
  have e1' : (q1 : Int) % 256 = (b1' : Int) := by omega
  have e0 : (s : Int) % 256 = (b0 : Int) := by omega
  have x3 : b3 < 256 := by omega
  have x2 : b2' < 256 := by omega
  have x1 : b1' < 256 := by omega
  have x0 : b0 < 256 := by omega
  have y2 : q2 < 65536 := by omega
  have y1 : q1 < 16777216 := by omega
  have EQ : Hid (be4 s = [b3, b2', b1', b0]) := by
    show be4 s = _
    unfold be4
    rw [H2', H1', H3, H2, H1, H0, Nat.mod_eq_of_lt (a := s / 16777216) (by omega)]
  have b3w : Below w.heap.size w (w2.alloc (four b3 b2' b1' b0)) := b2.alloc b2.size _
  have bm : Blk (w2.alloc (four b3 b2' b1' b0)) w2.heap.size [b3, b2', b1', b0] := by
    show (w2.heap.push _)[w2.heap.size]? = _
    simp [bv]
  have sm := bm.sln (by simp; omega) (by simp)
  have own3 : Own (w2.alloc (four b3 b2' b1' b0)) w.heap.size a2 n c2 l := ⟨own2.len, own2.own.alloc _, own2.lt⟩
  obtain ⟨a4, c4, w4, hrun4, own4, gr4, new4⟩ := app_any (c2 := 4) own3 sm (by simp) (by simp; omega) b3w.size
  simp only [List.length_cons, List.length_nil, Nat.zero_add, Nat.reduceAdd] at hrun4 own4
  have AP1 : Hid ((Builtin.append_ #[27, 27] 27 #[.slice (some ⟨w.heap.size, 0, none⟩) 0 0,.slice a n k]).run Tryd.prog (w.alloc (.cells #[] 5)) = .ok (.slice a2 n c2) w2) := hrun
  have AP2 : Hid ((Builtin.append_ #[27, 27] 27 #[.slice a2 n c2,.slice (some ⟨w2.heap.size, 0, none⟩) 4 4]).run Tryd.prog (w2.alloc (four b3 b2' b1' b0)) = .ok (.slice a4 (n + 4) c4) w4) := hrun4
  have FIN : Hid (Own w4 w.heap.size a4 (n + 4) c4 (sealL l) ∧ Below w.heap.size w w4) := by
    refine ⟨?_, b3w.grown gr4 b3w.size (fun j hj => (own3.ge j hj).1)⟩
    rw [sealL, Hs.out, EQ.out]
    exact own4
  clear hrun own2 gr2 new2 b1 b2 e H3 H2 H2' H1 H1' H0 b3w bm sm own3 hrun4 own4 gr4 new4 EQ
  go_enter Tryd.func27, Tryd.ntmps27
  go_wp2_with (first
    | (at_builtin; refine wpList_app (by rfl) (.tmp 6) (.tmp 7) (by rfl) (by rfl) (by rfl) (by rfl) AP1 ?_)
    | (at_builtin; refine wpList_app (by rfl) (.tmp 8) (.tmp 20) (by rfl) (by rfl) (by rfl) (by rfl) AP2 ?_)
    | (go_at_call 52; refine (refsum_n h).mono ?_; rintro e w9 ⟨rfl, h9⟩; rw [h9, Hs.out]; clear h9))
  go_ret
  exact ⟨a4, n + 4, c4, rfl, rfl, FIN.out⟩
end Go.Proofs.YtppibcambhmomaaDoor
namespace Go.Proofs.YtppibcambhmomaaDoor
set_option maxRecDepth 20000
open Go.ChangeShapes Go.WideShapes Go.ChangeAt Go.RowKit
set_option linter.unusedVariables false
set_option linter.unusedSimpArgs false
set_option maxHeartbeats 1000000 in
theorem open_few {w : World} {a : Option Addr} {n c : Nat} {M : Nat → Prop} {E : Nat → Addr} (hn : n < 4) (hE : Hid (Sent w M E)) (hM : M 1) :
    Calls Tryd.prog 23 #[.slice a n c] w fun e w' => e = .returned (.tuple #[.slice none 0 0, .iface 142 (.pointer (some (E 1)))]) ∧ Hid (Below w.heap.size w w') := by
  have i1 : (n : Int) < 4 := by omega
  have ce := hE.out.c 1 hM
  unfold er at ce
  have FIN : Hid (∀ j, Below w.heap.size w (w.drewN j)) := fun j => below_drewN (Below.refl _ _) j
  go_enter Tryd.func23, Tryd.ntmps23
  go_wp2
  go_quiet (fail)
  go_wp2
  go_ret2
  exact ⟨rfl, FIN.out _⟩
set_option maxHeartbeats 1000000 in
theorem open_ok {w : World} {a : Option Addr} {n c : Nat} {l : List Nat} (h : Hid (Sln w a n l)) (hc : Hid (a = none → c = 0)) (hnc : n ≤ c) (hn : 4 ≤ n) (hok : Hid (sealL (l.take (n - 4)) = l)) :
    Calls Tryd.prog 23 #[.slice a n c] w fun e w' => ∃ a' N c', e = .returned (.tuple #[.slice a' N c', .nilIface]) ∧ Hid (N = n - 4 ∧ Own w' w.heap.size a' N c' (l.take (n - 4)) ∧ Below w.heap.size w w') := by
  have m := h.out.sli.2.1
  have e := h.out.len
  rw [← e] at m
  obtain ⟨q, hq⟩ : ∃ q, n = q + 4 := ⟨n - 4, by omega⟩
  subst hq
  have eq4 : q + 4 - 4 = q := by omega
  have S1 : Hid (Sln w a q (l.take q)) := h.out.take (by omega)
  have NE : Hid (decide (sealL (l.take q) = l) = true) := by have := hok.out; rw [eq4] at this; show decide _ = true; simpa using this
  clear e hok
  rw [eq4]
  go_enter Tryd.func23, Tryd.ntmps23
  go_wp2_with (first
    | (go_at_call 18; refine (seal_n S1 hc).mono ?_; rintro e w1 ⟨g, N, rfl, H1⟩
       have L1 : Hid ((sealL (l.take q)).length ≤ 140737488352256) := by have := S1.out.len; rw [Hid, seal_len, ← this]; omega
       have T1 : Hid (Sln w1 (some ⟨g, 0, none⟩) N (sealL (l.take q))) := by
         have := H1.out.2.2.1.sln (seal_bytes S1.out.lt) L1.out
         rw [seal_len, ← S1.out.len, ← H1.out.1] at this
         exact this
       have T2 : Hid (Sln w1 a (q + 4) l) := h.out.below H1.out.2.2.2
       have T3 : Hid (Sln w1 a q (l.take q)) := S1.out.below H1.out.2.2.2
       have B1 : Hid (Below w.heap.size w w1) := H1.out.2.2.2)
    | (go_at_call 47; refine (equal_n T1 T2).mono ?_; rintro e w9 ⟨rfl, h9⟩; rw [h9, NE.out]; clear h9)
    | (go_at_call 48; refine (clone_n T3 hc).mono ?_; rintro e w2 ⟨a2, c2, rfl, H2⟩))
  go_ret2
  exact ⟨a2, q, c2, rfl, rfl, H2.out.1.base B1.out.size, B1.out.trans (H2.out.2.mono B1.out.size)⟩
end Go.Proofs.YtppibcambhmomaaDoor
namespace Go.Proofs.YtppibcambhmomaaDoor
set_option maxRecDepth 20000
open Go.ChangeShapes Go.WideShapes Go.ChangeAt Go.RowKit
set_option linter.unusedVariables false
set_option linter.unusedSimpArgs false
theorem set_lt {L : List Nat} (h : ∀ x ∈ L, x < 256) (k v : Nat) (hv : v < 256) : ∀ x ∈ L.set k v, x < 256 := by
  intro x hx
  rcases List.mem_or_eq_of_mem_set hx with h1 | h1
  · exact h x h1
  · omega
/- where a row that isn't empty lies -/
theorem Own.at {w : World} {B : Nat} {a : Option Addr} {n c : Nat} {L : List Nat} (h : Own w B a n c L) (hn : 0 < n) : ∃ g cur, a = some ⟨g, 0, none⟩ ∧ B ≤ g ∧ w.heap[g]? = some (.cells cur 5 (0, 0)) ∧ cur.toList.take n = L.map bv := by
  rcases h.own.2 with ⟨h1, h0⟩ | ⟨g, cap, cur, h1, h2, h3, h4, h5, h6, h7⟩
  · omega
  · simp only [Value.slice.injEq] at h1
    exact ⟨g, cur, h1.1, h2, h3, by simpa using h7⟩
theorem Own.cell {w : World} {B : Nat} {a : Option Addr} {n c : Nat} {L : List Nat} (h : Own w B a n c L) {i : Nat} (hi : i < n) : ∃ g, a = some ⟨g, 0, none⟩ ∧ B ≤ g ∧ w.cell? ⟨g, i, none⟩ = some (.int .u8 (L.getD i 0 : Nat)) ∧ w.frozen? ⟨g, i, none⟩ = false := by
  obtain ⟨g, cur, ha, hB, hg, ht⟩ := h.at (by omega)
  refine ⟨g, ha, hB, ?_, fz hg i⟩
  have hl := h.len
  have h1 : (cur.toList.take n)[i]? = some (bv (L.getD i 0)) := by rw [ht]; simp [List.getD, show i < L.length by omega]
  rw [List.getElem?_take_of_lt hi] at h1
  unfold World.cell?
  simp only [hg]
  have h2 : cur[i]? = some (bv (L.getD i 0)) := by simpa using h1
  simpa [bv] using h2
theorem Own.set {w : World} {B : Nat} {a : Option Addr} {n c : Nat} {L : List Nat} (h : Own w B a n c L) {g i x : Nat} (hg : a = some ⟨g, 0, none⟩) (hi : i < n) (hx : x < 256) : Own (w.setCell ⟨g, i, none⟩ (.int .u8 (x : Int))) B a n c (L.set i x) := by
  refine ⟨by rw [List.length_set]; exact h.len, ⟨by have := h.own.1; simpa using this, ?_⟩, set_lt h.lt i x hx⟩
  rcases h.own.2 with ⟨h1, h0⟩ | ⟨g', cap, cur, h1, h2, h3, h4, h5, h6, h7⟩
  · omega
  · simp only [Value.slice.injEq] at h1
    obtain ⟨e1, _, e3⟩ := h1
    rw [hg] at e1
    simp only [Option.some.injEq, Addr.mk.injEq, and_true] at e1
    subst e1
    refine .inr ⟨g, cap, cur.setIfInBounds i (bv x), by rw [hg, e3], h2, by rw [set_blk h3]; rfl, h4, h5, by simpa using h6, ?_⟩
    simp only [Nat.mul_one] at h7 ⊢
    rw [Array.toList_setIfInBounds, List.take_set, h7, List.map_set]
theorem xor_lt8 {a b : Nat} (ha : a < 256) (hb : b < 256) : a ^^^ b < 256 := Nat.xor_lt_two_pow (n := 8) ha hb
theorem xor_u8 (x k : Nat) (hx : x < 256) (hk : k < 256) : bits BinOp.xor IntKind.u8 (x : Int) (k : Int) = ((x ^^^ k : Nat) : Int) := u8_xor_nat x k hx hk
theorem grown_set {w w' : World} {r : Option Nat} (h : w.grownBy w' r) (g i : Nat) (v : Value) (hg : some g = r ∨ w.heap.size ≤ g) : w.grownBy (w'.setCell ⟨g, i, none⟩ v) r :=
  ⟨h.os, h.tape, h.output, by simp [World.setCell]; exact h.size, fun k hk hr => (Below.heap_setCell _ _ _ _ (fun e => by subst e; rcases hg with h1 | h1; exact hr h1; omega)).trans (h.block k hk hr)⟩
theorem Sln.grown {w w' : World} {a : Option Addr} {n : Nat} {l : List Nat} {r : Option Nat} (h : Sln w a n l) (hg : w.grownBy w' r) (hne : ∀ q off, l ≠ [] → a = some ⟨q, off, none⟩ → r ≠ some q) : Sln w' a n l := by
  refine ⟨h.len, h.lt, h.sli.2.1, ?_⟩
  rcases h.sli.2.2 with h0 | ⟨b, off, ha, hb, hr⟩
  · exact .inl h0
  · by_cases h0 : l = []
    · exact .inl h0
    · refine .inr ⟨b, off, ha, Nat.lt_of_lt_of_le hb hg.size, fun i hi => ?_⟩
      rw [World.cell?_of_block (w := w) (hg.block b hb (fun e => hne b off h0 ha e.symm))]
      exact hr i hi
abbrev sevO : Obj := .cells #[.int .u8 7, .int .u8 7, .int .u8 7, .int .u8 7, .int .u8 7, .int .u8 7, .int .u8 7, .int .u8 7] 5
def sev : List Nat := [7, 7, 7, 7, 7, 7, 7, 7]
theorem grown_refl (w : World) (r : Option Nat) : w.grownBy w r := ⟨rfl, rfl, rfl, Nat.le_refl _, fun _ _ _ => rfl⟩
theorem grown_then {w a b : World} {r r1 : Option Nat} (h : w.grownBy a r) (k : a.grownBy b r1) (hr : ∀ q, r1 = some q → r = some q ∨ w.heap.size ≤ q) : w.grownBy b r :=
  ⟨k.os.trans h.os, k.tape.trans h.tape, k.output.trans h.output, Nat.le_trans h.size k.size, fun i hi hne => (k.block i (Nat.lt_of_lt_of_le hi h.size) (fun e => by rcases hr i e.symm with h1 | h1; exact hne h1.symm; omega)).trans (h.block i hi hne)⟩
end Go.Proofs.YtppibcambhmomaaDoor
namespace Go.Proofs.YtppibcambhmomaaDoor
open Go.ChangeShapes Go.WideShapes Go.ChangeAt Go.RowKit
set_option linter.unusedVariables false
set_option linter.unusedSimpArgs false
def ordL : List Nat := [3, 4, 5, 6, 1, 7, 8, 9, 10, 11, 2, 12, 13, 14, 15, 16, 17, 0]
theorem ordL_lt : ∀ i, i < 18 → ordL.getD i 0 < 18 := by decide
end Go.Proofs.YtppibcambhmomaaDoor
namespace Go.Proofs.YtppibcambhmomaaDoor
set_option maxRecDepth 20000
open Go.ChangeShapes Go.WideShapes Go.ChangeAt Go.RowKit
set_option linter.unusedVariables false
set_option linter.unusedSimpArgs false
def opn (l : List Nat) : List Nat × Nat := if l.length < 4 then ([], 5) else if sealL (l.take (l.length - 4)) = l then (l.take (l.length - 4), 0) else ([], 6)
theorem opn_few {l : List Nat} (h : l.length < 4) : opn l = ([], 5) := by rw [opn, if_pos h]
theorem opn_ok {l : List Nat} (h : 4 ≤ l.length) (h2 : sealL (l.take (l.length - 4)) = l) : opn l = (l.take (l.length - 4), 0) := by rw [opn, if_neg (by omega), if_pos h2]
theorem opn_bad {l : List Nat} (h : 4 ≤ l.length) (h2 : sealL (l.take (l.length - 4)) ≠ l) : opn l = ([], 6) := by rw [opn, if_neg (by omega), if_neg h2]
theorem opn_code (l : List Nat) : (opn l).2 = 0 ∨ (opn l).2 = 5 ∨ (opn l).2 = 6 := by
  unfold opn
  split
  · simp
  · split <;> simp
def erv (E : Nat → Addr) (k : Nat) : Value := if k = 0 then .nilIface else if k = 5 then .iface 142 (.pointer (some (E 1))) else .iface 142 (.pointer (some (E 3)))
theorem open_any {w : World} {a : Option Addr} {n c : Nat} {M : Nat → Prop} {l : List Nat} {E : Nat → Addr} (h : Hid (Sln w a n l)) (hc : Hid (a = none → c = 0)) (hnc : n ≤ c) (hE : Hid (Sent w M E)) (hM : M 3) (hM1 : M 1) :
    Calls Tryd.prog 23 #[.slice a n c] w fun e w' => ∃ a' N c' v, e = .returned (.tuple #[.slice a' N c', v]) ∧ Hid (v = erv E (opn l).2 ∧ Own w' w.heap.size a' N c' (opn l).1 ∧ Below w.heap.size w w') := by
  have hl := h.out.len
  by_cases h4 : n < 4
  · refine (open_few h4 hE hM1).mono ?_
    rintro e w' ⟨h1, h2⟩
    rw [opn_few (by omega)]
    exact ⟨none, 0, 0, _, h1, rfl, Own.nil _ _, h2.out⟩
  · by_cases hs : sealL (l.take (n - 4)) = l
    · refine (open_ok h hc hnc (by omega) hs).mono ?_
      rintro e w' ⟨a', N, c', h1, h2⟩
      rw [opn_ok (by omega) (by rw [← hl]; exact hs), ← hl]
      exact ⟨a', N, c', _, h1, rfl, h2.out.2.1, h2.out.2.2⟩
    · refine (open_bad h hc hnc (by omega) hs hE hM).mono ?_
      rintro e w' ⟨h1, h2⟩
      rw [opn_bad (by omega) (by rw [← hl]; exact hs)]
      exact ⟨none, 0, 0, _, h1, rfl, Own.nil _ _, h2.out⟩
theorem Blk.own {w : World} {g B N : Nat} {L : List Nat} (h : Blk w g L) (hB : B ≤ g) (hN : N = L.length) (h1 : ∀ x ∈ L, x < 256) (h2 : N ≤ 140737488352256) : Own w B (some ⟨g, 0, none⟩) N N L := by
  subst hN
  exact ⟨rfl, ⟨by simp, .inr ⟨g, L.length, _, rfl, hB, h, Nat.le_refl _, by unfold maxLen; omega, by simp, by simp [List.take_of_length_le]⟩⟩, h1⟩
/- an argument lies below what the call made -/
theorem old_block {w W : World} {a : Option Addr} {n : Nat} {l : List Nat} (h : Sln w a n l) {r : Option Nat} (hr : ∀ q, r = some q → w.heap.size ≤ q) : ∀ q off, l ≠ [] → a = some ⟨q, off, none⟩ → r ≠ some q := by
  intro q off hl ha e
  obtain ⟨b, o, h1, h2, _⟩ := h.sli.2.2.resolve_left hl
  rw [ha] at h1
  simp only [Option.some.injEq, Addr.mk.injEq, and_true] at h1
  have := hr q e
  omega
theorem Blk.grown {w w' : World} {g : Nat} {L : List Nat} {r : Option Nat} (h : Blk w g L) (hg : w.grownBy w' r) (hne : r ≠ some g) : Blk w' g L := (hg.block g h.lt (fun e => hne e.symm)).trans h
end Go.Proofs.YtppibcambhmomaaDoor
