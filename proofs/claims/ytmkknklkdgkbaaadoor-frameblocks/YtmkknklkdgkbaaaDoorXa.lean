/- The document's own Sum, Seal and Open; Open in all cases. -/
import Derived.Test.YtmkknklkdgkbaaaDoorVi
import Derived.Deep.RegionHeld
namespace Go.Proofs.YtmkknklkdgkbaaaDoor
open Go.ChangeShapes Go.WideShapes Go.ChangeAt Go.RowKit
set_option maxRecDepth 20000
set_option linter.unusedVariables false
set_option linter.unusedSimpArgs false
theorem u64_xor_nat (a b : Nat) (ha : a < 18446744073709551616) (hb : b < 18446744073709551616) : bits .xor .u64 (a : Int) (b : Int) = ((a ^^^ b : Nat) : Int) := by
  have h : a ^^^ b < 18446744073709551616 := Nat.xor_lt_two_pow (n := 64) ha hb
  show IntKind.u64.wrap ((BitVec.ofInt 64 (a : Int) ^^^ BitVec.ofInt 64 (b : Int)).toNat : Int) = _
  rw [BitVec.toNat_xor, BitVec.toNat_ofInt, BitVec.toNat_ofInt, IntKind.wrap_u64]
  have ea : ((a : Int) % ((2 ^ 64 : Nat) : Int)).toNat = a := by omega
  have eb : ((b : Int) % ((2 ^ 64 : Nat) : Int)).toNat = b := by omega
  rw [ea, eb]
  omega
set_option maxHeartbeats 1000000 in
theorem refsum_n {w : World} {a : Option Addr} {n c : Nat} {l : List Nat} (h : Hid (Sln w a n l)) :
    Calls Tryd.prog 51 #[.slice a n c] w fun e w' => e = .returned (.int .u32 ((fsum l : Nat) : Int)) ∧ w' = w := by
  have m := h.out.sli.2.1
  have e := h.out.len
  rw [← e] at m
  have hE : Hid (n = l.length) := e
  clear e
  have F0 : Hid (fnv 2166136261 (l.take 0) = 2166136261) := rfl
  go_enter Tryd.func51, Tryd.ntmps51
  go_wp2
  go_loop [3, 8] (fun ts ti => ∃ k s : Nat, k ≤ n ∧ s < 4294967296 ∧ Hid (fnv 2166136261 (l.take k) = s) ∧ ts = .int .u64 s ∧ ti = .int .i64 k) (fun _ ti => n - (intOf ti).toNat)
  case atStart => exact ⟨0, 2166136261, by omega, by omega, F0.out, rfl, rfl⟩
  case round =>
    obtain ⟨k, s, hk, hs, HS, rfl, rfl⟩ := hrel
    by_cases hlt : k < n
    · obtain ⟨b, off, rfl, c1⟩ := row_at h.out hlt
      obtain ⟨x, Hx⟩ : ∃ x, Hid (l.getD k 0 = x) := ⟨_, rfl⟩
      have hx : x < 256 := by rw [← Hx.out]; exact getD_lt h.out.lt k
      rw [Hx.out] at c1
      obtain ⟨y, Hy⟩ : ∃ y, Hid (s ^^^ x = y) := ⟨_, rfl⟩
      have hy : y < 4294967296 := by rw [← Hy.out]; exact Nat.xor_lt_two_pow (n := 32) hs (by omega)
      have e1 : bits .xor .u64 (s : Int) (x : Int) = (y : Int) := by rw [u64_xor_nat s x (by omega) (by omega), Hy.out]
      obtain ⟨z, Hz⟩ : ∃ z, Hid (y * 16777619 % 4294967296 = z) := ⟨_, rfl⟩
      have hz : z < 4294967296 := by rw [← Hz.out]; exact Nat.mod_lt _ (by omega)
      have e2 : Int.tmod ((y : Int) * 16777619) 4294967296 = (z : Int) := by rw [Int.tmod_eq_emod_of_nonneg (by omega)]; have := Hz.out; omega
      have e3 : (y : Int) * 16777619 % 4294967296 = (z : Int) := by have := Hz.out; omega
      have F1 : Hid (fnv 2166136261 (l.take (k + 1)) = z) := by
        rw [take_succ_getD (by rw [← hE.out]; exact hlt), fnv_snoc, HS.out, Hx.out, stp, Hy.out]
        exact Hz.out
      clear hE HS Hx Hy Hz
      go_wp2
      go_round
      case rel => exact ⟨k + 1, z, by omega, hz, F1.out, by go_num, by go_num⟩
      case measure => simp [intOf]; omega
    · have ek : k = n := by omega
      have F1 : Hid (fsum l = s) := by
        rw [← HS.out, ek, hE.out, List.take_length]; rfl
      clear hE HS
      go_wp2
      go_ret
      exact ⟨by rw [F1.out]; rfl, rfl⟩
theorem own_empty (w : World) : Own (w.alloc (.cells #[] 5)) w.heap.size (some ⟨w.heap.size, 0, none⟩) 0 0 [] := ⟨rfl, World.ownsRow_made w #[] 0 (Nat.le_refl _) (by unfold maxLen; omega) (by simp), by simp⟩
set_option maxHeartbeats 1000000 in
theorem refseal_n {a : Option Addr} {n k : Nat} {l : List Nat} {w : World} (h : Hid (Sln w a n l)) (hk : Hid (a = none → k = 0)) (hn : n + 4 ≤ 140737488352256) :
    Calls Tryd.prog 31 #[.slice a n k] w fun e w' => ∃ a' N c', e = .returned (.slice a' N c') ∧ Hid (N = n + 4 ∧ Own w' w.heap.size a' N c' (sealL l) ∧ Below w.heap.size w w') := by
  have e := h.out.len
  have b1 : Below w.heap.size w (w.alloc (.cells #[] 5)) := (Below.refl _ _).alloc (Nat.le_refl _) _
  obtain ⟨a2, c2, w2, hrun, own2, gr2, new2⟩ := app_any (c2 := k) (own_empty w) (h.out.below b1) hk.out (by omega) (by simp)
  rw [Nat.zero_add] at hrun own2
  rw [List.nil_append] at own2
  have b2 : Below w.heap.size w w2 := b1.grown gr2 (by simp) (fun k e => by simp [blkOf] at e; omega)
  obtain ⟨s, Hs⟩ : ∃ s, Hid (fsum l = s) := ⟨_, rfl⟩
  have hs : s < 4294967296 := by rw [← Hs.out]; exact fsum_lt l
  obtain ⟨b3, H3⟩ : ∃ b3, b3 = s / 16777216 := ⟨_, rfl⟩
  obtain ⟨q2, H2⟩ : ∃ q2, q2 = s / 65536 := ⟨_, rfl⟩
  obtain ⟨b2', H2'⟩ : ∃ b2, b2 = q2 % 256 := ⟨_, rfl⟩
  obtain ⟨q1, H1⟩ : ∃ q1, q1 = s / 256 := ⟨_, rfl⟩
  obtain ⟨b1', H1'⟩ : ∃ b1, b1 = q1 % 256 := ⟨_, rfl⟩
  obtain ⟨b0, H0⟩ : ∃ b0, b0 = s % 256 := ⟨_, rfl⟩
  have e3 : (s : Int) / 16777216 = (b3 : Int) := by omega
  have e2 : (s : Int) / 65536 = (q2 : Int) := by omega
  have e2' : (q2 : Int) % 256 = (b2' : Int) := by omega
  have e1 : (s : Int) / 256 = (q1 : Int) := by omega
  have e1' : (q1 : Int) % 256 = (b1' : Int) := by omega
  have e0 : (s : Int) % 256 = (b0 : Int) := by omega
  have x3 : b3 < 256 := by omega
  have x2 : b2' < 256 := by omega
  have x1 : b1' < 256 := by omega
  have x0 : b0 < 256 := by omega
  have y2 : q2 < 65536 := by omega
  have y1 : q1 < 16777216 := by omega
  have EQ : Hid (be4 s = [b3, b2', b1', b0]) := by
    show be4 s = _
    unfold be4
    rw [H2', H1', H3, H2, H1, H0, Nat.mod_eq_of_lt (a := s / 16777216) (by omega)]
  have b3w : Below w.heap.size w (w2.alloc (four b3 b2' b1' b0)) := b2.alloc b2.size _
  have bm : Blk (w2.alloc (four b3 b2' b1' b0)) w2.heap.size [b3, b2', b1', b0] := by
    show (w2.heap.push _)[w2.heap.size]? = _
    simp [bv]
  have sm := bm.sln (by simp; omega) (by simp)
  have own3 : Own (w2.alloc (four b3 b2' b1' b0)) w.heap.size a2 n c2 l := ⟨own2.len, own2.own.alloc _, own2.lt⟩
  obtain ⟨a4, c4, w4, hrun4, own4, gr4, new4⟩ := app_any (c2 := 4) own3 sm (by simp) (by simp; omega) b3w.size
  simp only [List.length_cons, List.length_nil, Nat.zero_add, Nat.reduceAdd] at hrun4 own4
  have AP1 : Hid ((Builtin.append_ #[26, 26] 26 #[.slice (some ⟨w.heap.size, 0, none⟩) 0 0, .slice a n k]).run Tryd.prog (w.alloc (.cells #[] 5)) = .ok (.slice a2 n c2) w2) := hrun
  have AP2 : Hid ((Builtin.append_ #[26, 26] 26 #[.slice a2 n c2, .slice (some ⟨w2.heap.size, 0, none⟩) 4 4]).run Tryd.prog (w2.alloc (four b3 b2' b1' b0)) = .ok (.slice a4 (n + 4) c4) w4) := hrun4
  have FIN : Hid (Own w4 w.heap.size a4 (n + 4) c4 (sealL l) ∧ Below w.heap.size w w4) := by
    refine ⟨?_, b3w.grown gr4 b3w.size (fun j hj => (own3.ge j hj).1)⟩
    rw [sealL, Hs.out, EQ.out]
    exact own4
  clear hrun own2 gr2 new2 b1 b2 e H3 H2 H2' H1 H1' H0 b3w bm sm own3 hrun4 own4 gr4 new4 EQ
  go_enter Tryd.func31, Tryd.ntmps31
  go_wp2_with (first
    | (at_builtin; refine wpList_app (by rfl) (.tmp 6) (.tmp 7) (by rfl) (by rfl) (by rfl) (by rfl) AP1 ?_)
    | (at_builtin; refine wpList_app (by rfl) (.tmp 8) (.tmp 20) (by rfl) (by rfl) (by rfl) (by rfl) AP2 ?_)
    | (go_at_call 51; refine (refsum_n h).mono ?_; rintro e w9 ⟨rfl, h9⟩; rw [h9, Hs.out]; clear h9))
  go_ret
  exact ⟨a4, n + 4, c4, rfl, rfl, FIN.out⟩
end Go.Proofs.YtmkknklkdgkbaaaDoor
