/- What Decode of package rs does, for all numbers and lists of shards: the bytes of any k shards with numbers of their own, or the error that the chapter tells. -/
import Derived.Test.YtokkjdgfhpocdaaDoorEi
import Derived.Test.YtokkjdgfhpocdaaDoorMc
namespace Go.Proofs.YtokkjdgfhpocdaaDoor
open Go.ChangeShapes Go.WideShapes Go.ChangeAt Go.RowKit
set_option linter.unusedVariables false
set_option linter.unusedSimpArgs false
theorem Shd.bytes {w : World} {a : Option Addr} {n : Nat} {L : List (Int × List Nat)} (h : Shd w a n L) (i : Nat) (hi : i < n) : ∀ x ∈ by_ L i, x < 256 := by
  rcases h.at_ with h0 | ⟨b, off, _, h2⟩
  · omega
  · obtain ⟨_, a', m, c, _, s, _⟩ := h2 i hi
    exact s.lt
theorem full_of {k m n : Nat} {w : World} {a : Option Addr} {L : List (Int × List Nat)} (h1 : 1 ≤ m) (h2 : m ≤ k) (h3 : k + m ≤ 16) (S : Hid (Shd w a k L)) (G : Hid (GoodL (k + m) (sz k n) L)) : ∀ i, i < k → (elim k L).getD i [] ≠ [] :=
  elim_full k (k + m) (sz k n) L (by omega) (by omega) h3 S.out.len.symm G.out (fun i hi => S.out.bytes i hi)
theorem decode_good (k m n nl c : Nat) (a : Option Addr) (L : List (Int × List Nat)) (w : World) (h1 : 1 ≤ m) (h2 : m ≤ k) (h3 : k + m ≤ 16) (hn : n ≤ 1024) (hnl : nl = k) (S : Hid (Shd w a nl L)) (G : Hid (GoodL (k + m) (sz k n) L)) :
    Calls Tryd.prog 22 #[.int .i64 (k : Int), .int .i64 (m : Int), .int .i64 (n : Int), .slice a nl c] w fun e w' => ∃ g, e = .returned (.tuple #[.slice (some ⟨g, 0, none⟩) n n, .nilIface]) ∧ Hid (w.heap.size ≤ g ∧ Blk w' g (jn (solved k L) n k) ∧ Below w.heap.size w w') :=
  decode_ok k m n nl c a L w h1 h2 h3 hn hnl S G (full_of h1 h2 h3 (by subst hnl; exact S) G)
theorem decode_num (k m n : Int) (nl c : Nat) (a : Option Addr) (hk : (Lit.int .i64 k).wf = true) (hm : (Lit.int .i64 m).wf = true) (hn : (Lit.int .i64 n).wf = true) (j : Nat) (h : errNo k m n = j + 1) (w : World) (E : Nat → Addr) (hE : Hid (Errs w E)) :
    Calls Tryd.prog 22 #[.int .i64 k, .int .i64 m, .int .i64 n, .slice a nl c] w fun e w' => e = .returned (.tuple #[.slice none 0 0, .iface 84 (.pointer (some (E j)))]) ∧ Hid (∃ q, w' = w.drewN q) := by
  have SB : Hid (∀ w, Hid (Errs w E) → Calls Tryd.prog 12 #[.int .i64 k, .int .i64 m, .int .i64 n] w fun e w' => e = .returned (.tuple #[.int .i64 (0 : Int), .iface 84 (.pointer (some (E j)))]) ∧ Hid (∃ q, w' = w.drewN q)) := by
    intro w hE
    have h0 := size_bad k m n hk hm hn (by omega) w E hE
    rw [h] at h0
    exact h0
  clear h
  go_enter Tryd.func22, Tryd.ntmps22
  go_wp2_with (go_at_call 12; refine (SB.out _ hE).mono ?_; rintro e w1 ⟨rfl, H1⟩)
  go_ret2
  exact ⟨rfl, H1.out⟩
set_option maxHeartbeats 1000000 in
theorem decode_list (k m n nl c : Nat) (a : Option Addr) (L : List (Int × List Nat)) (w : World) (h1 : 1 ≤ m) (h2 : m ≤ k) (h3 : k + m ≤ 16) (hn : n ≤ 1024) (S : Hid (Shd w a nl L)) (G : Hid (¬ (nl = k ∧ GoodL (k + m) (sz k n) L))) (E : Nat → Addr) (hE : Hid (Errs w E)) :
    Calls Tryd.prog 22 #[.int .i64 (k : Int), .int .i64 (m : Int), .int .i64 (n : Int), .slice a nl c] w fun e w' => e = .returned (.tuple #[.slice none 0 0, .iface 84 (.pointer (some (E 1)))]) ∧ Hid (Below w.heap.size w w') := by
  have hs := sz_le k n (by omega) (by omega) hn
  obtain ⟨s, Hs⟩ : ∃ s, Hid (sz k n = s) := ⟨_, rfl⟩
  rw [Hs.out] at hs G
  go_enter Tryd.func22, Tryd.ntmps22
  go_wp2_with (first | (go_at_call 12; refine (size_s k m n s h1 h2 h3 hn Hs _).mono ?_; rintro e w0 ⟨rfl, h0⟩; rw [h0]; clear h0) | (go_at_call 32; refine (enough_any k m s nl c a L _ (by omega) h3 (by omega) S).mono ?_; rintro e w1 ⟨r, rfl, H1⟩; have hr : r = false := (by cases r with | false => rfl | true => exact absurd (H1.out.1.1 rfl) G.out); subst hr))
  have E1 : Hid (Errs w1 E) := hE.out.below H1.out.2
  have B1 : Hid (Below w.heap.size w w1) := H1.out.2
  have c1 := E1.out.c 1 (by omega)
  unfold er at c1
  clear H1 G
  go_quiet (fail)
  go_wp2
  go_ret2
  exact ⟨rfl, below_drewN B1.out _⟩
end Go.Proofs.YtokkjdgfhpocdaaDoor
