/- What Decode and Rebuild of package rs do on k shards of a blob: they give its bytes, and each of its shards. -/
import Derived.Test.YtokkjdgfhpocdaaDoorEk
import Derived.Test.YtokkjdgfhpocdaaDoorMe
namespace Go.Proofs.YtokkjdgfhpocdaaDoor
open Go.ChangeShapes Go.WideShapes Go.ChangeAt Go.RowKit
set_option linter.unusedVariables false
set_option linter.unusedSimpArgs false
/- a list of k shards of that blob, each with a number of its own -/
structure Of (w : World) (a : Option Addr) (k m n : Nat) (L : List (Int × List Nat)) (data : List Nat) : Prop where
  shd : Shd w a k L
  good : GoodL (k + m) (sz k n) L
  of : ∀ i, i < k → by_ L i = shard k (sz k n) data (nu L i).toNat
theorem Of.below {w w' : World} {a : Option Addr} {k m n : Nat} {L : List (Int × List Nat)} {data : List Nat} (h : Of w a k m n L data) (hb : Below w.heap.size w w') : Of w' a k m n L data := ⟨h.shd.below hb, h.good, h.of⟩
theorem decode_data (k m n c : Nat) (a : Option Addr) (L : List (Int × List Nat)) (data : List Nat) (w : World) (h1 : 1 ≤ m) (h2 : m ≤ k) (h3 : k + m ≤ 16) (hn : n ≤ 1024) (hd : Hid (n = data.length)) (hb : Hid (∀ x ∈ data, x < 256)) (O : Hid (Of w a k m n L data)) :
    Calls Tryd.prog 22 #[.int .i64 (k : Int), .int .i64 (m : Int), .int .i64 (n : Int), .slice a k c] w fun e w' => ∃ g, e = .returned (.tuple #[.slice (some ⟨g, 0, none⟩) n n, .nilIface]) ∧ Hid (w.heap.size ≤ g ∧ Blk w' g data ∧ Below w.heap.size w w') := by
  have h := decode_good k m n k c a L w h1 h2 h3 hn rfl O.out.shd O.out.good
  rw [decoded k (k + m) n L data (by omega) (by omega) h3 O.out.shd.len.symm hd.out O.out.good hb.out O.out.of] at h
  exact h
set_option maxRecDepth 20000 in
set_option maxHeartbeats 1000000 in
theorem rebuild_data (k m n c x : Nat) (a : Option Addr) (L : List (Int × List Nat)) (data : List Nat) (w : World) (h1 : 1 ≤ m) (h2 : m ≤ k) (h3 : k + m ≤ 16) (hn : n ≤ 1024) (hx : x < k + m) (hd : Hid (n = data.length)) (hb : Hid (∀ x ∈ data, x < 256)) (O : Hid (Of w a k m n L data)) :
    Calls Tryd.prog 23 #[.int .i64 (k : Int), .int .i64 (m : Int), .int .i64 (n : Int), .slice a k c, .int .i64 (x : Int)] w fun e w' => ∃ b s, e = .returned (.tuple #[.slice (some ⟨b, 0, none⟩) s s, .nilIface]) ∧ Hid (s = sz k n ∧ w.heap.size ≤ b ∧ Blk w' b (shard k (sz k n) data x) ∧ Below w.heap.size w w') := by
  obtain ⟨s, Hs⟩ : ∃ s, Hid (sz k n = s) := ⟨_, rfl⟩
  have hm : n ≤ 140737488351232 := by omega
  have i2 : (x : Int) < (k : Int) + (m : Int) := by omega
  have i3 : (x : Int) < ((k + m : Nat) : Int) := by omega
  go_enter Tryd.func23, Tryd.ntmps23
  go_wp2_with (first | (go_at_call 10; refine (check_ok k m h1 h2 h3 _).mono ?_; rintro e w0 ⟨rfl, h0⟩; rw [h0]; clear h0) | (go_at_call 35; refine (isShard_t k m x hx h3 _).mono ?_; rintro e w0 ⟨rfl, h0⟩; rw [h0]; clear h0) | (go_at_call 22; refine (decode_data k m n c a L data _ h1 h2 h3 hn hd hb O).mono ?_; rintro e w1 ⟨g1, rfl, H1⟩; have S1 : Hid (Sln w1 (some ⟨g1, 0, none⟩) n data) := ⟨hd.out, H1.out.2.1.sli hb.out (by rw [← hd.out]; exact hm)⟩) | (go_at_call 16; refine (encode_ok k m n n (some ⟨g1, 0, none⟩) data _ h1 h2 h3 hn S1 (Nat.le_refl _) hm).mono ?_; rintro e w2 ⟨g2, bs, cap, rfl, H2⟩; obtain ⟨b, cb, B2⟩ := (own_lst H2.out.own H2.out.shs).c x (by simp [shards]; exact hx); have BB : Hid (Blk w2 b ((shards k m data).getD x [])) := B2; rw [← hd.out, Hs.out] at cb; clear B2))
  go_ret2
  refine ⟨b, s, rfl, Hs.out.symm, ?_, ?_, ?_⟩
  · have z1 := H1.out.2.2.size
    have hmem : b ∈ bs := by
      have hl := H2.out.shs.len
      have hxl : x < bs.length := by rw [hl]; simp [shards]; exact hx
      have hc := H2.out.own.cells (g := g2) rfl x (sv (sz k data.length) (bs.getD x 0)) (by
        rw [List.getElem?_map, List.getElem?_eq_getElem hxl]
        simp [List.getD, hxl])
      have h4 : (⟨g2, 0, none⟩ : Addr).add x = ⟨g2, x, none⟩ := by
        by_cases hi0 : x = 0
        · subst hi0; simp [Addr.add]
        · simp [Addr.add, hi0]
      rw [h4, cb] at hc
      simp at hc
      rw [hc.1]
      have e : bs.getD x 0 = bs[x] := by simp [List.getD, hxl]
      simp only [List.getD] at e
      rw [e]
      exact List.getElem_mem hxl
    exact Nat.le_trans z1 (H2.out.new b hmem)
  · have h := BB.out
    have e : (shards k m data).getD x [] = shard k (sz k data.length) data x := by simp [shards, List.getD, hx]
    rw [e, ← hd.out] at h
    exact h
  · exact H1.out.2.2.trans (H2.out.bel.mono H1.out.2.2.size)
end Go.Proofs.YtokkjdgfhpocdaaDoor
