/- What the function alive of the laws does: it returns true and changes nothing that was there. -/
import Derived.Test.YtokkjdgfhpocdaaDoorEh
namespace Go.Proofs.YtokkjdgfhpocdaaDoor
open Go.ChangeShapes Go.WideShapes Go.ChangeAt Go.RowKit
set_option linter.unusedVariables false
set_option linter.unusedSimpArgs false
set_option linter.unnecessarySimpa false
def dat : List Nat := [5, 7, 9]
def LL : List (Int × List Nat) := [(2, shard 2 2 dat 2), (0, shard 2 2 dat 0)]
theorem sz23 : sz 2 3 = 2 := by decide
theorem sh0 : (shards 2 1 dat).getD 0 [] = shard 2 2 dat 0 := by decide +kernel
theorem sh2 : (shards 2 1 dat).getD 2 [] = shard 2 2 dat 2 := by decide +kernel
theorem LL_good : GoodL 3 2 LL := by
  intro i hi
  have h2 : i = 0 ∨ i = 1 := by simp [LL] at hi; omega
  rcases h2 with rfl | rfl
  · refine ⟨by decide, by decide +kernel, fun j hj => by omega⟩
  · refine ⟨by decide, by decide +kernel, fun j hj => ?_⟩
    obtain rfl : j = 0 := by omega
    decide
theorem LL_full : ∀ i, i < 2 → (elim 2 LL).getD i [] ≠ [] := by decide +kernel
theorem LL_back : jn (solved 2 LL) 3 2 = dat := by decide +kernel
theorem alive_encode (q : Nat) (w : World) (hB : Blk w q dat) :
    Calls Tryd.prog 16 #[.int .i64 2, .int .i64 1, .slice (some ⟨q, 0, none⟩) 3 3] w fun e w' => ∃ g b0 b2 cap, e = .returned (.tuple #[.slice (some ⟨g, 0, none⟩) 3 cap, .nilIface]) ∧ w'.cell? ⟨g, 0, none⟩ = some (.slice (some ⟨b0, 0, none⟩) 2 2) ∧ w'.cell? ⟨g, 2, none⟩ = some (.slice (some ⟨b2, 0, none⟩) 2 2) ∧ Hid (Blk w' b0 (shard 2 2 dat 0) ∧ Blk w' b2 (shard 2 2 dat 2) ∧ Below w.heap.size w w') := by
  have S : Hid (Sln w (some ⟨q, 0, none⟩) 3 dat) := hB.sln (by decide) (by decide)
  refine (encode_ok 2 1 3 3 (some ⟨q, 0, none⟩) dat w (by omega) (by omega) (by omega) (by omega) S (by omega) (by omega)).mono ?_
  rintro e w' ⟨g, bs, cap, rfl, hE⟩
  have hl := own_lst hE.out.own hE.out.shs
  have e3 : sz 2 dat.length = 2 := by decide
  have ls : (shards 2 1 dat).length = 3 := by decide +kernel
  rw [e3] at hl
  obtain ⟨b0, c0, B0⟩ := hl.c 0 (by omega)
  obtain ⟨b2, c2, B2⟩ := hl.c 2 (by omega)
  rw [sh0] at B0
  rw [sh2] at B2
  exact ⟨g, b0, b2, cap, rfl, c0, c2, B0, B2, hE.out.bel⟩
theorem alive_shd (w : World) (b0 b2 : Nat) (B0 : Blk w b0 (shard 2 2 dat 0)) (B2 : Blk w b2 (shard 2 2 dat 2)) :
    Shd (w.alloc (.cells #[.int .i64 2, .slice (some ⟨b2, 0, none⟩) 2 2, .int .i64 0, .slice (some ⟨b0, 0, none⟩) 2 2] 54)) (some ⟨w.heap.size, 0, none⟩) 2 LL := by
  have hb : Below w.heap.size w (w.alloc (.cells #[.int .i64 2, .slice (some ⟨b2, 0, none⟩) 2 2, .int .i64 0, .slice (some ⟨b0, 0, none⟩) 2 2] 54)) := (Below.refl _ _).alloc (Nat.le_refl _) _
  have l0 : (shard 2 2 dat 0).length = 2 := shard_length _ _ _ _
  have l2 : (shard 2 2 dat 2).length = 2 := shard_length _ _ _ _
  have s0 : Sln w (some ⟨b0, 0, none⟩) 2 (shard 2 2 dat 0) := ⟨l0.symm, B0.sli (by decide +kernel) (by omega)⟩
  have s2 : Sln w (some ⟨b2, 0, none⟩) 2 (shard 2 2 dat 2) := ⟨l2.symm, B2.sli (by decide +kernel) (by omega)⟩
  refine ⟨rfl, by omega, .inr ⟨w.heap.size, 0, rfl, fun i hi => ?_⟩, fun i hi => ?_⟩
  · have h2 : i = 0 ∨ i = 1 := by omega
    rcases h2 with rfl | rfl
    · exact ⟨by simp [nu, LL], some ⟨b2, 0, none⟩, 2, 2, by simp, by simpa [by_, LL] using s2.below hb, by omega, by omega, fun h => (by cases h)⟩
    · exact ⟨by simp [nu, LL], some ⟨b0, 0, none⟩, 2, 2, by simp, by simpa [by_, LL] using s0.below hb, by omega, by omega, fun h => (by cases h)⟩
  · have h2 : i = 0 ∨ i = 1 := by omega
    rcases h2 with rfl | rfl <;> decide
theorem alive_shd' (w : World) (b0 b2 : Nat) (B0 : Blk w b0 (shard 2 2 dat 0)) (B2 : Blk w b2 (shard 2 2 dat 2)) :
    Hid (Shd (w.alloc (.cells #[.int .i64 2, .slice (some ⟨b2, 0, none⟩) 2 2, .int .i64 0, .slice (some ⟨b0, 0, none⟩) 2 2] 54)).drew (some ⟨w.heap.size, 0, none⟩) 2 LL) :=
  (alive_shd w b0 b2 B0 B2).below (Below.refl _ _).drew
theorem alive_decode (a : Option Addr) (w : World) (S : Hid (Shd w a 2 LL)) :
    Calls Tryd.prog 22 #[.int .i64 2, .int .i64 1, .int .i64 3, .slice a 2 2] w fun e w' => ∃ g, e = .returned (.tuple #[.slice (some ⟨g, 0, none⟩) 3 3, .nilIface]) ∧ Hid (Blk w' g dat ∧ Below w.heap.size w w') := by
  refine (decode_ok 2 1 3 2 2 a LL w (by omega) (by omega) (by omega) (by omega) rfl S (by rw [sz23]; exact LL_good) LL_full).mono ?_
  rintro e w' ⟨g, rfl, H⟩
  have h := H.out
  rw [LL_back] at h
  exact ⟨g, rfl, h.2.1, h.2.2⟩
set_option maxRecDepth 20000 in
set_option maxHeartbeats 2000000 in
theorem alive_any (w : World) : Calls Tryd.prog 9 #[] w fun e w' => e = .returned (.bool true) ∧ Hid (Below w.heap.size w w') := by
  have B0 : Blk (w.alloc (.cells #[.int .u8 5, .int .u8 7, .int .u8 9] 5)) w.heap.size dat := by
    show (w.heap.push _)[w.heap.size]? = _
    simp [dat, bv]
  have L0 : Hid (Below w.heap.size w (w.alloc (.cells #[.int .u8 5, .int .u8 7, .int .u8 9] 5))) := (Below.refl _ _).alloc (Nat.le_refl _) _
  go_enter Tryd.func9, Tryd.ntmps9
  go_wp2_with (go_at_call 16; refine (alive_encode _ _ B0).mono ?_; rintro e w1 ⟨g, b0, b2, cap, rfl, c0, c2, H1⟩)
  have L1 : Hid (Below w.heap.size w w1) := L0.out.trans (H1.out.2.2.mono L0.out.size)
  clear B0 L0
  go_region_with (go_at_call 22; refine (alive_decode (some ⟨w1.heap.size, 0, none⟩) _ (alive_shd' w1 b0 b2 H1.out.1 H1.out.2.1)).mono ?_; rintro e w2 ⟨g2, rfl, H2⟩)
  all_goals
    have L2 : Hid (Below w.heap.size w w2) := by
      have l1 : Below w.heap.size w ((w1.alloc (.cells #[.int .i64 2, .slice (some ⟨b2, 0, none⟩) 2 2, .int .i64 0, .slice (some ⟨b0, 0, none⟩) 2 2] 54)).drew) := (L1.out.alloc L1.out.size _).drew
      exact l1.trans (H2.out.2.mono l1.size)
    have SD : Hid (Sln w2 (some ⟨g2, 0, none⟩) 3 dat) := H2.out.1.sln (by decide) (by decide)
    have B5 : Hid (Sln (w2.alloc (.cells #[.int .u8 5, .int .u8 7, .int .u8 9] 5)) (some ⟨w2.heap.size, 0, none⟩) 3 dat) := by
      have h : Blk (w2.alloc (.cells #[.int .u8 5, .int .u8 7, .int .u8 9] 5)) w2.heap.size dat := by
        show (w2.heap.push _)[w2.heap.size]? = _
        simp [dat, bv]
      exact h.sln (by decide) (by decide)
    have cv1 := conv_n (k := 3) SD
    have cv2 := conv_n (k := 3) B5
    have L3 : Hid (Below w.heap.size w (w2.alloc (.cells #[.int .u8 5, .int .u8 7, .int .u8 9] 5))) := L2.out.alloc L2.out.size _
    clear SD B5 L2 H2 L1 H1 c0 c2
    go_wp2
    go_ret
    exact ⟨rfl, L3.out⟩
end Go.Proofs.YtokkjdgfhpocdaaDoor
