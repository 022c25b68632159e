/- The mac laws' own 'alive' answers true: the known code begins as it should. -/
import Derived.Test.YthkoidfjmbfoiaaDoorMc
namespace Go.Proofs.YthkoidfjmbfoiaaDoor
open Go.ChangeShapes Go.WideShapes Go.ChangeAt Go.RowKit
set_option linter.unusedVariables false
set_option linter.unusedSimpArgs false
/- the bytes l, laid by a text's constant: what lies behind is frozen -/
theorem const_sln (w : World) (l : List Nat) (f : Nat × Nat) (h1 : ∀ x ∈ l, x < 256) (h2 : l.length ≤ 140737488352256) : Sln (w.alloc (.cells (l.map bv).toArray 5 f)) (some ⟨w.heap.size, 0, none⟩) l.length l := by
  have hb : (w.alloc (.cells (l.map bv).toArray 5 f)).heap[w.heap.size]? = some (.cells (l.map bv).toArray 5 f) := heap_alloc_new w _
  refine ⟨rfl, h1, h2, .inr ⟨w.heap.size, 0, rfl, by simp, fun i hi => ?_⟩⟩
  rw [Nat.zero_add]
  unfold World.cell?
  rw [hb]
  simp [hi, bv]
def keyL : List Nat := [107, 101, 121]
theorem conv_key (w : World) : (convert 22 22 (.slice (some ⟨w.heap.size, 0, none⟩) 3 3)).run Tryd.prog (w.alloc (.cells #[.int .u8 107, .int .u8 101, .int .u8 121] 5)) = .ok (.slice (some ⟨w.heap.size, 0, none⟩) 3 3) (w.alloc (.cells (keyL.map bv).toArray 5 (3, 4))) := Lib.run_convert_bytes_const w 22 5 _ 3 3 Tryd.underlying22 Tryd.underlying5
theorem conv_fox (w : World) (o : Obj) : (convert 22 22 (.slice (some ⟨w.heap.size + 1, 0, none⟩) 43 43)).run Tryd.prog ((w.alloc o).alloc (.cells #[.int .u8 84, .int .u8 104, .int .u8 101, .int .u8 32, .int .u8 113, .int .u8 117, .int .u8 105, .int .u8 99, .int .u8 107, .int .u8 32, .int .u8 98, .int .u8 114, .int .u8 111, .int .u8 119, .int .u8 110, .int .u8 32, .int .u8 102, .int .u8 111, .int .u8 120, .int .u8 32, .int .u8 106, .int .u8 117, .int .u8 109, .int .u8 112, .int .u8 115, .int .u8 32, .int .u8 111, .int .u8 118, .int .u8 101, .int .u8 114, .int .u8 32, .int .u8 116, .int .u8 104, .int .u8 101, .int .u8 32, .int .u8 108, .int .u8 97, .int .u8 122, .int .u8 121, .int .u8 32, .int .u8 100, .int .u8 111, .int .u8 103] 5)) = .ok (.slice (some ⟨w.heap.size + 1, 0, none⟩) 43 43) ((w.alloc o).alloc (.cells (Gs.fox.map bv).toArray 5 (43, 44))) := by
  have h := Lib.run_convert_bytes_const (P := Tryd.prog) (w.alloc o) 22 5 (Gs.fox.map bv).toArray 43 43 Tryd.underlying22 Tryd.underlying5
  rw [show (w.alloc o).heap.size = w.heap.size + 1 from by simp] at h
  exact h
set_option maxRecDepth 20000 in
set_option maxHeartbeats 1000000 in
theorem malive_n (w : World) (hKs : Hid (Kst w)) (h0 : Hid (0 < w.heap.size)) : Calls Tryd.prog 14 #[] w fun e w' => e = .returned (.bool true) ∧ Hid (Below w.heap.size w w') := by
  have CV := conv_key w
  have CW := conv_fox w (.cells (keyL.map bv).toArray 5 (3, 4))
  obtain ⟨w2, W2⟩ : ∃ w2, Hid ((w.alloc (.cells (keyL.map bv).toArray 5 (3, 4))).alloc (.cells (Gs.fox.map bv).toArray 5 (43, 44)) = w2) := ⟨_, rfl⟩
  have z1 : (w.alloc (.cells (keyL.map bv).toArray 5 (3, 4))).heap.size = w.heap.size + 1 := by simp
  have SM : Hid (Sln w2 (some ⟨w.heap.size + 1, 0, none⟩) 43 Gs.fox) := by
    have h := const_sln (w.alloc (.cells (keyL.map bv).toArray 5 (3, 4))) Gs.fox (43, 44) (by decide) (by decide)
    rw [z1, W2.out] at h
    exact h
  have SK : Hid (Sln w2 (some ⟨w.heap.size, 0, none⟩) 3 keyL) := by
    have h := const_sln w keyL (3, 4) (by decide) (by decide)
    have b : Below (w.alloc (.cells (keyL.map bv).toArray 5 (3, 4))).heap.size (w.alloc (.cells (keyL.map bv).toArray 5 (3, 4))) w2 := by rw [← W2.out]; exact (Below.refl _ _).alloc (Nat.le_refl _) _
    exact h.below b
  have B2 : Hid (Below w.heap.size w w2) := by rw [← W2.out]; exact below2 w _ _
  have T2 : Hid (Kst w2) := hKs.out.below B2.out h0.out
  have Z2 : Hid (0 < w2.heap.size) := Nat.lt_of_lt_of_le h0.out B2.out.size
  clear z1
  go_enter Tryd.func14, Tryd.ntmps14
  go_upto_region 2 with (first
    | (go_at_call 15; refine (show _ = w2 from W2.out) ▸ ?_; refine (macsum_n SK (Nat.le_refl _) SM (Nat.le_refl _) T2 Z2).mono ?_; rintro e w3 ⟨d, rfl, H3⟩
       clear CV CW
       have L3 : Hid (d.length = 32) := by rw [H3.out.1]; exact mac_length _ _
       have N3 : Hid (Arr .u8 25 (w3.alloc (.cells (cs .u8 Zb32) 25)) w3.heap.size Zb32) := Arr.new w3 .u8 25 Zb32
       obtain ⟨w4, W4⟩ : ∃ w4, Hid ((w3.alloc (.cells (cs .u8 Zb32) 25)).setRow w3.heap.size (cs .u8 d) = w4) := ⟨_, rfl⟩
       have A4 : Hid (Arr .u8 25 w4 w3.heap.size d) := by rw [← W4.out]; exact N3.out.setRow d
       have B3 : Hid (Below w.heap.size w w3) := B2.out.trans (H3.out.2.mono B2.out.size)
       have B4 : Hid (Below w.heap.size w w4) := by rw [← W4.out]; exact (Oth.setRow _).below (B3.out.alloc B3.out.size _) B3.out.size)
    | (refine wpList_st0 (t := 25) (l := Zb32) (l2 := d) (by rfl) (by rfl) 25 (.tmp 1) (.tmp 6) (by rfl) (by rfl) (by rfl) N3 (by rw [L3.out]; exact sz25) (by rw [L3.out]; rfl) ?_; refine (show _ = w4 from W4.out) ▸ ?_))
  have F := Gs.fox_mac
  have c0 : w4.cell? ⟨w3.heap.size, 0, none⟩ = some (.int .u8 247) := by
    have h := A4.out.cell (i := 0) (by rw [L3.out]; omega)
    rw [show d.getD 0 0 = 247 from by rw [H3.out.1]; exact F.1] at h
    exact h
  have c1 : w4.cell? ⟨w3.heap.size, 1, none⟩ = some (.int .u8 188) := by
    have h := A4.out.cell (i := 1) (by rw [L3.out]; omega)
    rw [show d.getD 1 0 = 188 from by rw [H3.out.1]; exact F.2.1] at h
    exact h
  have c31 : w4.cell? ⟨w3.heap.size, 31, none⟩ = some (.int .u8 216) := by
    have h := A4.out.cell (i := 31) (by rw [L3.out]; omega)
    rw [show d.getD 31 0 = 216 from by rw [H3.out.1]; exact F.2.2] at h
    exact h
  clear F
  go_wp2
  go_ret
  exact ⟨rfl, B4.out⟩
end Go.Proofs.YthkoidfjmbfoiaaDoor
