/- The chapter's example (alive). -/
import Derived.Test.YtdfnjcjpblkmcaaDoorAj
namespace Go.Proofs.YtdfnjcjpblkmcaaDoor
open Go.ChangeShapes Go.WideShapes Go.ChangeAt Go.RowKit
set_option maxRecDepth 20000
set_option linter.unusedVariables false
set_option linter.unusedSimpArgs false
def cm1 : Cm := ⟨1, 0, 0, 0, ⟨#[]⟩, ⟨#[]⟩, 0, 0, 0, 0, 0, 0, 0, ⟨#[]⟩, 0, [], 0, 0⟩
def cx1 : Cx := ⟨cm1, none, 0, 0⟩
def s0 (n : Int) : As := ⟨n, 0, 0, 0, 0, 0, []⟩
theorem acc_new {w w' : World} {n : Int} (h : w' = w.alloc (.cells (accA (s0 n) none 0 0) 84)) : Acc w' 84 (w.heap.size + 1) w.heap.size (s0 n) none 0 0 [] ∧ Below w.heap.size w w' := by
  subst h
  exact ⟨⟨heap_alloc_new w _, Cms.nil _ _ _, fun _ => rfl, rfl, by omega⟩, alloc1 w _⟩
theorem cms_one {w : World} {lo g : Nat} {x : Cx} (h : w.heap[g]? = some (.cells (encX x).toArray 81 (0, 0))) (hlo : lo ≤ g) (hp : Irow w lo x.pa x.pn x.cm.ps) (hz : x.pa = none → x.pc = 0) (hs : x.cm.bu.size ≤ 281474976710656 ∧ x.cm.ke.size ≤ 281474976710656 ∧ x.cm.et.size ≤ 281474976710656) : Cms w lo (some ⟨g, 0, none⟩) 1 [x] := by
  refine ⟨rfl, by omega, .inr ⟨g, 0, rfl, hlo, (Array.getElem?_eq_some_iff.1 h).1, ?_⟩, fun y hy => ?_, fun y hy => ?_⟩
  · have := range_blk h
    simpa [flat] using this
  · obtain rfl := List.mem_singleton.1 hy
    exact ⟨hp, hz⟩
  · obtain rfl := List.mem_singleton.1 hy
    exact hs
set_option maxHeartbeats 4000000 in
theorem alive_n {M : Nat} {E : Nat → Addr} {w : World} (hE : Hid (Sent w M E)) (hM : 2 ≤ M) :
    Calls Tryd.prog 8 #[] w fun e w' => e = .returned (.bool true) ∧ Hid (Below w.heap.size w w') := by
  have k1 : Hid (prk (s0 3) 1 0 = 0 ∧ prA (s0 3) 1 0 = (0, 0) ∧ prS (s0 3) 1 0 = { s0 3 with pR := 1, pN := 0 }) := ⟨by decide, by decide, by simp [prS, show prk (s0 3) 1 0 = 0 by decide]⟩
  obtain ⟨s1, Hs1⟩ : ∃ s1 : As, Hid (({ s0 3 with pR := 1, pN := 0 } : As) = s1) := ⟨{ s0 3 with pR := 1, pN := 0 }, (rfl : _ = _)⟩
  have k2 : Hid (prk s1 1 0 = 0 ∧ acS s1 1 0 [cm1] = { s0 3 with pR := 1, pN := 0, aR := 1, aN := 0, L := [cm1] }) := by
    rw [← Hs1.out]
    refine ⟨by decide, ?_⟩
    simp [acS, show prk { s0 3 with pR := 1, pN := 0 } 1 0 = 0 by decide]
  obtain ⟨s2, Hs2⟩ : ∃ s2 : As, Hid (({ s0 3 with pR := 1, pN := 0, aR := 1, aN := 0, L := [cm1] } : As) = s2) := ⟨{ s0 3 with pR := 1, pN := 0, aR := 1, aN := 0, L := [cm1] }, (rfl : _ = _)⟩
  have k3 : Hid (prk s2 2 1 = 0 ∧ prA s2 2 1 = (1, 0) ∧ prL s2 2 1 = [cm1] ∧ prS s2 2 1 = { s2 with pR := 2, pN := 1 }) := by
    have h0 : prk s2 2 1 = 0 := by rw [← Hs2.out]; decide
    refine ⟨h0, ?_, ?_, prS_ok h0⟩
    · simp only [prA, h0, if_true]; rw [← Hs2.out]
    · simp only [prL, h0, if_true]; rw [← Hs2.out]
  obtain ⟨s3, Hs3⟩ : ∃ s3 : As, Hid (({ s2 with pR := 2, pN := 1 } : As) = s3) := ⟨{ s2 with pR := 2, pN := 1 }, (rfl : _ = _)⟩
  have k4 : Hid (prk s3 1 0 = 12) := by show _ = _; rw [← Hs3.out, ← Hs2.out]; decide
  rw [Hs1.out] at k1
  rw [Hs2.out] at k2
  rw [Hs3.out] at k3
  go_enter Tryd.func8, Tryd.ntmps8
  go_upto_region 4 with (go_at_call 9; refine (new_ok 3 (by decide)).mono ?_; rintro e w1 ⟨rfl, H1⟩)
  obtain ⟨g, Hg⟩ : ∃ g, Hid (w.heap.size = g) := ⟨_, rfl⟩
  have A1 : Hid (Acc w1 84 (g + 1) g (s0 3) none 0 0 []) := by rw [← Hg.out]; exact (acc_new H1.out).1
  have B1 : Hid (Below g w w1) := by rw [← Hg.out]; exact (acc_new H1.out).2
  have E1 : Hid (Sent w1 M E) := hE.out.below (by rw [Hg.out]; exact B1.out)
  rw [Hg.out]
  clear H1
  go_upto_region 5 with (go_at_call 15; refine (prepare_n A1 E1 hM 1 0).mono ?_; rintro e w2 ⟨a2, m2, c2, rfl, H2⟩; rw [k1.out.1, k1.out.2.1])
  have HE0 : Hid (errv E 0 = .nilIface) := (rfl : errv E 0 = .nilIface)
  rw [HE0.out]
  have C2 : Hid (Acc w2 84 (g + 1) g s1 none 0 0 [] ∧ Ch w1 w2 (fun q => q = g)) := by
    obtain ⟨Y, _, _, h1, h2⟩ := H2.out
    rw [k1.out.2.2] at h1
    exact ⟨h1, h2⟩
  clear H2
  obtain ⟨w3, Hw3⟩ : ∃ w3, Hid (w2.alloc (.cells #[.int .i64 0, .int .i64 0] 34) = w3) := ⟨_, rfl⟩
  rw [Hw3.out]
  have L3 : Hid (Below w2.heap.size w2 w3) := by rw [← Hw3.out]; exact alloc1 _ _
  obtain ⟨g4, Hg4⟩ : ∃ g4, Hid (w3.heap.size = g4) := ⟨_, rfl⟩
  obtain ⟨w4, Hw4⟩ : ∃ w4, Hid (w3.alloc (.cells (encX cx1).toArray 81) = w4) := ⟨_, rfl⟩
  have L4 : Hid (Below w3.heap.size w3 w4) := by rw [← Hw4.out]; exact alloc1 _ _
  have A4 : Hid (Acc w4 84 (g + 1) g s1 none 0 0 []) := (C2.out.1.below L3.out).below L4.out
  have C4 : Hid (Ch w1 w4 (fun q => q = g)) := (C2.out.2.trans (Ch.below L3.out)).trans (Ch.below L4.out)
  have gl : Hid (g < g4) := by have := C2.out.1.glt; have := L3.out.size; have := Hg4.out; show g < g4; omega
  have CL : Hid (Cms w4 0 (some ⟨g4, 0, none⟩) 1 [cx1]) := cms_one (by rw [← Hw4.out, ← Hg4.out]; exact heap_alloc_new w3 _) (by omega) ⟨rfl, by decide, .inl rfl⟩ (fun _ => rfl) (by decide)
  have BW : ∀ W, Ch w1 W (fun q => q = g) → Below g w W := fun W hc => B1.out.trans (hc.toBelow (by have := B1.out.size; have := Hg.out; omega) (fun k hk e => by omega))
  have E4 : Hid (Sent w4 M E) := hE.out.below (by rw [Hg.out]; exact BW w4 C4.out)
  have G4 : Hid (g + 1 ≤ w4.heap.size) := by have := A4.out.glt; show g + 1 ≤ _; omega
  have N4 : Hid (∀ q, fpc (some ⟨g4, 0, none⟩) 1 [cx1] q → q ≠ g) := fun q hq => by
    rcases hq with ⟨_, h⟩ | ⟨x, hx, h0, h⟩
    · have h2 : g4 = q := by simpa [blkOf] using h
      have := gl.out
      omega
    · obtain rfl := List.mem_singleton.1 hx
      cases h0
  go_upto_region 6 with (go_at_call 16; simp only [show #[Value.int .i64 1, .int .i64 0, .int .i64 0, .int .i64 0, .string ⟨#[]⟩, .string ⟨#[]⟩, .int .i64 0, .int .i64 0, .int .i64 0, .int .i64 0, .int .i64 0, .int .i64 0, .int .i64 0, .string ⟨#[]⟩, .int .i64 0, .slice none 0 0, .int .i64 0, .int .i64 0] = (encX cx1).toArray from rfl]; rw [Hg4.out, Hw4.out]; refine (accept_n A4 E4 hM 1 0 CL (show Hid _ from fun h => by cases h) G4 N4).mono ?_; rintro e w5 ⟨rfl, H5⟩; rw [k2.out.1, HE0.out])
  obtain ⟨a5, m5, c5, X5, HA5, _, HC5⟩ := H5.out
  have A5 : Hid (Acc w5 84 (g + 1) g s2 a5 m5 c5 X5) := by
    have h := HA5
    have e : led [cx1] = [cm1] := rfl
    rw [e, k2.out.2] at h
    exact h
  have C5 : Hid (Ch w1 w5 (fun q => q = g)) := C4.out.trans HC5
  have E5 : Hid (Sent w5 M E) := hE.out.below (by rw [Hg.out]; exact BW w5 C5.out)
  clear HA5 HC5 H5
  go_upto_region 7 with (go_at_call 15; refine (prepare_n A5 E5 hM 2 1).mono ?_; rintro e w6 ⟨a6, m6, c6, rfl, H6⟩; rw [k3.out.1, k3.out.2.1, HE0.out])
  obtain ⟨Y6, hl6, ho6, HA6, HC6⟩ := H6.out
  have m1 : m6 = 1 := by
    have h1 := ho6.len
    have h2 := congrArg List.length hl6
    rw [k3.out.2.2.1] at h2
    simp [led] at h2
    omega
  subst m1
  rw [k3.out.2.2.2] at HA6
  obtain ⟨w7, Hw7⟩ : ∃ w7, Hid (w6.alloc (.cells #[.int .i64 1, .int .i64 0] 34) = w7) := ⟨_, rfl⟩
  obtain ⟨g7, Hg7⟩ : ∃ g7, Hid (w6.heap.size = g7) := ⟨_, rfl⟩
  have L7 : Below w6.heap.size w6 w7 := by rw [← Hw7.out]; exact alloc1 _ _
  have A7 : Hid (Acc w7 84 (g + 1) g s3 a5 m5 c5 X5) := HA6.below L7
  have C7 : Hid (Ch w1 w7 (fun q => q = g)) := (C5.out.trans HC6).trans (Ch.below L7)
  have E7 : Hid (Sent w7 M E) := hE.out.below (by rw [Hg.out]; exact BW w7 C7.out)
  have k7 : Hid (w7.heap[g7]? = some (.cells #[.int .i64 1, .int .i64 0] 34 (0, 0))) := by show _ = _; rw [← Hw7.out, ← Hg7.out]; exact heap_alloc_new _ _
  have gl7 : Hid (g < g7) := by have := HA6.glt; have := Hg7.out; show g < g7; omega
  have G7 : Hid (g + 1 ≤ w7.heap.size) := by have := A7.out.glt; show g + 1 ≤ _; omega
  rw [Hw7.out, Hg7.out]
  clear H6 hl6 ho6 HA6 HC6 L7
  go_wp2_with (first
    | (go_at_call 16; refine (accept_n A7 E7 hM 1 0 (lo := 0) (XL := []) (show Hid _ from Cms.nil w7 0 none) (show Hid _ from fun _ => rfl) G7 (show Hid _ from fun q hq => by rcases hq with ⟨h, _⟩ | ⟨x, hx, _⟩; cases h; cases hx)).mono ?_; rintro e w8 ⟨rfl, H8⟩; rw [k4.out]
       have HE12 : errv E 12 = .iface 102 (.pointer (some (E 1))) := rfl
       rw [HE12]
       have C8 : Hid (Ch w1 w8 (fun q => q = g)) := by obtain ⟨a8, m8, c8, X8, _, _, h⟩ := H8.out; exact C7.out.trans h
       have k8 : w8.heap[g7]? = some (.cells #[.int .i64 1, .int .i64 0] 34 (0, 0)) := by obtain ⟨a8, m8, c8, X8, _, _, h⟩ := H8.out; exact (h.block g7 (Array.getElem?_eq_some_iff.1 k7.out).1 (by have := gl7.out; omega)).trans k7.out
       have x7 : w8.cell? ⟨g7, 0, none⟩ = some (.int .i64 1) := by simp [World.cell?, k8]
       have E8 : Sent w8 M E := hE.out.below (by rw [Hg.out]; exact BW w8 C8.out)
       have y1 : w8.cell? ⟨1, 0, none⟩ = some (.iface 102 (.pointer (some (E 1)))) := E8.c 1 (by omega)
       have eq := eql_same w8 (E 1)
       clear k8 E8)
    | (go_at_call 13; refine (half_n (n := 4) (by decide) (by decide) _).mono ?_; rintro e w9 ⟨rfl, h9⟩; rw [h9]; clear h9))
  go_ret
  refine ⟨rfl, ?_⟩
  rw [Hg.out]
  exact BW w8 C8.out
end Go.Proofs.YtdfnjcjpblkmcaaDoor
