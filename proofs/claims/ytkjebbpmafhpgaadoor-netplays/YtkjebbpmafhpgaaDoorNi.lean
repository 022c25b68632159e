/- alive (f6). -/
import Derived.Test.YtkjebbpmafhpgaaDoorNg
import Derived.Test.YtkjebbpmafhpgaaDoorNh
import Derived.Lib.SlBytesConst
namespace Go.Proofs.YtkjebbpmafhpgaaDoor
open Go.ChangeShapes Go.WideShapes Go.ChangeAt Go.RowKit
set_option maxRecDepth 20000
set_option linter.unusedVariables false
set_option linter.unusedSimpArgs false
def x1 : Lt := ⟨1, 0, 1, spell [97]⟩
def x2 : Lt := ⟨2, 0, 1, spell [97]⟩
theorem one_slnF (w : World) (x : Nat) (hx : x < 256) (fr : Nat × Nat) : Sln (w.alloc (.cells #[.int .u8 (x : Int)] 5 fr)) (some ⟨w.heap.size, 0, none⟩) 1 [x] := by
  refine ⟨rfl, by simpa using hx, by simp, .inr ⟨w.heap.size, 0, rfl, by simp, fun i hi => ?_⟩⟩
  obtain rfl : i = 0 := by simp at hi; omega
  have h := heap_alloc_new w (.cells #[.int .u8 (x : Int)] 5 fr)
  unfold World.cell?
  rw [h]
  simp
theorem nd0 : Hid (ndB 0 = true) := by show ndB 0 = true; decide
theorem nd1 : Hid (ndB 1 = true) := by show ndB 1 = true; decide
theorem sp97 : spell [97] = ⟨#[97]⟩ := by rfl
set_option maxHeartbeats 4000000 in
theorem alive_n {w : World} {E : Nat → Addr} {M : Nat} (hE : Hid (Sent w M E)) (hM : 3 ≤ M) :
    Calls Tryd.prog 6 #[] w fun e w' => e = .returned (.bool true) ∧ Hid (Below w.heap.size w w') := by
  go_enter Tryd.func6, Tryd.ntmps6
  go_upto_region 4 with (go_at_call 7; refine (new_n w w.heap.size (Nat.le_refl _)).mono ?_; rintro e w1 ⟨d, rfl, H1⟩)
  obtain ⟨v1, Hv1⟩ : ∃ v, Hid (w1.alloc (.cells #[.int .u8 97] 5 (1, 2)) = v) := ⟨_, rfl⟩
  have b1 : Hid (Below w1.heap.size w1 v1) := by rw [← Hv1.out]; exact alloc1 w1 _
  have N1 : Hid (Nt v1 w.heap.size d none [] 0) := H1.out.1.below b1.out
  have S1 : Hid (Sln v1 (some ⟨w1.heap.size, 0, none⟩) 1 [97]) := by
    rw [← Hv1.out]
    exact one_slnF w1 97 (by omega) _
  have cv0 := Lib.run_convert_bytes_const (P := Tryd.prog) w1 32 5 #[.int .u8 97] 1 1 Tryd.underlying32 Tryd.underlying5
  have cv1 : (convert 32 32 (.slice (some ⟨w1.heap.size, 0, none⟩) 1 1)).run Tryd.prog (w1.alloc (.cells #[.int .u8 97] 5)) = .ok (.slice (some ⟨w1.heap.size, 0, none⟩) 1 1) v1 := by rw [← Hv1.out]; exact cv0
  clear cv0
  go_upto_region 5 with (first
    | (go_at_call 10; refine (send_ok (cb := 1) N1 (show Hid _ from by show (0 : Int) < _; omega) S1 (show Hid _ from by show _ ≤ _; simp) nd0 nd1 (show Hid _ from by show _ < _; simp)).mono ?_; rintro e w2 ⟨a2, rfl, H2⟩))
  have N2 : Hid (Nt w2 w.heap.size d a2 [x1] 1) := H2.out.1
  have p2 := pl_at (k := 1) N2.out.rs.pw (i := 0) (x := x1) rfl rfl
  have F2 : Hid (Below w.heap.size w w2) := by
    have h := H1.out.2.1.trans (b1.out.mono H1.out.2.1.size)
    exact h.trans (H2.out.2.ch.toBelow h.size (fun q hq hs => by
      rcases hs with hs | hs
      · have := N1.out.dl; omega
      · cases hs))
  have hx1 : Hid ([x1][pl 1 [x1]]? = some x1) := by rw [p2.1]; rfl
  have hk1 : Hid (isL 1 [x1] = true) := p2.2
  clear H2 p2
  go_upto_region 6 with (go_at_call 12; refine (copy_ok N2 (show Hid _ from by show (1 : Int) < _; omega) hx1 hk1 (show Hid _ from by show _ < _; simp)).mono ?_; rintro e w3 ⟨a3, rfl, H3⟩)
  have N3 : Hid (Nt w3 w.heap.size d a3 [x1, x2] 2) := H3.out.1
  have p3 := pl_at (k := 1) N3.out.rs.pw (i := 0) (x := x1) rfl rfl
  have F3 : Hid (Below w.heap.size w w3) := F2.out.trans (H3.out.2.ch.toBelow F2.out.size (fun q hq hs => by
      rcases hs with hs | hs
      · have := N2.out.dl; omega
      · have := (N2.out.alt hs).1; omega))
  have hx3 : Hid ([x1, x2][pl 1 [x1, x2]]? = some x1) := by rw [p3.1]; rfl
  have hk3 : Hid (isL 1 [x1, x2] = true) := p3.2
  have he3 : Hid ([x1, x2].eraseIdx (pl 1 [x1, x2]) = [x2]) := by show _ = _; rw [p3.1]; rfl
  clear H3 p3
  go_upto_region 7 with (go_at_call 14; refine (deliver_ok N3 hx3 hk3).mono ?_; rintro e w4 ⟨g4, c4, rfl, H4⟩)
  have N4 : Hid (Nt w4 w.heap.size d a3 [x2] 2) := by have h := H4.out.1; rw [he3.out] at h; exact h
  have F4 : Hid (Below w.heap.size w w4) := F3.out.trans (H4.out.2.1.ch.toBelow F3.out.size (fun q hq hs => by
      rcases hs with hs | hs
      · have := N3.out.dl; omega
      · have := (N3.out.alt hs).1; omega))
  have S4 : Hid (Sln w4 (some ⟨g4, 0, none⟩) x1.bs.size (bytesOf x1.bs)) := H4.out.2.2.1
  have G4 : Hid (g4 < w4.heap.size) := (Array.getElem?_eq_some_iff.1 H4.out.2.2.2.2.2).1
  clear H4 hx3 hk3 he3 hx1 hk1 F3 F2 N3 N2
  obtain ⟨q5, Hq5⟩ : ∃ p, Hid (w4.heap.size = p) := ⟨_, rfl⟩
  obtain ⟨v5, Hv5⟩ : ∃ v, Hid (w4.alloc (.cells #[.int .i64 x1.no, .int .i64 x1.fm, .int .i64 x1.tt, .slice (some ⟨g4, 0, none⟩) x1.bs.size c4] 50) = v) := ⟨_, rfl⟩
  have b5 : Hid (Below w4.heap.size w4 v5) := by rw [← Hv5.out]; exact alloc1 w4 _
  have N5 : Hid (Nt v5 w.heap.size d a3 [x2] 2) := N4.out.below b5.out
  have K5 : Hid (v5.heap[q5]? = some (.cells #[.int .i64 x1.no, .int .i64 x1.fm, .int .i64 x1.tt, .slice (some ⟨g4, 0, none⟩) x1.bs.size c4] 50 (0, 0))) := by rw [← Hv5.out, ← Hq5.out]; exact heap_alloc_new w4 _
  have F5 : Hid (Below w.heap.size w v5) := F4.out.trans (b5.out.mono F4.out.size)
  have k5 : Hid (isL 1 [x2] = false) := isL_no (fun x hx => by
    obtain rfl := List.mem_singleton.1 hx
    decide)
  rw [Hv5.out, Hq5.out]
  go_upto_region 8 with (go_at_call 14; refine (deliver_gone N5 (show Hid (Sent v5 M E) from hE.out.below F5.out) hM k5).mono ?_; rintro e w6 ⟨rfl, H6⟩)
  obtain ⟨v7, Hv7⟩ : ∃ v, Hid (w6.alloc (.cells #[.int .i64 0, .int .i64 0, .int .i64 0, .slice none 0 0] 50) = v) := ⟨_, rfl⟩
  have b7 : Hid (Below v5.heap.size v5 v7) := by rw [← Hv7.out]; exact H6.out.trans ((alloc1 w6 _).mono H6.out.size)
  have F7 : Hid (Below w.heap.size w v7) := F5.out.trans (b7.out.mono F5.out.size)
  have K7 : Hid (v7.heap[q5]? = some (.cells #[.int .i64 x1.no, .int .i64 x1.fm, .int .i64 x1.tt, .slice (some ⟨g4, 0, none⟩) x1.bs.size c4] 50 (0, 0))) := (b7.out.block q5 (Array.getElem?_eq_some_iff.1 K5.out).1).trans K5.out
  have S7 : Hid (Sln v7 (some ⟨g4, 0, none⟩) x1.bs.size (bytesOf x1.bs)) := (S4.out.below b5.out).below b7.out
  have CV := conv_n (k := c4) S7
  have e9 : spell (bytesOf x1.bs) = ⟨#[97]⟩ := by rw [spell_bytesOf]; rfl
  rw [e9] at CV
  have eq7 := eql_same v7 (E 0)
  have c7 : v7.cell? ⟨0, 0, none⟩ = some (.iface 83 (.pointer (some (E 0)))) := (hE.out.below F7.out).c 0 (by omega)
  have f2 : v7.cell? ⟨q5, 2, none⟩ = some (.int .i64 1) := (cel4 K7.out).2.2.1
  have f3 : v7.cell? ⟨q5, 3, none⟩ = some (.slice (some ⟨g4, 0, none⟩) x1.bs.size c4) := (cel4 K7.out).2.2.2
  rw [Hv7.out]
  clear e9
  go_wp2
  go_ret
  exact ⟨rfl, F7.out⟩
end Go.Proofs.YtkjebbpmafhpgaaDoor
