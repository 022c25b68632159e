/- The laws' own 'alive' answers true: the digest of abc begins as the chapter says. -/
import Derived.Test.YtnckcaaejfckaaaDoorSk
import Derived.Lib.SlBytesConst
namespace Go.Proofs.YtnckcaaejfckaaaDoor
open Go.ChangeShapes Go.WideShapes Go.ChangeAt Go.RowKit
set_option linter.unusedVariables false
set_option linter.unusedSimpArgs false
theorem abc_sln (w : World) : Sln (w.alloc (.cells #[.int .u8 97, .int .u8 98, .int .u8 99] 5 (3, 4))) (some ⟨w.heap.size, 0, none⟩) 3 [97, 98, 99] := by
  have hb : (w.alloc (.cells #[.int .u8 97, .int .u8 98, .int .u8 99] 5 (3, 4))).heap[w.heap.size]? = some (.cells #[.int .u8 97, .int .u8 98, .int .u8 99] 5 (3, 4)) := heap_alloc_new w _
  refine ⟨rfl, by decide, by decide, .inr ⟨w.heap.size, 0, rfl, by simp, fun i hi => ?_⟩⟩
  have hi3 : i < 3 := hi
  rw [Nat.zero_add]
  unfold World.cell?
  rw [hb]
  match i, hi3 with
  | 0, _ => rfl
  | 1, _ => rfl
  | 2, _ => rfl
theorem arr_sln {t : TypeId} {w : World} {g : Nat} {d : List Nat} (h : Arr .u8 t w g d) (hd : ∀ x ∈ d, x < 256) (n : Nat) (hn : n ≤ d.length) (hm : n ≤ 140737488352256) : Sln w (some ⟨g, 0, none⟩) n (d.take n) := by
  refine ⟨by simp; omega, fun x hx => hd x (List.mem_of_mem_take hx), by simp; omega, .inr ⟨g, 0, rfl, h.lt, fun i hi => ?_⟩⟩
  have hi2 : i < n := by simp at hi; omega
  rw [Nat.zero_add, h.cell (by omega)]
  have : (d.take n).getD i 0 = d.getD i 0 := by simp [List.getD, hi2]
  rw [this]
theorem sum_lt (l : List Nat) : ∀ x ∈ Gs.sum l, x < 256 := by
  have h : ∀ s n, ∀ x ∈ Gs.digestN s n, x < 256 := by
    intro s n
    induction n with
    | zero => simp [Gs.digestN]
    | succ n ih =>
      intro x hx
      rcases List.mem_append.1 hx with h1 | h1
      · exact ih x h1
      · simp only [Gs.bytesW, List.mem_cons, List.not_mem_nil, or_false] at h1
        rcases h1 with h1 | h1 | h1 | h1 <;> (rw [h1]; exact Nat.mod_lt _ (by decide))
  unfold Gs.sum
  split <;> exact h _ 8
theorem sum_length (l : List Nat) : (Gs.sum l).length = 32 := by unfold Gs.sum; split <;> exact digest_length _
theorem abc_hex : spell (hexL ((Gs.sum [97, 98, 99]).take 4)) = { data := #[98, 97, 55, 56, 49, 54, 98, 102] } := by
  rw [Gs.abc]
  decide +kernel
set_option maxRecDepth 20000 in
set_option maxHeartbeats 1000000 in
theorem alive_n (w : World) (hKs : Hid (Kst w)) (h0 : Hid (0 < w.heap.size)) : Calls Tryd.prog 5 #[] w fun e w' => e = .returned (.bool true) ∧ Hid (Below w.heap.size w w') := by
  have S0 : Hid (Sln (w.alloc (.cells #[.int .u8 97, .int .u8 98, .int .u8 99] 5 (3, 4))) (some ⟨w.heap.size, 0, none⟩) 3 [97, 98, 99]) := abc_sln w
  have B0 : Hid (Below w.heap.size w (w.alloc (.cells #[.int .u8 97, .int .u8 98, .int .u8 99] 5 (3, 4)))) := (Below.refl _ _).alloc (Nat.le_refl _) _
  have K0 : Hid (Kst (w.alloc (.cells #[.int .u8 97, .int .u8 98, .int .u8 99] 5 (3, 4)))) := hKs.out.below B0.out h0.out
  have Z0 : Hid (0 < (w.alloc (.cells #[.int .u8 97, .int .u8 98, .int .u8 99] 5 (3, 4))).heap.size) := Nat.lt_of_lt_of_le h0.out B0.out.size
  have CV : (convert 22 22 (.slice (some ⟨w.heap.size, 0, none⟩) 3 3)).run Tryd.prog (w.alloc (.cells #[.int .u8 97, .int .u8 98, .int .u8 99] 5)) = .ok (.slice (some ⟨w.heap.size, 0, none⟩) 3 3) (w.alloc (.cells #[.int .u8 97, .int .u8 98, .int .u8 99] 5 (3, 4))) := Lib.run_convert_bytes_const w 22 5 _ 3 3 Tryd.underlying22 Tryd.underlying5
  go_enter Tryd.func5, Tryd.ntmps5
  go_wp2_with (first
    | (go_at_call 7; refine (sum_n S0 (Nat.le_refl _) K0 Z0).mono ?_; rintro e w1 ⟨d, rfl, H1⟩
       have L1 : Hid (d.length = 32) := by rw [H1.out.1]; exact sum_length _
       have N1 : Hid (Arr .u8 25 (w1.alloc (.cells (cs .u8 Zb32) 25)) w1.heap.size Zb32) := Arr.new w1 .u8 25 Zb32
       obtain ⟨w2, W2⟩ : ∃ w2, Hid ((w1.alloc (.cells (cs .u8 Zb32) 25)).setRow w1.heap.size (cs .u8 d) = w2) := ⟨_, rfl⟩
       have A2 : Hid (Arr .u8 25 w2 w1.heap.size d) := by rw [← W2.out]; exact N1.out.setRow d
       have BL : Hid (Below w.heap.size w w1) := B0.out.trans (H1.out.2.mono B0.out.size)
       have B2 : Hid (Below w.heap.size w w2) := by rw [← W2.out]; exact (Oth.setRow _).below (BL.out.alloc BL.out.size _) BL.out.size
       have S2 : Hid (Sln w2 (some ⟨w1.heap.size, 0, none⟩) 4 (d.take 4)) := arr_sln A2.out (by rw [H1.out.1]; exact sum_lt _) 4 (by rw [L1.out]; omega) (by omega)
       have D2 : Hid (spell (hexL (d.take 4)) = { data := #[98, 97, 55, 56, 49, 54, 98, 102] }) := by rw [H1.out.1]; exact abc_hex)
    | (refine wpList_st0 (t := 25) (l := Zb32) (l2 := d) (by rfl) (by rfl) 25 (.tmp 1) (.tmp 4) (by rfl) (by rfl) (by rfl) N1 (by rw [L1.out]; exact sz25) (by rw [L1.out]; rfl) ?_; refine (show _ = w2 from W2.out) ▸ ?_)
    | (go_at_call 14; refine (hex_n S2 (by omega)).mono ?_; rintro e w3 ⟨t, rfl, H3⟩
       have T3 : t = { data := #[98, 97, 55, 56, 49, 54, 98, 102] } := by rw [H3.out.1]; exact D2.out
       subst T3))
  go_ret
  exact ⟨rfl, B2.out.trans (H3.out.2.mono B2.out.size)⟩
end Go.Proofs.YtnckcaaejfckaaaDoor
