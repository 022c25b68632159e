/- The sum of bytes; the wire laws' own 'alive' answers true. -/
import Derived.Test.YtoegfckafnlknaaDoorVe
import Derived.Test.YtoegfckafnlknaaDoorVb
import Derived.Lib.SlBytesConst
namespace Go.Proofs.YtoegfckafnlknaaDoor
set_option maxRecDepth 20000
open Go.ChangeShapes Go.WideShapes Go.ChangeAt Go.RowKit
set_option linter.unusedVariables false
set_option linter.unusedSimpArgs false
set_option maxHeartbeats 1000000 in
theorem sum_n {w : World} {a : Option Addr} {n c : Nat} {l : List Nat} (h : Hid (Sln w a n l)) :
    Calls Tryd.prog 80 #[.slice a n c] w fun e w' => e = .returned (.int .u32 ((fsum l : Nat) : Int)) ∧ w' = w := by
  have m := h.out.sli.2.1
  have e := h.out.len
  rw [← e] at m
  have hE : Hid (n = l.length) := e
  clear e
  have F0 : Hid (fnv 2166136261 (l.take 0) = 2166136261) := rfl
  go_enter Tryd.func80, Tryd.ntmps80
  go_wp2
  go_loop [3, 8] (fun ts ti => ∃ k s : Nat, k ≤ n ∧ s < 4294967296 ∧ Hid (fnv 2166136261 (l.take k) = s) ∧ ts = .int .u32 s ∧ ti = .int .i64 k) (fun _ ti => n - (intOf ti).toNat)
  case atStart => exact ⟨0, 2166136261, by omega, by omega, F0.out, rfl, rfl⟩
  case round =>
    obtain ⟨k, s, hk, hs, HS, rfl, rfl⟩ := hrel
    by_cases hlt : k < n
    · obtain ⟨b, off, rfl, c1⟩ := row_at h.out hlt
      obtain ⟨x, Hx⟩ : ∃ x, Hid (l.getD k 0 = x) := ⟨_, rfl⟩
      have hx : x < 256 := by rw [← Hx.out]; exact getD_lt h.out.lt k
      rw [Hx.out] at c1
      obtain ⟨y, Hy⟩ : ∃ y, Hid (s ^^^ x = y) := ⟨_, rfl⟩
      have hy : y < 4294967296 := by rw [← Hy.out]; exact Nat.xor_lt_two_pow (n := 32) hs (by omega)
      have e1 : bits .xor .u32 (s : Int) (x : Int) = (y : Int) := by rw [u32_xor_nat s x hs (by omega), Hy.out]
      obtain ⟨z, Hz⟩ : ∃ z, Hid (y * 16777619 % 4294967296 = z) := ⟨_, rfl⟩
      have hz : z < 4294967296 := by rw [← Hz.out]; exact Nat.mod_lt _ (by omega)
      have e2 : (y : Int) * 16777619 % 4294967296 = (z : Int) := by have := Hz.out; omega
      have F1 : Hid (fnv 2166136261 (l.take (k + 1)) = z) := by
        rw [take_succ_getD (by rw [← hE.out]; exact hlt), fnv_snoc, HS.out, Hx.out, stp, Hy.out]
        exact Hz.out
      clear hE HS Hx Hy Hz
      go_wp2
      go_round
      case rel => exact ⟨k + 1, z, by omega, hz, F1.out, by go_num, by go_num⟩
      case measure => simp [intOf]; omega
    · have ek : k = n := by omega
      have F1 : Hid (fsum l = s) := by
        rw [← HS.out, ek, hE.out, List.take_length]; rfl
      clear hE HS
      go_wp2
      go_ret
      exact ⟨by rw [F1.out]; rfl, rfl⟩
theorem const_sln (w : World) (l : List Nat) (f : Nat × Nat) (h1 : ∀ x ∈ l, x < 256) (h2 : l.length ≤ 140737488352256) : Sln (w.alloc (.cells (l.map bv).toArray 5 f)) (some ⟨w.heap.size, 0, none⟩) l.length l := by
  have hb : (w.alloc (.cells (l.map bv).toArray 5 f)).heap[w.heap.size]? = some (.cells (l.map bv).toArray 5 f) := heap_alloc_new w _
  refine ⟨rfl, h1, h2, .inr ⟨w.heap.size, 0, rfl, by simp, fun i hi => ?_⟩⟩
  rw [Nat.zero_add]
  unfold World.cell?
  rw [hb]
  simp [hi, bv]
def aL : List Nat := [97]
theorem conv_a (w : World) : (convert 35 35 (.slice (some ⟨w.heap.size, 0, none⟩) 1 1)).run Tryd.prog (w.alloc (.cells #[.int .u8 97] 5)) = .ok (.slice (some ⟨w.heap.size, 0, none⟩) 1 1) (w.alloc (.cells (aL.map bv).toArray 5 (1, 2))) := Lib.run_convert_bytes_const w 35 5 _ 1 1 Tryd.underlying35 Tryd.underlying5
theorem sp_ab : spell [97, 98] = ⟨#[97, 98]⟩ := by decide
theorem sp_five : spell [172, 2, 2, 97, 98] = ⟨#[172, 2, 2, 97, 98]⟩ := by decide
theorem enc300 : enc 300 = [172, 2] := by rw [enc_ge (by omega), enc_lt (by omega)]
theorem fsum_a : fsum aL = 3826002220 := by decide +kernel
theorem sum_a (w : World) : Calls Tryd.prog 80 #[.slice (some ⟨w.heap.size, 0, none⟩) 1 1] (w.alloc (.cells (aL.map bv).toArray 5 (1, 2))) fun e w' => e = .returned (.int .u32 3826002220) ∧ w' = w.alloc (.cells (aL.map bv).toArray 5 (1, 2)) := by
  have SA : Hid (Sln (w.alloc (.cells (aL.map bv).toArray 5 (1, 2))) (some ⟨w.heap.size, 0, none⟩) 1 aL) := const_sln w aL (1, 2) (by decide) (by decide)
  refine (sum_n SA).mono ?_
  rintro e w5 ⟨h1, h5⟩
  rw [fsum_a] at h1
  exact ⟨h1, h5⟩
theorem lt_ab : ∀ x ∈ [97, 98], x < 256 := by decide
theorem text_ab {w : World} {g B : Nat} {a : Option Addr} {n c : Nat} {s : Bool} (hW : Hid (Wri w g B a n c [172, 2] s)) (hB : Hid (B ≤ w.heap.size)) (hb : Hid (n + 2 + 18 ≤ 140737488352256)) :
    Calls Tryd.prog 69 #[.pointer (some ⟨g, 0, none⟩), .string ⟨#[97, 98]⟩] w fun e w' => ∃ a' n' c', e = .returned (.tuple #[]) ∧ Hid (Wri w' g B a' n' c' [172, 2, 2, 97, 98] s ∧ Wfr w w' g a ∧ New w a a') := by
  have h := text_n (l := [97, 98]) (m := 2) hW lt_ab rfl hB hb
  rw [sp_ab, enc_lt (by omega)] at h
  exact h
theorem num_300 {w : World} {g B : Nat} (hW : Hid (Wri w g B none 0 0 [] false)) (hB : Hid (B ≤ w.heap.size)) :
    Calls Tryd.prog 46 #[.pointer (some ⟨g, 0, none⟩), .int .i64 300] w fun e w' => ∃ a' c', e = .returned (.tuple #[]) ∧ Hid (Wri w' g B a' 2 c' [172, 2] false ∧ Wfr w w' g none) := by
  have h := num_n (N := 300) hW (by omega) hB (by show _ ≤ _; omega)
  rw [enc300] at h
  refine Calls.mono h ?_
  rintro e w1 ⟨a1, n1, c1, h1, H1⟩
  have h2 : n1 = 2 := H1.out.1.own.len
  subst h2
  exact ⟨a1, c1, h1, H1.out.1, H1.out.2.1⟩
end Go.Proofs.YtoegfckafnlknaaDoor
