/- What Dot of package gf does, for all lists of bytes that lie in memory: it returns the sum of products, and only reads. -/
import Derived.Test.YtgfleebnddjhgaaWd
import Derived.Deep.QuietTactic
import Derived.BigQuiet
namespace Go.Proofs.Ytgfleebnddjhgaa
open Go.ChangeShapes Go.WideShapes Go.ChangeAt Go.RowKit
/- A slice's elements as plain numbers below 256: nothing is asked where there is none. -/
def Row (w : World) (b off : Nat) (l : List Nat) : Prop := ∀ i, i < l.length → w.cell? ⟨b, off + i, none⟩ = some (.int .u8 (l.getD i 0 : Nat))
def Sl (w : World) (a : Option Addr) (l : List Nat) : Prop := (∀ x ∈ l, x < 256) ∧ l.length ≤ maxLen ∧ (l = [] ∨ ∃ b off, a = some ⟨b, off, none⟩ ∧ Row w b off l)
def dotN (a b : List Nat) : Nat → Nat
  | 0 => 0
  | k + 1 => dotN a b k ^^^ Gm.mul (a.getD k 0) (b.getD k 0)
def dot (a b : List Nat) : Nat := dotN a b (min a.length b.length)
theorem getD_lt {l : List Nat} (h : ∀ x ∈ l, x < 256) (i : Nat) : l.getD i 0 < 256 := by
  by_cases hi : i < l.length
  · have e : l.getD i 0 = l[i] := by simp [List.getD, hi]
    rw [e]; exact h _ (List.getElem_mem hi)
  · have e : l.getD i 0 = 0 := by simp [List.getD, Nat.le_of_not_lt hi]
    omega
theorem dotN_lt {a b : List Nat} (ha : ∀ x ∈ a, x < 256) (k : Nat) : dotN a b k < 256 := by
  induction k with
  | zero => simp [dotN]
  | succ k ih => exact Gm.xor_lt _ _ ih (Gm.mul_lt _ _ (getD_lt ha k))
theorem cell_drewN (w : World) (n : Nat) (a : Addr) : (w.drewN n).cell? a = w.cell? a := by simp [go_sem]
set_option maxHeartbeats 1000000 in
theorem dot_some (b1 o1 b2 o2 c1 c2 : Nat) (l1 l2 : List Nat) (w : World) (h1 : ∀ x ∈ l1, x < 256) (h2 : ∀ x ∈ l2, x < 256) (m1 : l1.length ≤ maxLen) (m2 : l2.length ≤ maxLen) (r1 : Row w b1 o1 l1) (r2 : Row w b2 o2 l2) :
    Calls Try.prog 25 #[.slice (some ⟨b1, o1, none⟩) l1.length c1, .slice (some ⟨b2, o2, none⟩) l2.length c2] w fun e w' => e = .returned (.int .u8 (dot l1 l2 : Nat)) ∧ ∃ n, w' = w.drewN n := by
  unfold maxLen at m1 m2
  obtain ⟨n1, hn1⟩ : ∃ n, n = l1.length := ⟨_, rfl⟩
  obtain ⟨n2, hn2⟩ : ∃ n, n = l2.length := ⟨_, rfl⟩
  rw [← hn1] at m1 ⊢; rw [← hn2] at m2 ⊢
  have H1 : Hid (n1 = l1.length) := hn1
  have H2 : Hid (n2 = l2.length) := hn2
  have R1 : Hid (Row w b1 o1 l1) := r1
  have R2 : Hid (Row w b2 o2 l2) := r2
  have B1 : Hid (∀ x ∈ l1, x < 256) := h1
  have B2 : Hid (∀ x ∈ l2, x < 256) := h2
  obtain ⟨D, HD⟩ : ∃ D, Hid (dot l1 l2 = D) := ⟨_, rfl⟩
  rw [HD.out]
  clear hn1 hn2 r1 r2 h1 h2
  go_enter Try.func25, Try.ntmps25
  go_wp2
  all_goals
    go_loopw [5, 12] (fun ts ti wr => ∃ k d : Nat, k ≤ n1 ∧ k ≤ n2 ∧ d < 256 ∧ Hid (d = dotN l1 l2 k) ∧ ts = .int .u8 d ∧ ti = .int .i64 k ∧ Hid (∃ n, wr = w.drewN n)) (fun _ ti _ => n1 - (intOf ti).toNat)
    case atStart => exact ⟨0, 0, by omega, by omega, by omega, rfl, rfl, rfl, ⟨0, rfl⟩⟩
    case round =>
      obtain ⟨k, d, hk1, hk2, hd, HDk, rfl, rfl, HW⟩ := hrel
      by_cases hlt : k < n1 ∧ k < n2
      · obtain ⟨hl1, hl2⟩ := hlt
        obtain ⟨x, Hx⟩ : ∃ x, Hid (l1.getD k 0 = x) := ⟨_, rfl⟩
        obtain ⟨y, Hy⟩ : ∃ y, Hid (l2.getD k 0 = y) := ⟨_, rfl⟩
        have hx : x < 256 := by rw [← Hx.out]; exact getD_lt B1.out k
        have hy : y < 256 := by rw [← Hy.out]; exact getD_lt B2.out k
        have c1' : wr.cell? ⟨b1, o1 + k, none⟩ = some (.int .u8 (x : Nat)) := by obtain ⟨n, hn⟩ := HW.out; rw [hn, cell_drewN, ← Hx.out]; exact R1.out k (by rw [← H1.out]; exact hl1)
        have c2' : wr.cell? ⟨b2, o2 + k, none⟩ = some (.int .u8 (y : Nat)) := by obtain ⟨n, hn⟩ := HW.out; rw [hn, cell_drewN, ← Hy.out]; exact R2.out k (by rw [← H2.out]; exact hl2)
        go_wp2
        go_quiet ((go_at_call 17; exact Calls.quiet_of_same (mul_any x y hx hy _)))
        go_wp2
        go_roundw
        case rel => 
          refine ⟨k + 1, d ^^^ Gm.mul x y, by omega, by omega, Gm.xor_lt _ _ hd (Gm.mul_lt x y hx), ?_, by rw [u8_xor_nat _ _ hd (Gm.mul_lt x y hx)], by go_num, ?_⟩
          · rw [HDk.out, ← Hx.out, ← Hy.out]; rfl
          · obtain ⟨n, hn⟩ := HW.out; rw [hn]; exact ⟨_, World.drewN_drewN _ _ _⟩
        case measure => simp [intOf]; omega
      · go_wp2
        go_ret
        refine ⟨ret_int ?_, HW.out⟩
        rw [← HD.out, HDk.out]
        have hk : k = min l1.length l2.length := by rw [← H1.out, ← H2.out]; omega
        rw [hk]; rfl
end Go.Proofs.Ytgfleebnddjhgaa
