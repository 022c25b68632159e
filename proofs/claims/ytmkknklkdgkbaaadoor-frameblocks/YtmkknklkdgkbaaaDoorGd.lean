/- bodyOf of package frame: what stands behind the head. -/
import Derived.Test.YtmkknklkdgkbaaaDoorGc
import Derived.Test.YtmkknklkdgkbaaaDoorGb
import Derived.Test.YtmkknklkdgkbaaaDoorRn
namespace Go.Proofs.YtmkknklkdgkbaaaDoor
open Go.ChangeShapes Go.WideShapes Go.ChangeAt Go.RowKit Go.Shelf
set_option maxRecDepth 20000
set_option linter.unusedVariables false
set_option linter.unusedSimpArgs false
attribute [local go_sem] Oper.semAt_some
theorem sum_len (l : List Nat) : (Gs.sum l).length = 32 := by unfold Gs.sum; split <;> exact digest_length _
theorem digestN_bytes (s : List Nat) : ∀ n, ∀ x ∈ Gs.digestN s n, x < 256
  | 0 => by simp [Gs.digestN]
  | n + 1 => by
    intro x hx
    simp only [Gs.digestN, List.mem_append] at hx
    rcases hx with hx | hx
    · exact digestN_bytes s n x hx
    · simp only [Gs.bytesW, List.mem_cons, List.not_mem_nil, or_false] at hx
      omega
theorem sum_bytes (l : List Nat) : ∀ x ∈ Gs.sum l, x < 256 := by unfold Gs.sum; split <;> exact digestN_bytes _ 8
/- the blocks of a list, each with its digest behind it -/
def bodyK (l : List Nat) : Nat → List Nat
  | 0 => []
  | k + 1 => bodyK l k ++ (pc l k ++ Gs.sum (pc l k))
def blks (n : Nat) : Nat := (n + 31) / 32
def bodyL (l : List Nat) : List Nat := bodyK l (blks l.length)
theorem pc_len (l : List Nat) (j : Nat) : (pc l j).length = min 32 (l.length - 32 * j) := by simp [pc]
theorem pc_bytes {l : List Nat} (h : ∀ x ∈ l, x < 256) (j : Nat) : ∀ x ∈ pc l j, x < 256 := fun x hx => h x (List.mem_of_mem_drop (List.mem_of_mem_take hx))
theorem bodyK_bytes {l : List Nat} (h : ∀ x ∈ l, x < 256) : ∀ k, ∀ x ∈ bodyK l k, x < 256
  | 0 => by simp [bodyK]
  | k + 1 => by
    intro x hx
    simp only [bodyK, List.mem_append] at hx
    rcases hx with hx | hx | hx
    · exact bodyK_bytes h k x hx
    · exact pc_bytes h k x hx
    · exact sum_bytes _ x hx
theorem bodyK_len (l : List Nat) : ∀ k, 32 * k ≤ l.length + 31 → (bodyK l k).length = min (32 * k) l.length + 32 * k
  | 0, _ => by simp [bodyK]
  | k + 1, h => by
    rw [bodyK, List.length_append, List.length_append, bodyK_len l k (by omega), pc_len, sum_len]
    omega
theorem bodyL_len (l : List Nat) : (bodyL l).length = l.length + 32 * blks l.length := by
  unfold bodyL
  rw [bodyK_len l _ (by unfold blks; omega)]
  unfold blks
  omega
theorem make_cap (n : Nat) (h : n ≤ 281474976710656) (w : World) : (Instr.makeSlice 26 (.int .i64 0) (.int .i64 (n : Int))).run Tryd.prog w = .ok (.slice (some ⟨w.heap.size, 0, none⟩) 0 n) (w.alloc (.cells (madeCells #[.int .u8 0] n) 5)) := by
  obtain ⟨i, hi, hz0, hz1, hz2⟩ := info_parts info5
  have hr := run_make (P := Tryd.prog) w 26 5 i (.int .u8 0) Tryd.underlying26 hi hz0 .i64 .i64 0 (n : Int) (by omega) (by omega) (by rw [hz2]; omega) (by omega)
  rw [hz1] at hr
  have e : ((n : Int)).toNat = n := by omega
  rw [e] at hr
  simpa [Value.cells] using hr
/- the body while it is made: its row lies in block R, its variable in block X -/
structure Bd (w : World) (L : List Nat) (N R X k : Nat) (U : World) : Prop where
  own : U.ownsRow R 5 1 (.slice (some ⟨R, 0, none⟩) k N) k (L.map bv)
  len : k = L.length
  box : Boxed U X 26 (.slice (some ⟨R, 0, none⟩) k N)
  kst : Kst U
  bel : Below w.heap.size w U
theorem Bd.keep {w : World} {L : List Nat} {N R X k m : Nat} {A B : World} (h : Bd w L N R X k A) (hb : Below m A B) (h1 : R < m) (h2 : X < m) (h3 : 19 < m) (h4 : w.heap.size ≤ m) : Bd w L N R X k B := by
  refine ⟨?_, h.len, (hb.block X h2).trans h.box, h.kst.below hb h3, h.bel.trans (hb.mono h4)⟩
  obtain ⟨h5, h6⟩ := h.own
  refine ⟨h5, h6.imp id ?_⟩
  rintro ⟨g, cap, cur, e1, e2, e3, e4⟩
  cases e1
  exact ⟨_, _, _, rfl, e2, (hb.block R h1).trans e3, e4⟩
end Go.Proofs.YtmkknklkdgkbaaaDoor
