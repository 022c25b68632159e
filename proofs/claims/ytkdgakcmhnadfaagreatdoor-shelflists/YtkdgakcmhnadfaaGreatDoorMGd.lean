import Derived.Test.YtkdgakcmhnadfaaGreatDoorMGa
import Derived.Test.YtkdgakcmhnadfaaGreatDoorMRl
import Derived.Lib.SlBytesConst
/- Gd -/
/- bodyOf of package frame: what stands behind the head. -/
namespace Go.Proofs.YtkdgakcmhnadfaaGreatDoor
open Go.ChangeShapes Go.WideShapes Go.ChangeAt Go.RowKit Go.Shelf
set_option maxRecDepth 20000
set_option linter.unusedVariables false
set_option linter.unusedSimpArgs false
attribute [local go_sem] Oper.semAt_some
theorem sum_len (l : List Nat) : (Gs.sum l).length = 32 := by unfold Gs.sum; split <;> exact digest_length _
theorem digestN_bytes (s : List Nat) : ∀ n, ∀ x ∈ Gs.digestN s n, x < 256
  | 0 => by simp [Gs.digestN]
  | n + 1 => by
    intro x hx
    simp only [Gs.digestN, List.mem_append] at hx
    rcases hx with hx | hx
    · exact digestN_bytes s n x hx
    · simp only [Gs.bytesW, List.mem_cons, List.not_mem_nil, or_false] at hx
      omega
theorem sum_bytes (l : List Nat) : ∀ x ∈ Gs.sum l, x < 256 := by unfold Gs.sum; split <;> exact digestN_bytes _ 8
/- the blocks of a list, each with its digest behind it -/
def bodyK (l : List Nat) : Nat → List Nat
  | 0 => []
  | k + 1 => bodyK l k ++ (pc l k ++ Gs.sum (pc l k))
def blks (n : Nat) : Nat := (n + 31) / 32
def bodyL (l : List Nat) : List Nat := bodyK l (blks l.length)
theorem pc_len (l : List Nat) (j : Nat) : (pc l j).length = min 32 (l.length - 32 * j) := by simp [pc]
theorem pc_bytes {l : List Nat} (h : ∀ x ∈ l, x < 256) (j : Nat) : ∀ x ∈ pc l j, x < 256 := fun x hx => h x (List.mem_of_mem_drop (List.mem_of_mem_take hx))
theorem bodyK_bytes {l : List Nat} (h : ∀ x ∈ l, x < 256) : ∀ k, ∀ x ∈ bodyK l k, x < 256
  | 0 => by simp [bodyK]
  | k + 1 => by
    intro x hx
    simp only [bodyK, List.mem_append] at hx
    rcases hx with hx | hx | hx
    · exact bodyK_bytes h k x hx
    · exact pc_bytes h k x hx
    · exact sum_bytes _ x hx
theorem bodyK_len (l : List Nat) : ∀ k, 32 * k ≤ l.length + 31 → (bodyK l k).length = min (32 * k) l.length + 32 * k
  | 0, _ => by simp [bodyK]
  | k + 1, h => by
    rw [bodyK, List.length_append, List.length_append, bodyK_len l k (by omega), pc_len, sum_len]
    omega
theorem bodyL_len (l : List Nat) : (bodyL l).length = l.length + 32 * blks l.length := by
  unfold bodyL
  rw [bodyK_len l _ (by unfold blks; omega)]
  unfold blks
  omega
theorem make_cap (n : Nat) (h : n ≤ 281474976710656) (w : World) : (Instr.makeSlice 33 (.int .i64 0) (.int .i64 (n : Int))).run Tryz.prog w = .ok (.slice (some ⟨w.heap.size, 0, none⟩) 0 n) (w.alloc (.cells (madeCells #[.int .u8 0] n) 5)) := by
  obtain ⟨i, hi, hz0, hz1, hz2⟩ := info_parts info5
  have hr := run_make (P := Tryz.prog) w 33 5 i (.int .u8 0) Tryz.underlying33 hi hz0 .i64 .i64 0 (n : Int) (by omega) (by omega) (by rw [hz2]; omega) (by omega)
  rw [hz1] at hr
  have e : ((n : Int)).toNat = n := by omega
  rw [e] at hr
  simpa [Value.cells] using hr
/- the body while it is made: its row lies in block R, its variable in block X -/
structure Bd (w : World) (L : List Nat) (N R X k : Nat) (U : World) : Prop where
  own : U.ownsRow R 5 1 (.slice (some ⟨R, 0, none⟩) k N) k (L.map bv)
  len : k = L.length
  box : Boxed U X 33 (.slice (some ⟨R, 0, none⟩) k N)
  kst : Kst U
  bel : Below w.heap.size w U
theorem Bd.keep {w : World} {L : List Nat} {N R X k m : Nat} {A B : World} (h : Bd w L N R X k A) (hb : Below m A B) (h1 : R < m) (h2 : X < m) (h3 : 21 < m) (h4 : w.heap.size ≤ m) : Bd w L N R X k B := by
  refine ⟨?_, h.len, (hb.block X h2).trans h.box, h.kst.below hb h3, h.bel.trans (hb.mono h4)⟩
  obtain ⟨h5, h6⟩ := h.own
  refine ⟨h5, h6.imp id ?_⟩
  rintro ⟨g, cap, cur, e1, e2, e3, e4⟩
  cases e1
  exact ⟨_, _, _, rfl, e2, (hb.block R h1).trans e3, e4⟩
end Go.Proofs.YtkdgakcmhnadfaaGreatDoor

/- Ge -/
/- bodyOf of package frame, walked. -/
namespace Go.Proofs.YtkdgakcmhnadfaaGreatDoor
open Go.ChangeShapes Go.WideShapes Go.ChangeAt Go.RowKit Go.Shelf
set_option maxRecDepth 20000
set_option linter.unusedVariables false
set_option linter.unusedSimpArgs false
attribute [local go_sem] Oper.semAt_some
theorem below_arr (w : World) (k : IntKind) (t : TypeId) (z : List Nat) (c : Array Value) : Below w.heap.size w ((w.alloc (.cells (cs k z) t)).setRow w.heap.size c) :=
  (Oth.setRow (g := w.heap.size) (w := w.alloc (.cells (cs k z) t)) c).below ((Below.refl _ w).alloc (Nat.le_refl _) _) (Nat.le_refl _)
theorem arr_sln {w : World} {t : TypeId} {g n : Nat} {l : List Nat} (h : Arr .u8 t w g l) (hn : n = l.length) (h1 : ∀ x ∈ l, x < 256) (h2 : n ≤ 140737488352256) : Sln w (some ⟨g, 0, none⟩) n l :=
  ⟨hn, h1, by omega, .inr ⟨g, 0, rfl, h.lt, fun i hi => by rw [Nat.zero_add]; exact h.cell hi⟩⟩
theorem bd_app {w U : World} {L : List Nat} {N R X k : Nat} {a : Option Addr} {n c : Nat} {l : List Nat} (h : Bd w L N R X k U) (hS : Sln U a n l) (hc : a = none → c = 0) (hroom : k + n ≤ N) (hw : w.heap.size ≤ R) (hRX : R < X) (hR : 21 < R) (C : Nat → Prop) (hCR : C R) (hCX : C X) (m : Nat) (bx : Option Nat) :
    ∃ U3, Hid ((Builtin.append_ #[33, 33] 33 #[.slice (some ⟨R, 0, none⟩) k N, .slice a n c]).run Tryz.prog U = .ok (.slice (some ⟨R, 0, none⟩) (k + n) N) U3) ∧ U3.cell? ⟨X, 0, none⟩ = some (.slice (some ⟨R, 0, none⟩) k N) ∧ U3.frozen? ⟨X, 0, none⟩ = false ∧
      Bd w (L ++ l) N R X (k + n) (U3.setCell ⟨X, 0, none⟩ (.slice (some ⟨R, 0, none⟩) (k + n) N)) ∧ KeepB C m bx U (U3.setCell ⟨X, 0, none⟩ (.slice (some ⟨R, 0, none⟩) (k + n) N)) := by
  obtain ⟨U3, hrun, own3, gr3⟩ := app_fits h.own hS hc hroom
  have b3 : Boxed U3 X 33 (.slice (some ⟨R, 0, none⟩) k N) := (gr3.block X h.box.lt (fun e => by cases e; omega)).trans h.box
  refine ⟨U3, hrun, b3.cell, b3.frozen, ⟨?_, by rw [List.length_append, ← h.len, ← hS.len], b3.set _, ?_, ?_⟩, ?_⟩
  · rw [List.map_append]
    obtain ⟨h5, h6⟩ := own3
    refine ⟨h5, h6.imp id ?_⟩
    rintro ⟨g, cap, cur, e1, e2, e3, e4⟩
    cases e1
    exact ⟨_, _, _, rfl, e2, (Below.heap_setCell U3 ⟨X, 0, none⟩ _ R (by show R ≠ X; omega)).trans e3, e4⟩
  · have b4 : Below R U (U3.setCell ⟨X, 0, none⟩ (.slice (some ⟨R, 0, none⟩) (k + n) N)) := ((Below.refl R U).grown gr3 (by have := h.box.lt; omega) (fun j e => by cases e; exact Nat.le_refl _)).setCell (by show R ≤ X; omega) _
    exact h.kst.below b4 hR
  · exact (h.bel.grown gr3 (by have := h.box.lt; omega) (fun j e => by cases e; exact hw)).setCell (by show w.heap.size ≤ X; omega) _
  · exact (KeepB.of_grown m bx gr3 hCR).trans (KeepB.of_set m bx U3 _ hCX)
end Go.Proofs.YtkdgakcmhnadfaaGreatDoor

/- Gf -/
/- Put of package frame, and the laws' alive. -/
namespace Go.Proofs.YtkdgakcmhnadfaaGreatDoor
open Go.ChangeShapes Go.WideShapes Go.ChangeAt Go.RowKit
set_option maxRecDepth 20000
set_option linter.unusedVariables false
set_option linter.unusedSimpArgs false
abbrev stv (a b c d e : Int) : Value := .agg #[.int .i64 a, .int .i64 b, .int .i64 c, .int .i64 d, .int .i64 e]
/- a frame -/
def frameL (ns l : List Nat) : List Nat := headL ns ++ bodyL l
def abL : List Nat := [97, 98]
theorem conv_ab (w : World) : (convert 33 33 (.slice (some ⟨w.heap.size, 0, none⟩) 2 2)).run Tryz.prog (w.alloc (.cells #[.int .u8 97, .int .u8 98] 5)) = .ok (.slice (some ⟨w.heap.size, 0, none⟩) 2 2) (w.alloc (.cells (abL.map bv).toArray 5 (2, 3))) := Lib.run_convert_bytes_const w 33 5 _ 2 2 Tryz.underlying33 Tryz.underlying5
theorem encs_al : encs [1, 1, 2, 3, 0, 4, 2] = [1, 1, 2, 3, 0, 4, 2] := by simp [encs, enc_lt]
theorem head_al : ∃ x y z u, headL [1, 1, 2, 3, 0, 4, 2] = [11, 1, 1, 2, 3, 0, 4, 2, x, y, z, u] := by
  unfold headL
  rw [encs_al]
  obtain ⟨s, hs⟩ : ∃ s, fsum [1, 1, 2, 3, 0, 4, 2] = s := ⟨_, rfl⟩
  unfold sealL be4
  rw [hs]
  refine ⟨s / 16777216 % 256, s / 65536 % 256, s / 256 % 256, s % 256, ?_⟩
  rw [show (([1, 1, 2, 3, 0, 4, 2] : List Nat) ++ [s / 16777216 % 256, s / 65536 % 256, s / 256 % 256, s % 256]).length = 11 from rfl, enc_lt (by omega)]
  rfl
theorem body_al : ∃ d, bodyL abL = [97, 98] ++ d ∧ d.length = 32 := ⟨Gs.sum (pc abL 0), rfl, sum_len _⟩
theorem frame_al : (frameL [1, 1, 2, 3, 0, 4, 2] abL).length = 46 ∧ (frameL [1, 1, 2, 3, 0, 4, 2] abL).getD 0 0 = 11 ∧ (frameL [1, 1, 2, 3, 0, 4, 2] abL).getD 12 0 = 97 := by
  obtain ⟨x, y, z, u, h1⟩ := head_al
  obtain ⟨d, h2, h3⟩ := body_al
  unfold frameL
  rw [h1, h2]
  refine ⟨by simp [h3], rfl, rfl⟩
theorem kst_pos {w : World} (h : Kst w) : 21 < w.heap.size := cell_lt (h 0 (by omega))
end Go.Proofs.YtkdgakcmhnadfaaGreatDoor
