/- Plain words for the document's Sum: what lies in memory while it goes through the blocks, and the digest step by step. -/
import Derived.Test.YtmkknklkdgkbaaaDoorRa
import Derived.Test.YtmkknklkdgkbaaaDoorRb
import Derived.Test.YtmkknklkdgkbaaaDoorRd
import Derived.Test.YtmkknklkdgkbaaaDoorSg
namespace Go.Proofs.YtmkknklkdgkbaaaDoor
open Go.ChangeShapes Go.WideShapes Go.ChangeAt Go.RowKit
set_option linter.unusedVariables false
set_option linter.unusedSimpArgs false
/- the piece of a function's code that is the block of that number -/
def blkIn (n : Nat) : Code → Option Code
  | .block i c => if i = n then some (.block i c) else blkIn n c
  | .seq a b => match blkIn n a with
    | some c => some c
    | none => blkIn n b
  | .cond _ a b => match blkIn n a with
    | some c => some c
    | none => blkIn n b
  | .loop c => blkIn n c
  | .scope c => blkIn n c
  | _ => none
/- what lies there: the answer's box, the state, the message, the words, the state of a block's rounds -/
structure Bx (w wr : World) (gm gw gs : Nat) (L H W S : List Nat) : Prop where
  out : Arr .u8 61 wr w.heap.size Zb32
  hb : Arr .u32 94 wr (w.heap.size + 1) H
  ms : Row wr gm 0 L
  wb : Arr .u32 91 wr gw W
  sb : Arr .u32 94 wr gs S
  bel : Below w.heap.size w wr
  lm : w.heap.size + 1 < gm
  lw : w.heap.size + 1 < gw
  ls : w.heap.size + 1 < gs
  mw : gm ≠ gw
  msn : gm ≠ gs
  ws : gw ≠ gs
  tm : gm < wr.heap.size
theorem Row.oth {w w' : World} {g b off : Nat} {l : List Nat} (h : Row w b off l) (o : Oth g w w') (hb : b ≠ g) : Row w' b off l := fun i hi => (o.cell (p := ⟨b, off + i, none⟩) hb).trans (h i hi)
theorem Row.below {w w' : World} {B b off : Nat} {l : List Nat} (h : Row w b off l) (o : Below B w w') (hb : b < B) : Row w' b off l := fun i hi => (o.cell (p := ⟨b, off + i, none⟩) hb).trans (h i hi)
section
variable {w wr w' : World} {gm gw gs : Nat} {L H W S : List Nat}
theorem Bx.below (h : Bx w wr gm gw gs L H W S) (b : Below wr.heap.size wr w') : Bx w w' gm gw gs L H W S :=
  ⟨h.out.below b h.out.lt, h.hb.below b h.hb.lt, h.ms.below b h.tm, h.wb.below b h.wb.lt, h.sb.below b h.sb.lt, h.bel.trans (b.mono h.bel.size), h.lm, h.lw, h.ls, h.mw, h.msn, h.ws, Nat.lt_of_lt_of_le h.tm b.size⟩
theorem Bx.drewN (h : Bx w wr gm gw gs L H W S) (n : Nat) : Bx w (wr.drewN n) gm gw gs L H W S := h.below (below_drewN (Below.refl _ _) n)
theorem Bx.drew (h : Bx w wr gm gw gs L H W S) : Bx w wr.drew gm gw gs L H W S := h.drewN 1
theorem Bx.setH (h : Bx w wr gm gw gs L H W S) (i x : Nat) : Bx w (wr.setCell ⟨w.heap.size + 1, i, none⟩ (.int .u32 (x : Nat))) gm gw gs L (H.set i x) W S := by
  have o : Oth (w.heap.size + 1) wr (wr.setCell ⟨w.heap.size + 1, i, none⟩ (.int .u32 (x : Nat))) := (Oth.refl _ wr).setCell i _
  have h1 := h.lm; have h2 := h.lw; have h3 := h.ls
  exact ⟨h.out.oth o (by omega), h.hb.set i x, h.ms.oth o (by omega), h.wb.oth o (by omega), h.sb.oth o (by omega), o.below h.bel (by omega), h1, h2, h3, h.mw, h.msn, h.ws, by rw [o.size]; exact h.tm⟩
theorem Bx.setW (h : Bx w wr gm gw gs L H W S) (i x : Nat) : Bx w (wr.setCell ⟨gw, i, none⟩ (.int .u32 (x : Nat))) gm gw gs L H (W.set i x) S := by
  have o : Oth gw wr (wr.setCell ⟨gw, i, none⟩ (.int .u32 (x : Nat))) := (Oth.refl _ wr).setCell i _
  have h1 := h.lm; have h2 := h.lw; have h3 := h.ls
  exact ⟨h.out.oth o (by omega), h.hb.oth o (by omega), h.ms.oth o h.mw, h.wb.set i x, h.sb.oth o (Ne.symm h.ws), o.below h.bel (by omega), h1, h2, h3, h.mw, h.msn, h.ws, by rw [o.size]; exact h.tm⟩
theorem Bx.setS (h : Bx w wr gm gw gs L H W S) (i x : Nat) : Bx w (wr.setCell ⟨gs, i, none⟩ (.int .u32 (x : Nat))) gm gw gs L H W (S.set i x) := by
  have o : Oth gs wr (wr.setCell ⟨gs, i, none⟩ (.int .u32 (x : Nat))) := (Oth.refl _ wr).setCell i _
  have h1 := h.lm; have h2 := h.lw; have h3 := h.ls
  exact ⟨h.out.oth o (by omega), h.hb.oth o (by omega), h.ms.oth o h.msn, h.wb.oth o h.ws, h.sb.set i x, o.below h.bel (by omega), h1, h2, h3, h.mw, h.msn, h.ws, by rw [o.size]; exact h.tm⟩
end
/- the same ahead of the rounds -/
structure Bw (w wr : World) (gm gw : Nat) (L H W : List Nat) : Prop where
  out : Arr .u8 61 wr w.heap.size Zb32
  hb : Arr .u32 94 wr (w.heap.size + 1) H
  ms : Row wr gm 0 L
  wb : Arr .u32 91 wr gw W
  bel : Below w.heap.size w wr
  lm : w.heap.size + 1 < gm
  lw : w.heap.size + 1 < gw
  mw : gm ≠ gw
  tm : gm < wr.heap.size
section
variable {w wr w' : World} {gm gw gs : Nat} {L H W S : List Nat}
theorem Bw.below (h : Bw w wr gm gw L H W) (b : Below wr.heap.size wr w') : Bw w w' gm gw L H W :=
  ⟨h.out.below b h.out.lt, h.hb.below b h.hb.lt, h.ms.below b h.tm, h.wb.below b h.wb.lt, h.bel.trans (b.mono h.bel.size), h.lm, h.lw, h.mw, Nat.lt_of_lt_of_le h.tm b.size⟩
theorem Bw.drewN (h : Bw w wr gm gw L H W) (n : Nat) : Bw w (wr.drewN n) gm gw L H W := h.below (below_drewN (Below.refl _ _) n)
theorem Bw.drew (h : Bw w wr gm gw L H W) : Bw w wr.drew gm gw L H W := h.drewN 1
theorem Bw.setW (h : Bw w wr gm gw L H W) (i x : Nat) : Bw w (wr.setCell ⟨gw, i, none⟩ (.int .u32 (x : Nat))) gm gw L H (W.set i x) := by
  have o : Oth gw wr (wr.setCell ⟨gw, i, none⟩ (.int .u32 (x : Nat))) := (Oth.refl _ wr).setCell i _
  have h1 := h.lm; have h2 := h.lw
  exact ⟨h.out.oth o (by omega), h.hb.oth o (by omega), h.ms.oth o h.mw, h.wb.set i x, o.below h.bel (by omega), h1, h2, h.mw, by rw [o.size]; exact h.tm⟩
theorem Bw.bx (h : Bw w wr gm gw L H W) (S : List Nat) : Bx w (wr.alloc (.cells (cs .u32 S) 94)) gm gw wr.heap.size L H W S := by
  have b : Below wr.heap.size wr (wr.alloc (.cells (cs .u32 S) 94)) := (Below.refl _ _).alloc (Nat.le_refl _) _
  have h1 := h.below b
  have h2 := h.hb.lt
  exact ⟨h1.out, h1.hb, h1.ms, h1.wb, Arr.new wr .u32 94 S, h1.bel, h.lm, h.lw, h2, h.mw, Nat.ne_of_lt h.tm, Nat.ne_of_lt h.wb.lt, h1.tm⟩
end
/- the same between the blocks -/
structure Bm (w wr : World) (gm : Nat) (L H : List Nat) : Prop where
  out : Arr .u8 61 wr w.heap.size Zb32
  hb : Arr .u32 94 wr (w.heap.size + 1) H
  ms : Row wr gm 0 L
  bel : Below w.heap.size w wr
  lm : w.heap.size + 1 < gm
  tm : gm < wr.heap.size
theorem Bx.bm {w wr : World} {gm gw gs : Nat} {L H W S : List Nat} (h : Bx w wr gm gw gs L H W S) : Bm w wr gm L H := ⟨h.out, h.hb, h.ms, h.bel, h.lm, h.tm⟩
theorem Bm.bw {w wr : World} {gm : Nat} {L H : List Nat} (h : Bm w wr gm L H) (W : List Nat) : Bw w (wr.alloc (.cells (cs .u32 W) 91)) gm wr.heap.size L H W := by
  have b : Below wr.heap.size wr (wr.alloc (.cells (cs .u32 W) 91)) := (Below.refl _ _).alloc (Nat.le_refl _) _
  have h2 := h.hb.lt
  exact ⟨h.out.below b h.out.lt, h.hb.below b h.hb.lt, h.ms.below b h.tm, Arr.new wr .u32 91 W, h.bel.trans (b.mono h.bel.size), h.lm, h2, Nat.ne_of_lt h.tm, Nat.lt_of_lt_of_le h.tm b.size⟩
/- the sums of two states, place by place -/
def addK (H S : List Nat) : Nat → List Nat
  | 0 => H
  | k + 1 => (addK H S k).set k (Gs.add ((addK H S k).getD k 0) (S.getD k 0))
theorem addK_length (H S : List Nat) (k : Nat) : (addK H S k).length = H.length := by
  induction k with
  | zero => rfl
  | succ k ih => simp [addK, ih]
theorem eight {H : List Nat} (h : H.length = 8) : ∃ a b c d e f g i, H = [a, b, c, d, e, f, g, i] := by
  match H, h with
  | [a, b, c, d, e, f, g, i], _ => exact ⟨a, b, c, d, e, f, g, i, rfl⟩
theorem addK_all {H : List Nat} (h : H.length = 8) (r : Gs.St) : addK H (Gs.toL r) 8 = Gs.addL H r := by
  obtain ⟨a, b, c, d, e, f, g, i, rfl⟩ := eight h
  rfl
/- the state moved on by one place -/
def shf (S : List Nat) : Nat → List Nat
  | 0 => S
  | k + 1 => (shf S k).set (7 - k) ((shf S k).getD (6 - k) 0)
theorem shf_length (S : List Nat) (k : Nat) : (shf S k).length = S.length := by
  induction k with
  | zero => rfl
  | succ k ih => simp [shf, ih]
theorem shf_all (a b c d e f g h : Nat) : shf [a, b, c, d, e, f, g, h] 7 = [a, a, b, c, d, e, f, g] := rfl
/- the digest byte by byte -/
def outN (H : List Nat) : Nat → List Nat
  | 0 => []
  | k + 1 => outN H k ++ [H.getD (k / 4) 0 / 256 ^ (3 - k % 4) % 256]
theorem outN_length (H : List Nat) (k : Nat) : (outN H k).length = k := by
  induction k with
  | zero => rfl
  | succ k ih => simp [outN, ih]
theorem outN_all (H : List Nat) : outN H 32 = Gs.digest H := by
  simp [outN, Gs.digest, Gs.digestN, Gs.bytesW]
/- a word put together byte by byte -/
def partW (B : List Nat) (t : Nat) : Nat → Nat
  | 0 => 0
  | i + 1 => partW B t i * 256 + B.getD (4 * t + i) 0
theorem partW_all (B : List Nat) (t : Nat) : partW B t 4 = Gs.word (B.getD (4 * t) 0) (B.getD (4 * t + 1) 0) (B.getD (4 * t + 2) 0) (B.getD (4 * t + 3) 0) := by
  simp only [partW, Gs.word, Nat.add_zero]
  omega
theorem partW_lt {B : List Nat} (h : ∀ x ∈ B, x < 256) (t i : Nat) : partW B t i < 256 ^ i := by
  induction i with
  | zero => simp [partW]
  | succ i ih =>
    have := getD_lt h (4 * t + i)
    rw [Nat.pow_succ]
    show partW B t i * 256 + B.getD (4 * t + i) 0 < _
    omega
end Go.Proofs.YtmkknklkdgkbaaaDoor
