import Derived.Test.YtkdgakcmhnadfaaGreatDoorMRa
import Derived.Test.YtkdgakcmhnadfaaGreatDoorMRb
import Derived.Test.YtkdgakcmhnadfaaGreatDoorMSg
/- Rf -/
/- Plain words for the document's Sum: what lies in memory while it goes through the blocks, and the digest step by step. -/
namespace Go.Proofs.YtkdgakcmhnadfaaGreatDoor
open Go.ChangeShapes Go.WideShapes Go.ChangeAt Go.RowKit
set_option linter.unusedVariables false
set_option linter.unusedSimpArgs false
/- the piece of a function's code that is the block of that number -/
def blkIn (n : Nat) : Code → Option Code
  | .block i c => if i = n then some (.block i c) else blkIn n c
  | .seq a b => match blkIn n a with
    | some c => some c
    | none => blkIn n b
  | .cond _ a b => match blkIn n a with
    | some c => some c
    | none => blkIn n b
  | .loop c => blkIn n c
  | .scope c => blkIn n c
  | _ => none
/- what lies there: the answer's box, the state, the message, the words, the state of a block's rounds -/
structure Bx (w wr : World) (gm gw gs : Nat) (L H W S : List Nat) : Prop where
  out : Arr .u8 89 wr w.heap.size Zb32
  hb : Arr .u32 133 wr (w.heap.size + 1) H
  ms : Row wr gm 0 L
  wb : Arr .u32 131 wr gw W
  sb : Arr .u32 133 wr gs S
  bel : Below w.heap.size w wr
  lm : w.heap.size + 1 < gm
  lw : w.heap.size + 1 < gw
  ls : w.heap.size + 1 < gs
  mw : gm ≠ gw
  msn : gm ≠ gs
  ws : gw ≠ gs
  tm : gm < wr.heap.size
theorem Row.oth {w w' : World} {g b off : Nat} {l : List Nat} (h : Row w b off l) (o : Oth g w w') (hb : b ≠ g) : Row w' b off l := fun i hi => (o.cell (p := ⟨b, off + i, none⟩) hb).trans (h i hi)
theorem Row.below {w w' : World} {B b off : Nat} {l : List Nat} (h : Row w b off l) (o : Below B w w') (hb : b < B) : Row w' b off l := fun i hi => (o.cell (p := ⟨b, off + i, none⟩) hb).trans (h i hi)
section
variable {w wr w' : World} {gm gw gs : Nat} {L H W S : List Nat}
theorem Bx.below (h : Bx w wr gm gw gs L H W S) (b : Below wr.heap.size wr w') : Bx w w' gm gw gs L H W S :=
  ⟨h.out.below b h.out.lt, h.hb.below b h.hb.lt, h.ms.below b h.tm, h.wb.below b h.wb.lt, h.sb.below b h.sb.lt, h.bel.trans (b.mono h.bel.size), h.lm, h.lw, h.ls, h.mw, h.msn, h.ws, Nat.lt_of_lt_of_le h.tm b.size⟩
theorem Bx.drewN (h : Bx w wr gm gw gs L H W S) (n : Nat) : Bx w (wr.drewN n) gm gw gs L H W S := h.below (below_drewN (Below.refl _ _) n)
theorem Bx.drew (h : Bx w wr gm gw gs L H W S) : Bx w wr.drew gm gw gs L H W S := h.drewN 1
theorem Bx.setH (h : Bx w wr gm gw gs L H W S) (i x : Nat) : Bx w (wr.setCell ⟨w.heap.size + 1, i, none⟩ (.int .u32 (x : Nat))) gm gw gs L (H.set i x) W S := by
  have o : Oth (w.heap.size + 1) wr (wr.setCell ⟨w.heap.size + 1, i, none⟩ (.int .u32 (x : Nat))) := (Oth.refl _ wr).setCell i _
  have h1 := h.lm; have h2 := h.lw; have h3 := h.ls
  exact ⟨h.out.oth o (by omega), h.hb.set i x, h.ms.oth o (by omega), h.wb.oth o (by omega), h.sb.oth o (by omega), o.below h.bel (by omega), h1, h2, h3, h.mw, h.msn, h.ws, by rw [o.size]; exact h.tm⟩
theorem Bx.setW (h : Bx w wr gm gw gs L H W S) (i x : Nat) : Bx w (wr.setCell ⟨gw, i, none⟩ (.int .u32 (x : Nat))) gm gw gs L H (W.set i x) S := by
  have o : Oth gw wr (wr.setCell ⟨gw, i, none⟩ (.int .u32 (x : Nat))) := (Oth.refl _ wr).setCell i _
  have h1 := h.lm; have h2 := h.lw; have h3 := h.ls
  exact ⟨h.out.oth o (by omega), h.hb.oth o (by omega), h.ms.oth o h.mw, h.wb.set i x, h.sb.oth o (Ne.symm h.ws), o.below h.bel (by omega), h1, h2, h3, h.mw, h.msn, h.ws, by rw [o.size]; exact h.tm⟩
theorem Bx.setS (h : Bx w wr gm gw gs L H W S) (i x : Nat) : Bx w (wr.setCell ⟨gs, i, none⟩ (.int .u32 (x : Nat))) gm gw gs L H W (S.set i x) := by
  have o : Oth gs wr (wr.setCell ⟨gs, i, none⟩ (.int .u32 (x : Nat))) := (Oth.refl _ wr).setCell i _
  have h1 := h.lm; have h2 := h.lw; have h3 := h.ls
  exact ⟨h.out.oth o (by omega), h.hb.oth o (by omega), h.ms.oth o h.msn, h.wb.oth o h.ws, h.sb.set i x, o.below h.bel (by omega), h1, h2, h3, h.mw, h.msn, h.ws, by rw [o.size]; exact h.tm⟩
end
/- the same ahead of the rounds -/
structure Bw (w wr : World) (gm gw : Nat) (L H W : List Nat) : Prop where
  out : Arr .u8 89 wr w.heap.size Zb32
  hb : Arr .u32 133 wr (w.heap.size + 1) H
  ms : Row wr gm 0 L
  wb : Arr .u32 131 wr gw W
  bel : Below w.heap.size w wr
  lm : w.heap.size + 1 < gm
  lw : w.heap.size + 1 < gw
  mw : gm ≠ gw
  tm : gm < wr.heap.size
section
variable {w wr w' : World} {gm gw gs : Nat} {L H W S : List Nat}
theorem Bw.below (h : Bw w wr gm gw L H W) (b : Below wr.heap.size wr w') : Bw w w' gm gw L H W :=
  ⟨h.out.below b h.out.lt, h.hb.below b h.hb.lt, h.ms.below b h.tm, h.wb.below b h.wb.lt, h.bel.trans (b.mono h.bel.size), h.lm, h.lw, h.mw, Nat.lt_of_lt_of_le h.tm b.size⟩
theorem Bw.drewN (h : Bw w wr gm gw L H W) (n : Nat) : Bw w (wr.drewN n) gm gw L H W := h.below (below_drewN (Below.refl _ _) n)
theorem Bw.drew (h : Bw w wr gm gw L H W) : Bw w wr.drew gm gw L H W := h.drewN 1
theorem Bw.setW (h : Bw w wr gm gw L H W) (i x : Nat) : Bw w (wr.setCell ⟨gw, i, none⟩ (.int .u32 (x : Nat))) gm gw L H (W.set i x) := by
  have o : Oth gw wr (wr.setCell ⟨gw, i, none⟩ (.int .u32 (x : Nat))) := (Oth.refl _ wr).setCell i _
  have h1 := h.lm; have h2 := h.lw
  exact ⟨h.out.oth o (by omega), h.hb.oth o (by omega), h.ms.oth o h.mw, h.wb.set i x, o.below h.bel (by omega), h1, h2, h.mw, by rw [o.size]; exact h.tm⟩
theorem Bw.bx (h : Bw w wr gm gw L H W) (S : List Nat) : Bx w (wr.alloc (.cells (cs .u32 S) 133)) gm gw wr.heap.size L H W S := by
  have b : Below wr.heap.size wr (wr.alloc (.cells (cs .u32 S) 133)) := (Below.refl _ _).alloc (Nat.le_refl _) _
  have h1 := h.below b
  have h2 := h.hb.lt
  exact ⟨h1.out, h1.hb, h1.ms, h1.wb, Arr.new wr .u32 133 S, h1.bel, h.lm, h.lw, h2, h.mw, Nat.ne_of_lt h.tm, Nat.ne_of_lt h.wb.lt, h1.tm⟩
end
/- the same between the blocks -/
structure Bm (w wr : World) (gm : Nat) (L H : List Nat) : Prop where
  out : Arr .u8 89 wr w.heap.size Zb32
  hb : Arr .u32 133 wr (w.heap.size + 1) H
  ms : Row wr gm 0 L
  bel : Below w.heap.size w wr
  lm : w.heap.size + 1 < gm
  tm : gm < wr.heap.size
theorem Bx.bm {w wr : World} {gm gw gs : Nat} {L H W S : List Nat} (h : Bx w wr gm gw gs L H W S) : Bm w wr gm L H := ⟨h.out, h.hb, h.ms, h.bel, h.lm, h.tm⟩
theorem Bm.bw {w wr : World} {gm : Nat} {L H : List Nat} (h : Bm w wr gm L H) (W : List Nat) : Bw w (wr.alloc (.cells (cs .u32 W) 131)) gm wr.heap.size L H W := by
  have b : Below wr.heap.size wr (wr.alloc (.cells (cs .u32 W) 131)) := (Below.refl _ _).alloc (Nat.le_refl _) _
  have h2 := h.hb.lt
  exact ⟨h.out.below b h.out.lt, h.hb.below b h.hb.lt, h.ms.below b h.tm, Arr.new wr .u32 131 W, h.bel.trans (b.mono h.bel.size), h.lm, h2, Nat.ne_of_lt h.tm, Nat.lt_of_lt_of_le h.tm b.size⟩
/- the sums of two states, place by place -/
def addK (H S : List Nat) : Nat → List Nat
  | 0 => H
  | k + 1 => (addK H S k).set k (Gs.add ((addK H S k).getD k 0) (S.getD k 0))
theorem addK_length (H S : List Nat) (k : Nat) : (addK H S k).length = H.length := by
  induction k with
  | zero => rfl
  | succ k ih => simp [addK, ih]
theorem eight {H : List Nat} (h : H.length = 8) : ∃ a b c d e f g i, H = [a, b, c, d, e, f, g, i] := by
  match H, h with
  | [a, b, c, d, e, f, g, i], _ => exact ⟨a, b, c, d, e, f, g, i, rfl⟩
theorem addK_all {H : List Nat} (h : H.length = 8) (r : Gs.St) : addK H (Gs.toL r) 8 = Gs.addL H r := by
  obtain ⟨a, b, c, d, e, f, g, i, rfl⟩ := eight h
  rfl
/- the state moved on by one place -/
def shf (S : List Nat) : Nat → List Nat
  | 0 => S
  | k + 1 => (shf S k).set (7 - k) ((shf S k).getD (6 - k) 0)
theorem shf_length (S : List Nat) (k : Nat) : (shf S k).length = S.length := by
  induction k with
  | zero => rfl
  | succ k ih => simp [shf, ih]
theorem shf_all (a b c d e f g h : Nat) : shf [a, b, c, d, e, f, g, h] 7 = [a, a, b, c, d, e, f, g] := rfl
/- the digest byte by byte -/
def outN (H : List Nat) : Nat → List Nat
  | 0 => []
  | k + 1 => outN H k ++ [H.getD (k / 4) 0 / 256 ^ (3 - k % 4) % 256]
theorem outN_length (H : List Nat) (k : Nat) : (outN H k).length = k := by
  induction k with
  | zero => rfl
  | succ k ih => simp [outN, ih]
theorem outN_all (H : List Nat) : outN H 32 = Gs.digest H := by
  simp [outN, Gs.digest, Gs.digestN, Gs.bytesW]
/- a word put together byte by byte -/
def partW (B : List Nat) (t : Nat) : Nat → Nat
  | 0 => 0
  | i + 1 => partW B t i * 256 + B.getD (4 * t + i) 0
theorem partW_all (B : List Nat) (t : Nat) : partW B t 4 = Gs.word (B.getD (4 * t) 0) (B.getD (4 * t + 1) 0) (B.getD (4 * t + 2) 0) (B.getD (4 * t + 3) 0) := by
  simp only [partW, Gs.word, Nat.add_zero]
  omega
theorem partW_lt {B : List Nat} (h : ∀ x ∈ B, x < 256) (t i : Nat) : partW B t i < 256 ^ i := by
  induction i with
  | zero => simp [partW]
  | succ i ih =>
    have := getD_lt h (4 * t + i)
    rw [Nat.pow_succ]
    show partW B t i * 256 + B.getD (4 * t + i) 0 < _
    omega
end Go.Proofs.YtkdgakcmhnadfaaGreatDoor

/- Rh -/
/- What the document's bytes of a state do to a machine. -/
namespace Go.Proofs.YtkdgakcmhnadfaaGreatDoor
open Go.ChangeShapes Go.WideShapes Go.ChangeAt Go.RowKit
set_option linter.unusedVariables false
set_option linter.unusedSimpArgs false
structure Bo (w wr : World) (g : Nat) (H l : List Nat) : Prop where
  out : Arr .u8 89 wr w.heap.size Zb32
  hb : Arr .u32 133 wr (w.heap.size + 1) H
  acc : Arr .u8 89 wr g (ext l 32)
  bel : Below w.heap.size w wr
  lg : w.heap.size + 1 < g
theorem Bo.snoc {w wr : World} {g : Nat} {H l : List Nat} {k x : Nat} (h : Bo w wr g H l) (hl : l.length = k) (hk : k < 32) : Bo w (wr.setCell ⟨g, k, none⟩ (.int .u8 (x : Int))) g H (l ++ [x]) := by
  have o : Oth g wr (wr.setCell ⟨g, k, none⟩ (.int .u8 (x : Int))) := (Oth.refl _ wr).setCell k _
  have h1 := h.lg
  refine ⟨h.out.oth o (by omega), h.hb.oth o (by omega), ?_, o.below h.bel (by omega), h1⟩
  rw [← ext_set' hl hk]
  exact h.acc.set k x
theorem Bm.bo {w wr : World} {gm : Nat} {L H : List Nat} (h : Bm w wr gm L H) : Bo w (wr.alloc (.cells (cs .u8 Zb32) 89)) wr.heap.size H [] := by
  have b : Below wr.heap.size wr (wr.alloc (.cells (cs .u8 Zb32) 89)) := (Below.refl _ _).alloc (Nat.le_refl _) _
  exact ⟨h.out.below b h.out.lt, h.hb.below b h.hb.lt, Arr.new wr .u8 89 Zb32, h.bel.trans (b.mono h.bel.size), h.hb.lt⟩
set_option maxRecDepth 20000 in
set_option maxHeartbeats 2000000 in
theorem blk12 {K : Act → World → Prop} {Q' : Exit → Act → World → Prop} (w wr : World) (g : Nat) (H : List Nat) (hH : Hid (H.length = 8)) (hB : Hid (Bo w wr g H [])) (c0 c1 c2 c4 c5 c6 c7 c8 c9 c10 c11 c12 c13 c14 c15 c16 c17 c18 c20 c21 c22 c23 c24 c25 c26 c27 c28 c29 c30 c31 c32 c33 c34 c35 c36 c37 c38 c39 c40 c41 c42 c43 c44 c45 c46 c47 c48 c49 c50 c51 c52 c53 c54 c55 c56 c57 c58 c59 c60 c61 c62 c63 c64 c65 c66 c67 c68 c69 c70 c71 c72 c73 c74 c75 c76 c77 c78 c79 c80 c81 c82 c83 c84 c85 c86 c87 c88 c89 c90 c91 c92 c93 c94 c95 c96 c97 c98 c99 c100 c101 c102 c103 c104 c105 c106 c107 c108 c109 c110 c111 c112 c113 c114 c115 c116 c117 c118 c119 c120 c121 c122 c123 c124 c125 c126 c127 c128 c129 c130 c131 c132 c133 c134 c135 c136 c137 c138 c139 c140 c141 c142 c143 c144 c145 c146 c147 c148 c149 c150 c151 c152 c153 c154 c155 c156 c157 c158 c159 c160 c161 c162 c163 c164 c165 c166 c167 c168 c169 c170 c171 c172 c173 c174 c175 c176 c177 c178 c179 c180 c181 c182 c183 c184 c185 c186 c187 c188 c189 c190 c191 c192 c193 c194 c195 c196 c197 c198 c199 c200 c201 c202 c203 c205 c206 c207 c208 c209 c210 c211 c212 c213 c214 c215 c216 c217 c218 c219 c220 c221 : Value)
    (hK : Hid (∀ (u20 u204 u205 u206 u207 u208 u209 u210 u211 u212 u213 u214 u215 u216 u217 u218 u219 u220 : Value) (w' : World), Bo w w' g H (outN H 32) → K ⟨#[c0, c1, c2, .pointer (some ⟨w.heap.size + 1, 0, none⟩), c4, c5, c6, c7, c8, c9, c10, c11, c12, c13, c14, c15, c16, c17, c18, .pointer (some ⟨g, 0, none⟩), u20, c21, c22, c23, c24, c25, c26, c27, c28, c29, c30, c31, c32, c33, c34, c35, c36, c37, c38, c39, c40, c41, c42, c43, c44, c45, c46, c47, c48, c49, c50, c51, c52, c53, c54, c55, c56, c57, c58, c59, c60, c61, c62, c63, c64, c65, c66, c67, c68, c69, c70, c71, c72, c73, c74, c75, c76, c77, c78, c79, c80, c81, c82, c83, c84, c85, c86, c87, c88, c89, c90, c91, c92, c93, c94, c95, c96, c97, c98, c99, c100, c101, c102, c103, c104, c105, c106, c107, c108, c109, c110, c111, c112, c113, c114, c115, c116, c117, c118, c119, c120, c121, c122, c123, c124, c125, c126, c127, c128, c129, c130, c131, c132, c133, c134, c135, c136, c137, c138, c139, c140, c141, c142, c143, c144, c145, c146, c147, c148, c149, c150, c151, c152, c153, c154, c155, c156, c157, c158, c159, c160, c161, c162, c163, c164, c165, c166, c167, c168, c169, c170, c171, c172, c173, c174, c175, c176, c177, c178, c179, c180, c181, c182, c183, c184, c185, c186, c187, c188, c189, c190, c191, c192, c193, c194, c195, c196, c197, c198, c199, c200, c201, c202, c203, u204, u205, u206, u207, u208, u209, u210, u211, u212, u213, u214, u215, u216, u217, u218, u219, u220, c221], []⟩ w')) :
    Code.wp Tryz.prog ((Tryz.f52.body.bind (blkIn 12)).getD .skip) (Exit.then K Q') ⟨#[c0, c1, c2, .pointer (some ⟨w.heap.size + 1, 0, none⟩), c4, c5, c6, c7, c8, c9, c10, c11, c12, c13, c14, c15, c16, c17, c18, .pointer (some ⟨g, 0, none⟩), c20, c21, c22, c23, c24, c25, c26, c27, c28, c29, c30, c31, c32, c33, c34, c35, c36, c37, c38, c39, c40, c41, c42, c43, c44, c45, c46, c47, c48, c49, c50, c51, c52, c53, c54, c55, c56, c57, c58, c59, c60, c61, c62, c63, c64, c65, c66, c67, c68, c69, c70, c71, c72, c73, c74, c75, c76, c77, c78, c79, c80, c81, c82, c83, c84, c85, c86, c87, c88, c89, c90, c91, c92, c93, c94, c95, c96, c97, c98, c99, c100, c101, c102, c103, c104, c105, c106, c107, c108, c109, c110, c111, c112, c113, c114, c115, c116, c117, c118, c119, c120, c121, c122, c123, c124, c125, c126, c127, c128, c129, c130, c131, c132, c133, c134, c135, c136, c137, c138, c139, c140, c141, c142, c143, c144, c145, c146, c147, c148, c149, c150, c151, c152, c153, c154, c155, c156, c157, c158, c159, c160, c161, c162, c163, c164, c165, c166, c167, c168, c169, c170, c171, c172, c173, c174, c175, c176, c177, c178, c179, c180, c181, c182, c183, c184, c185, c186, c187, c188, c189, c190, c191, c192, c193, c194, c195, c196, c197, c198, c199, c200, c201, c202, c203, .int .i64 0, c205, c206, c207, c208, c209, c210, c211, c212, c213, c214, c215, c216, c217, c218, c219, c220, c221], []⟩ wr := by
  conv => arg 2; whnf
  go_wp2
  go_loopw [204] (fun ti wr => ∃ k : Nat, k ≤ 32 ∧ ti = .int .i64 k ∧ Hid (Bo w wr g H (outN H k))) (fun ti _ => 32 - (intOf ti).toNat)
  case atStart => exact ⟨0, by omega, rfl, hB.out⟩
  case round =>
    obtain ⟨k, hk, rfl, HK⟩ := hrel
    by_cases hlt : k < 32
    · obtain ⟨l, Hl⟩ : ∃ l, Hid (outN H k = l) := ⟨_, rfl⟩
      rw [Hl.out] at HK
      have Ll : Hid (l.length = k) := by rw [← Hl.out, outN_length]; exact rfl
      obtain ⟨q, hq⟩ : ∃ q, q = k / 4 := ⟨_, rfl⟩
      obtain ⟨r, hr⟩ : ∃ r, r = k % 4 := ⟨_, rfl⟩
      have hq8 : q < 8 := by omega
      obtain ⟨x, X⟩ : ∃ x, Hid (H.getD q 0 = x) := ⟨_, rfl⟩
      have E : Hid (∀ v, x / 256 ^ (3 - r) % 256 = v → outN H (k + 1) = l ++ [v]) := by
        intro v hv
        show outN H k ++ [H.getD (k / 4) 0 / 256 ^ (3 - k % 4) % 256] = _
        rw [Hl.out, ← hq, ← hr, X.out, hv]
      have c1 : wr.cell? ⟨w.heap.size + 1, q, none⟩ = some (.int .u32 (x : Nat)) := by rw [← X.out]; exact HK.out.hb.cell (by rw [hH.out]; exact hq8)
      obtain ⟨z, c2⟩ : ∃ z : Nat, wr.cell? ⟨g, k, none⟩ = some (.int .u8 (z : Nat)) := ⟨_, HK.out.acc.cell (by rw [ext_length _ _ (by rw [Ll.out]; omega)]; exact hlt)⟩
      have f0 : wr.frozen? ⟨g, k, none⟩ = false := HK.out.acc.frozen k
      have i1 : (0 : Int) ≤ (k : Int) := by omega
      have i2 : (k : Int) < 32 := by omega
      have i3 : (0 : Int) ≤ (q : Int) := by omega
      have i4 : (q : Int) < 8 := by omega
      have t1 : Int.tdiv (k : Int) 4 = (q : Int) := by rw [Int.tdiv_eq_ediv_of_nonneg (by omega)]; omega
      have t2 : (k : Int) / 4 = (q : Int) := by omega
      have r3 : r < 4 := by omega
      have hr2 : (k : Int) % 4 = (r : Int) := by omega
      clear hq hr
      have hc : r = 0 ∨ r = 1 ∨ r = 2 ∨ r = 3 := by omega
      clear r3
      rcases hc with rfl | rfl | rfl | rfl
      · have t3 : Int.tmod (k : Int) 4 = 0 := by rw [Int.tmod_eq_emod_of_nonneg (by omega)]; omega
        have t4 : (k : Int) % 4 = 0 := by omega
        clear hr2
        obtain ⟨v, V⟩ : ∃ v, Hid (x / 16777216 % 256 = v) := ⟨_, rfl⟩
        have e0 : (x : Int) / 16777216 % 256 = (v : Int) := by rw [← V.out]; omega
        go_wp2
        go_roundw
        case rel =>
          refine ⟨k + 1, by omega, by go_num, ?_⟩
          rw [E.out v V.out]
          exact HK.out.snoc Ll.out hlt
        case measure => simp [intOf]; omega
      · have t3 : Int.tmod (k : Int) 4 = 1 := by rw [Int.tmod_eq_emod_of_nonneg (by omega)]; omega
        have t4 : (k : Int) % 4 = 1 := by omega
        clear hr2
        obtain ⟨v, V⟩ : ∃ v, Hid (x / 65536 % 256 = v) := ⟨_, rfl⟩
        have e0 : (x : Int) / 65536 % 256 = (v : Int) := by rw [← V.out]; omega
        go_wp2
        go_roundw
        case rel =>
          refine ⟨k + 1, by omega, by go_num, ?_⟩
          rw [E.out v V.out]
          exact HK.out.snoc Ll.out hlt
        case measure => simp [intOf]; omega
      · have t3 : Int.tmod (k : Int) 4 = 2 := by rw [Int.tmod_eq_emod_of_nonneg (by omega)]; omega
        have t4 : (k : Int) % 4 = 2 := by omega
        clear hr2
        obtain ⟨v, V⟩ : ∃ v, Hid (x / 256 % 256 = v) := ⟨_, rfl⟩
        have e0 : (x : Int) / 256 % 256 = (v : Int) := by rw [← V.out]; omega
        go_wp2
        go_roundw
        case rel =>
          refine ⟨k + 1, by omega, by go_num, ?_⟩
          rw [E.out v V.out]
          exact HK.out.snoc Ll.out hlt
        case measure => simp [intOf]; omega
      · have t3 : Int.tmod (k : Int) 4 = 3 := by rw [Int.tmod_eq_emod_of_nonneg (by omega)]; omega
        have t4 : (k : Int) % 4 = 3 := by omega
        clear hr2
        obtain ⟨v, V⟩ : ∃ v, Hid (x % 256 = v) := ⟨_, rfl⟩
        have e0 : (x : Int) % 256 = (v : Int) := by rw [← V.out]; omega
        go_wp2
        go_roundw
        case rel =>
          refine ⟨k + 1, by omega, by go_num, ?_⟩
          rw [E.out v (by rw [← V.out]; simp)]
          exact HK.out.snoc Ll.out hlt
        case measure => simp [intOf]; omega
    · have i2 : ¬ ((k : Int) < 32) := by omega
      have ek : Hid (k = 32) := (show k = 32 by omega)
      go_wp2
      have h8 := HK.out
      rw [ek.out] at h8
      exact hK.out _ _ _ _ _ _ _ _ _ _ _ _ _ _ _ _ _ _ _ h8
end Go.Proofs.YtkdgakcmhnadfaaGreatDoor

/- Rg -/
/- What the document's sums at the end of a block do to a machine. -/
namespace Go.Proofs.YtkdgakcmhnadfaaGreatDoor
open Go.ChangeShapes Go.WideShapes Go.ChangeAt Go.RowKit
set_option linter.unusedVariables false
set_option linter.unusedSimpArgs false
set_option maxRecDepth 20000 in
set_option maxHeartbeats 2000000 in
theorem blk10 {K : Act → World → Prop} {Q' : Exit → Act → World → Prop} (w wr : World) (gm gw gs : Nat) (L H W S : List Nat) (hH : Hid (H.length = 8)) (hS : Hid (S.length = 8)) (hB : Hid (Bx w wr gm gw gs L H W S)) (c0 c1 c2 c4 c5 c6 c7 c8 c9 c10 c12 c13 c14 c15 c16 c17 c18 c19 c20 c21 c22 c23 c24 c25 c26 c27 c28 c29 c30 c31 c32 c33 c34 c35 c36 c37 c38 c39 c40 c41 c42 c43 c44 c45 c46 c47 c48 c49 c50 c51 c52 c53 c54 c55 c56 c57 c58 c59 c60 c61 c62 c63 c64 c65 c66 c67 c68 c69 c70 c71 c72 c73 c74 c75 c76 c77 c78 c79 c80 c81 c82 c83 c84 c85 c86 c87 c88 c89 c90 c91 c92 c93 c94 c95 c96 c97 c98 c99 c100 c101 c102 c103 c104 c105 c106 c107 c108 c109 c110 c111 c112 c113 c114 c115 c116 c117 c118 c119 c120 c121 c122 c123 c124 c125 c126 c127 c128 c129 c130 c131 c132 c133 c134 c135 c136 c137 c138 c139 c140 c141 c142 c143 c144 c145 c146 c147 c148 c149 c150 c151 c152 c153 c154 c155 c156 c157 c158 c159 c160 c161 c162 c163 c164 c165 c166 c167 c168 c169 c170 c171 c172 c173 c174 c175 c176 c177 c178 c179 c180 c181 c182 c183 c184 c185 c186 c187 c188 c189 c190 c191 c193 c194 c195 c196 c197 c198 c199 c200 c201 c202 c203 c204 c205 c206 c207 c208 c209 c210 c211 c212 c213 c214 c215 c216 c217 c218 c219 c220 c221 : Value)
    (hK : Hid (∀ (u18 u192 u193 u194 u195 u196 u197 u198 u199 u200 u201 u202 u203 : Value) (w' : World), Bx w w' gm gw gs L (addK H S 8) W S → K ⟨#[c0, c1, c2, .pointer (some ⟨w.heap.size + 1, 0, none⟩), c4, c5, c6, c7, c8, c9, c10, .pointer (some ⟨gs, 0, none⟩), c12, c13, c14, c15, c16, c17, u18, c19, c20, c21, c22, c23, c24, c25, c26, c27, c28, c29, c30, c31, c32, c33, c34, c35, c36, c37, c38, c39, c40, c41, c42, c43, c44, c45, c46, c47, c48, c49, c50, c51, c52, c53, c54, c55, c56, c57, c58, c59, c60, c61, c62, c63, c64, c65, c66, c67, c68, c69, c70, c71, c72, c73, c74, c75, c76, c77, c78, c79, c80, c81, c82, c83, c84, c85, c86, c87, c88, c89, c90, c91, c92, c93, c94, c95, c96, c97, c98, c99, c100, c101, c102, c103, c104, c105, c106, c107, c108, c109, c110, c111, c112, c113, c114, c115, c116, c117, c118, c119, c120, c121, c122, c123, c124, c125, c126, c127, c128, c129, c130, c131, c132, c133, c134, c135, c136, c137, c138, c139, c140, c141, c142, c143, c144, c145, c146, c147, c148, c149, c150, c151, c152, c153, c154, c155, c156, c157, c158, c159, c160, c161, c162, c163, c164, c165, c166, c167, c168, c169, c170, c171, c172, c173, c174, c175, c176, c177, c178, c179, c180, c181, c182, c183, c184, c185, c186, c187, c188, c189, c190, c191, u192, u193, u194, u195, u196, u197, u198, u199, u200, u201, u202, u203, c204, c205, c206, c207, c208, c209, c210, c211, c212, c213, c214, c215, c216, c217, c218, c219, c220, c221], []⟩ w')) :
    Code.wp Tryz.prog ((Tryz.f52.body.bind (blkIn 10)).getD .skip) (Exit.then K Q') ⟨#[c0, c1, c2, .pointer (some ⟨w.heap.size + 1, 0, none⟩), c4, c5, c6, c7, c8, c9, c10, .pointer (some ⟨gs, 0, none⟩), c12, c13, c14, c15, c16, c17, c18, c19, c20, c21, c22, c23, c24, c25, c26, c27, c28, c29, c30, c31, c32, c33, c34, c35, c36, c37, c38, c39, c40, c41, c42, c43, c44, c45, c46, c47, c48, c49, c50, c51, c52, c53, c54, c55, c56, c57, c58, c59, c60, c61, c62, c63, c64, c65, c66, c67, c68, c69, c70, c71, c72, c73, c74, c75, c76, c77, c78, c79, c80, c81, c82, c83, c84, c85, c86, c87, c88, c89, c90, c91, c92, c93, c94, c95, c96, c97, c98, c99, c100, c101, c102, c103, c104, c105, c106, c107, c108, c109, c110, c111, c112, c113, c114, c115, c116, c117, c118, c119, c120, c121, c122, c123, c124, c125, c126, c127, c128, c129, c130, c131, c132, c133, c134, c135, c136, c137, c138, c139, c140, c141, c142, c143, c144, c145, c146, c147, c148, c149, c150, c151, c152, c153, c154, c155, c156, c157, c158, c159, c160, c161, c162, c163, c164, c165, c166, c167, c168, c169, c170, c171, c172, c173, c174, c175, c176, c177, c178, c179, c180, c181, c182, c183, c184, c185, c186, c187, c188, c189, c190, c191, .int .i64 0, c193, c194, c195, c196, c197, c198, c199, c200, c201, c202, c203, c204, c205, c206, c207, c208, c209, c210, c211, c212, c213, c214, c215, c216, c217, c218, c219, c220, c221], []⟩ wr := by
  conv => arg 2; whnf
  go_wp2
  go_loopw [192] (fun ti wr => ∃ k : Nat, k ≤ 8 ∧ ti = .int .i64 k ∧ Hid (Bx w wr gm gw gs L (addK H S k) W S)) (fun ti _ => 8 - (intOf ti).toNat)
  case atStart => exact ⟨0, by omega, rfl, hB.out⟩
  case round =>
    obtain ⟨k, hk, rfl, HK⟩ := hrel
    by_cases hlt : k < 8
    · obtain ⟨h, Hh⟩ : ∃ h, Hid (addK H S k = h) := ⟨_, rfl⟩
      rw [Hh.out] at HK
      have Lh : Hid (h.length = 8) := by rw [← Hh.out, addK_length]; exact hH.out
      obtain ⟨x, X⟩ : ∃ x, Hid (h.getD k 0 = x) := ⟨_, rfl⟩
      obtain ⟨y, Y⟩ : ∃ x, Hid (S.getD k 0 = x) := ⟨_, rfl⟩
      obtain ⟨m, M⟩ : ∃ z, Hid (Gs.add x y = z) := ⟨_, rfl⟩
      have c1 : wr.cell? ⟨w.heap.size + 1, k, none⟩ = some (.int .u32 (x : Nat)) := by rw [← X.out]; exact HK.out.hb.cell (by rw [Lh.out]; exact hlt)
      have c2 : wr.cell? ⟨gs, k, none⟩ = some (.int .u32 (y : Nat)) := by rw [← Y.out]; exact HK.out.sb.cell (by rw [hS.out]; exact hlt)
      have f0 : wr.frozen? ⟨w.heap.size + 1, k, none⟩ = false := HK.out.hb.frozen k
      have i1 : (0 : Int) ≤ (k : Int) := by omega
      have i2 : (k : Int) < 8 := by omega
      have w1 : IntKind.u32.wrap ((x : Int) + (y : Int)) = (m : Int) := by rw [add_wrap, M.out]
      go_wp2
      go_still_tail 8, (by kernel_rfl)
      go_wp2
      go_roundw
      case rel =>
        refine ⟨k + 1, by omega, by go_num, ?_⟩
        have e : addK H S (k + 1) = h.set k m := by
          show (addK H S k).set k (Gs.add ((addK H S k).getD k 0) (S.getD k 0)) = _
          rw [Hh.out, X.out, Y.out, M.out]
        rw [e]
        exact HK.out.drew.setH k m
      case measure => simp [intOf]; omega
    · have i2 : ¬ ((k : Int) < 8) := by omega
      have ek : Hid (k = 8) := (show k = 8 by omega)
      go_wp2
      have h8 := HK.out
      rw [ek.out] at h8
      exact hK.out _ _ _ _ _ _ _ _ _ _ _ _ _ _ h8
end Go.Proofs.YtkdgakcmhnadfaaGreatDoor
