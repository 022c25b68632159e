import Derived.Test.YtkdgakcmhnadfaaGreatDoorMRj
import Derived.Deep.CutBlock
import Derived.Deep.RegionHeld
import Derived.Test.YtkdgakcmhnadfaaGreatDoorMRf
import Derived.Test.YtkdgakcmhnadfaaGreatDoorMRb
/- Rl -/
/- What the document's rounds of a block do to a machine. -/
namespace Go.Proofs.YtkdgakcmhnadfaaGreatDoor
open Go.ChangeShapes Go.WideShapes Go.ChangeAt Go.RowKit
set_option linter.unusedVariables false
set_option linter.unusedSimpArgs false
theorem choice_r {e f g : Nat} (he : e < 4294967296) (hf : f < 4294967296) (hg : g < 4294967296) : bits BinOp.xor IntKind.u32 (bits BinOp.and IntKind.u32 (e : Int) (f : Int)) (bits BinOp.and IntKind.u32 (bits BinOp.xor IntKind.u32 (e : Int) 4294967295) (g : Int)) = ((Gs.choice e f g : Nat) : Int) := by
  have e1 : bits BinOp.xor IntKind.u32 (e : Int) 4294967295 = ((4294967295 - e : Nat) : Int) := by
    have h := xor_nat he (show 4294967295 < 4294967296 by decide)
    rw [Nat.xor_comm, xor_all he] at h
    exact h
  rw [e1, and_nat he hf, and_nat (by omega) hg, xor_nat (Gs.and_lt he) (Gs.and_lt (by omega))]
  rfl
theorem refrot_g (x : Nat) (z : Int) (hx : x < 4294967296) (h0 : 0 < z) (h1 : z < 32) (w : World) :
    Calls Tryz.prog 85 #[.int .u32 (x : Int), .int .u64 z] w fun e w' => e = .returned (.int .u32 (Gs.rot z.toNat x : Nat)) ∧ w' = w :=
  refrot_z x z.toNat z (by omega) hx (by omega) (by omega) w
structure Rn (w wr : World) (gm gw gs : Nat) (L H W : List Nat) (n a b c d e f g h : Nat) : Prop where
  bx : Bx w wr gm gw gs L H W [a, b, c, d, e, f, g, h]
  eq : Gs.rounds W (Gs.ofL H) n = ⟨a, b, c, d, e, f, g, h⟩
  ok : Ok ⟨a, b, c, d, e, f, g, h⟩
theorem Bx.keep {w W w2 : World} {gm gw gs : Nat} {L H Wd S : List Nat} {a1 a2 a3 : Addr} {v1 v2 v3 : Value} (hb : Below W.heap.size W w2) (h1 : a1.spot = none) (h2 : a2.spot = none) (h3 : a3.spot = none)
    (h : W.cell? a1 = some v1 ∧ W.cell? a2 = some v2 ∧ W.cell? a3 = some v3 ∧ Hid (Bx w W gm gw gs L H Wd S)) : w2.cell? a1 = some v1 ∧ w2.cell? a2 = some v2 ∧ w2.cell? a3 = some v3 ∧ Hid (Bx w w2 gm gw gs L H Wd S) := by
  obtain ⟨b1, o1, s1⟩ := a1
  obtain ⟨b2, o2, s2⟩ := a2
  obtain ⟨b3, o3, s3⟩ := a3
  simp only at h1 h2 h3
  subst h1 h2 h3
  exact ⟨(hb.cell (p := ⟨b1, o1, none⟩) (cell_lt h.1)).trans h.1, (hb.cell (p := ⟨b2, o2, none⟩) (cell_lt h.2.1)).trans h.2.1, (hb.cell (p := ⟨b3, o3, none⟩) (cell_lt h.2.2.1)).trans h.2.2.1, h.2.2.2.out.below hb⟩
/- a piece of code that ends no other way than by its end -/
theorem wp_ends {s : Code} {K : Act → World → Prop} {Q' : Exit → Act → World → Prop} {a : Act} {w : World} (h : Code.wp Tryz.prog s (Exit.then K (fun _ _ _ => False)) a w) : Code.wp Tryz.prog s (Exit.then K Q') a w := by
  refine wp_mono h ?_
  intro e a' w' hq
  cases e with
  | normal => exact hq
  | exit id => exact hq.elim
  | goto l => exact hq.elim
  | ret => exact hq.elim
  | panic ch => exact hq.elim
  | outgrown => exact hq.elim
/- a store of one word -/
theorem wpList_stw {ops : Array Oper} {rest : List Oper} {o : Oper} {a : Act} {Q : Exit → Act → World → Prop} {w : World} {t : TypeId} {g i : Nat} {l : List Nat} {v : Int} (hgd : o.guard = none) (hd : o.dst = none) (x y : Operand)
    (ho : o.op = .store 131 x y) (hx : a.eval x = .pointer (some ⟨g, i, none⟩)) (hy : a.eval y = .int .u32 v) (hr : Hid (Arr .u32 t w g l)) (hi : i < l.length)
    (h : wpList Tryz.prog ops Q rest a (w.setCell ⟨g, i, none⟩ (.int .u32 v))) : wpList Tryz.prog ops Q (o :: rest) a w := by
  refine wpList_plain hgd fun K hK => ?_
  have c := hr.out.cell hi
  have f := hr.out.frozen i
  have h2 := hK _ _ h
  unfold Oper.wp execOp
  simp only [ho, hx, hy, Instr.storeAt, Instr.sureAddr, Sem.run_bind, Sem.run_pure, Result.andThen_ok]
  have hs : (storeVar 131 ⟨g, i, none⟩ (.int .u32 v)).run Tryz.prog w = .ok () (w.setCell ⟨g, i, none⟩ (.int .u32 v)) := by
    simp [go_sem, storeVar, c, f]
  rw [hs]
  show K (a.put o.dst undef) _
  rw [hd]
  exact h2
set_option maxRecDepth 20000 in
set_option maxHeartbeats 2000000 in
theorem blk6 {K : Act → World → Prop} (w wr : World) (gm gw gs : Nat) (L H W : List Nat) (hW : Hid (W.length = 64)) (hH : Hid (H.length = 8 ∧ Lt32 H)) (hB : Hid (Bx w wr gm gw gs L H W H)) (c0 c1 c2 c3 c4 c5 c7 c8 c9 c10 c13 c14 c15 c16 c17 c18 c19 c20 c21 c22 c23 c24 c25 c26 c27 c28 c29 c30 c31 c32 c33 c34 c35 c36 c37 c38 c39 c40 c41 c42 c43 c44 c45 c46 c47 c48 c49 c50 c51 c52 c53 c54 c55 c56 c57 c58 c59 c60 c61 c62 c63 c64 c65 c66 c67 c68 c69 c70 c71 c72 c73 c74 c75 c76 c77 c78 c79 c80 c81 c82 c83 c84 c85 c86 c87 c88 c89 c90 c91 c92 c93 c94 c95 c96 c97 c98 c99 c100 c101 c102 c103 c104 c105 c106 c107 c108 c109 c110 c111 c112 c113 c114 c115 c116 c117 c118 c119 c120 c121 c122 c123 c124 c125 c126 c127 c128 c129 c130 c131 c132 c133 c134 c135 c136 c137 c138 c139 c140 c141 c142 c143 c144 c145 c146 c147 c148 c149 c150 c151 c152 c153 c154 c155 c156 c157 c158 c159 c160 c161 c162 c163 c164 c165 c166 c167 c168 c169 c170 c171 c172 c173 c174 c175 c176 c177 c178 c179 c180 c181 c182 c183 c184 c185 c186 c187 c188 c189 c190 c191 c192 c193 c194 c195 c196 c197 c198 c199 c200 c201 c202 c203 c204 c205 c206 c207 c208 c209 c210 c211 c212 c213 c214 c215 c216 c217 c218 c219 c220 c221 : Value)
    (hK : Hid (∀ (u12 u13 u14 u15 u16 u17 u103 u104 u105 u106 u107 u108 u109 u110 u111 u112 u113 u114 u115 u116 u117 u118 u119 u120 u121 u122 u123 u124 u125 u126 u127 u128 u129 u130 u131 u132 u133 u134 u135 u136 u137 u138 u139 u140 u141 u142 u143 u144 u145 u146 u147 u148 u149 u150 u151 u152 u153 u154 u155 u156 u157 u158 u159 u160 u161 u162 u163 u164 u165 u166 u167 u168 u169 u170 u171 u172 u173 u174 u175 u176 u177 u178 u179 u180 u181 u182 u183 u184 u185 u186 u187 u188 u189 u190 u191 : Value) (w' : World), Bx w w' gm gw gs L H W (Gs.toL (Gs.rounds W (Gs.ofL H) 64)) → K ⟨#[c0, c1, c2, c3, c4, c5, .slice (some ⟨gw, 0, none⟩) 64 64, c7, c8, c9, c10, .pointer (some ⟨gs, 0, none⟩), u12, u13, u14, u15, u16, u17, c18, c19, c20, c21, c22, c23, c24, c25, c26, c27, c28, c29, c30, c31, c32, c33, c34, c35, c36, c37, c38, c39, c40, c41, c42, c43, c44, c45, c46, c47, c48, c49, c50, c51, c52, c53, c54, c55, c56, c57, c58, c59, c60, c61, c62, c63, c64, c65, c66, c67, c68, c69, c70, c71, c72, c73, c74, c75, c76, c77, c78, c79, c80, c81, c82, c83, c84, c85, c86, c87, c88, c89, c90, c91, c92, c93, c94, c95, c96, c97, c98, c99, c100, c101, c102, u103, u104, u105, u106, u107, u108, u109, u110, u111, u112, u113, u114, u115, u116, u117, u118, u119, u120, u121, u122, u123, u124, u125, u126, u127, u128, u129, u130, u131, u132, u133, u134, u135, u136, u137, u138, u139, u140, u141, u142, u143, u144, u145, u146, u147, u148, u149, u150, u151, u152, u153, u154, u155, u156, u157, u158, u159, u160, u161, u162, u163, u164, u165, u166, u167, u168, u169, u170, u171, u172, u173, u174, u175, u176, u177, u178, u179, u180, u181, u182, u183, u184, u185, u186, u187, u188, u189, u190, u191, c192, c193, c194, c195, c196, c197, c198, c199, c200, c201, c202, c203, c204, c205, c206, c207, c208, c209, c210, c211, c212, c213, c214, c215, c216, c217, c218, c219, c220, c221], []⟩ w')) :
    Code.wp Tryz.prog ((Tryz.f52.body.bind (blkIn 6)).getD .skip) (Exit.then K (fun _ _ _ => False)) ⟨#[c0, c1, c2, c3, c4, c5, .slice (some ⟨gw, 0, none⟩) 64 64, c7, c8, c9, c10, .pointer (some ⟨gs, 0, none⟩), .int .i64 0, c13, c14, c15, c16, c17, c18, c19, c20, c21, c22, c23, c24, c25, c26, c27, c28, c29, c30, c31, c32, c33, c34, c35, c36, c37, c38, c39, c40, c41, c42, c43, c44, c45, c46, c47, c48, c49, c50, c51, c52, c53, c54, c55, c56, c57, c58, c59, c60, c61, c62, c63, c64, c65, c66, c67, c68, c69, c70, c71, c72, c73, c74, c75, c76, c77, c78, c79, c80, c81, c82, c83, c84, c85, c86, c87, c88, c89, c90, c91, c92, c93, c94, c95, c96, c97, c98, c99, c100, c101, c102, c103, c104, c105, c106, c107, c108, c109, c110, c111, c112, c113, c114, c115, c116, c117, c118, c119, c120, c121, c122, c123, c124, c125, c126, c127, c128, c129, c130, c131, c132, c133, c134, c135, c136, c137, c138, c139, c140, c141, c142, c143, c144, c145, c146, c147, c148, c149, c150, c151, c152, c153, c154, c155, c156, c157, c158, c159, c160, c161, c162, c163, c164, c165, c166, c167, c168, c169, c170, c171, c172, c173, c174, c175, c176, c177, c178, c179, c180, c181, c182, c183, c184, c185, c186, c187, c188, c189, c190, c191, c192, c193, c194, c195, c196, c197, c198, c199, c200, c201, c202, c203, c204, c205, c206, c207, c208, c209, c210, c211, c212, c213, c214, c215, c216, c217, c218, c219, c220, c221], []⟩ wr := by
  conv => arg 2; whnf
  go_wp2
  go_loopw [12] (fun ti wr => ∃ n a b c d e f g h : Nat, n ≤ 64 ∧ ti = .int .i64 n ∧ Hid (Rn w wr gm gw gs L H W n a b c d e f g h)) (fun ti _ => 64 - (intOf ti).toNat)
  case atStart =>
    obtain ⟨a, b, c, d, e, f, g, h, hE⟩ := eight hH.out.1
    refine ⟨0, a, b, c, d, e, f, g, h, by omega, rfl, ?_⟩
    have h1 := hB.out
    have h2 := Ok.ofL hH.out.2
    subst hE
    exact ⟨h1, rfl, h2⟩
  case round =>
    obtain ⟨n, a, b, c, d, e, f, g, h, hn, rfl, HK⟩ := hrel
    by_cases hlt : n < 64
    · have ha : a < 4294967296 := HK.out.ok.1
      have hb : b < 4294967296 := HK.out.ok.2.1
      have hc : c < 4294967296 := HK.out.ok.2.2.1
      have he : e < 4294967296 := HK.out.ok.2.2.2.2.1
      have hf : f < 4294967296 := HK.out.ok.2.2.2.2.2.1
      have hg : g < 4294967296 := HK.out.ok.2.2.2.2.2.2.1
      have i1 : (0 : Int) ≤ (n : Int) := by omega
      have i2 : (n : Int) < 64 := by omega
      obtain ⟨kt, KT⟩ : ∃ x, Hid (Gs.K.getD n 0 = x) := ⟨_, rfl⟩
      obtain ⟨wt, WT⟩ : ∃ x, Hid (W.getD n 0 = x) := ⟨_, rfl⟩
      have c0' : wr.cell? ⟨gs, 0, none⟩ = some (.int .u32 (a : Nat)) := HK.out.bx.sb.cell (i := 0) (by simp)
      have c1' : wr.cell? ⟨gs, 1, none⟩ = some (.int .u32 (b : Nat)) := HK.out.bx.sb.cell (i := 1) (by simp)
      have c2' : wr.cell? ⟨gs, 2, none⟩ = some (.int .u32 (c : Nat)) := HK.out.bx.sb.cell (i := 2) (by simp)
      have c3' : wr.cell? ⟨gs, 3, none⟩ = some (.int .u32 (d : Nat)) := HK.out.bx.sb.cell (i := 3) (by simp)
      have c4' : wr.cell? ⟨gs, 4, none⟩ = some (.int .u32 (e : Nat)) := HK.out.bx.sb.cell (i := 4) (by simp)
      have c5' : wr.cell? ⟨gs, 5, none⟩ = some (.int .u32 (f : Nat)) := HK.out.bx.sb.cell (i := 5) (by simp)
      have c6' : wr.cell? ⟨gs, 6, none⟩ = some (.int .u32 (g : Nat)) := HK.out.bx.sb.cell (i := 6) (by simp)
      have c7' : wr.cell? ⟨gs, 7, none⟩ = some (.int .u32 (h : Nat)) := HK.out.bx.sb.cell (i := 7) (by simp)
      have cw : wr.cell? ⟨gw, n, none⟩ = some (.int .u32 (wt : Nat)) := by rw [← WT.out]; exact HK.out.bx.wb.cell (by rw [hW.out]; exact hlt)
      go_wp2
      rw [choice_r he hf hg, most_bits ha hb hc]
      obtain ⟨ch, CH⟩ : ∃ x, Hid (Gs.choice e f g = x) := ⟨_, rfl⟩
      obtain ⟨mo, MO⟩ : ∃ x, Hid (Gs.most a b c = x) := ⟨_, rfl⟩
      rw [CH.out, MO.out]
      have BD : Hid (Bx w wr.drew gm gw gs L H W [a, b, c, d, e, f, g, h]) := HK.out.bx.drew
      go_region_held (fun w' => w'.cell? ⟨gs, 7, none⟩ = some (.int .u32 (h : Nat)) ∧ w'.cell? ⟨gs, 4, none⟩ = some (.int .u32 (e : Nat)) ∧ w'.cell? ⟨gw, n, none⟩ = some (.int .u32 (wt : Nat))) (go_keep)
        (first
          | (go_at_call 85; refine (refrot_g e _ he (by decide) (by decide) _).mono ?_; rintro e' w' ⟨rfl, h9⟩; rw [h9]; clear h9)
          | (go_at_call 86; refine (refk_n n hlt _).mono ?_; rintro e' w2 ⟨rfl, hb2⟩; have B2' : Hid (Bx w w2 gm gw gs L H W [a, b, c, d, e, f, g, h]) := BD.out.below hb2.out; have d7 : w2.cell? ⟨gs, 7, none⟩ = some (.int .u32 (h : Nat)) := B2'.out.sb.cell (i := 7) (by simp); have d4 : w2.cell? ⟨gs, 4, none⟩ = some (.int .u32 (e : Nat)) := B2'.out.sb.cell (i := 4) (by simp); have dw : w2.cell? ⟨gw, n, none⟩ = some (.int .u32 (wt : Nat)) := by rw [← WT.out]; exact B2'.out.wb.cell (by rw [hW.out]; exact hlt)))
      go_wp2
      rw [sig1_bits he, show Gs.K[n]?.getD 0 = kt from KT.out, add_wrap, add_wrap, add_wrap, add_wrap]
      obtain ⟨x1, X1⟩ : ∃ x, Hid (Gs.add (Gs.add (Gs.add (Gs.add h (sig1 e)) ch) kt) wt = x) := ⟨_, rfl⟩
      rw [X1.out]
      have d0 : w2.cell? ⟨gs, 0, none⟩ = some (.int .u32 (a : Nat)) := B2'.out.sb.cell (i := 0) (by simp)
      clear c0' c1' c2' c3' c4' c5' c6' c7' cw d7 d4 dw hb2 BD
      go_still_tail 13, (by kernel_rfl)
      still_call (refrot_z a 2 2 rfl ha (by decide) (by decide) _)
      repeat still_step
      still_call (refrot_z a 13 13 rfl ha (by decide) (by decide) _)
      repeat still_step
      still_call (refrot_z a 22 22 rfl ha (by decide) (by decide) _)
      repeat still_step
      rw [sig0_bits ha, add_wrap]
      obtain ⟨x2, X2⟩ : ∃ x, Hid (Gs.add (sig0 a) mo = x) := ⟨_, rfl⟩
      rw [X2.out]
      refine wpStill_nil ?_
      generalize hw4 : ({ heap := w2.heap, tape := w2.tape, drawn := w2.drawn + 1, os := w2.os, output := w2.output } : World) = w4
      have H4 : Hid (Bx w w4 gm gw gs L H W [a, b, c, d, e, f, g, h]) := by rw [← (show w2.drew = w4 from hw4)]; exact B2'.out.drew
      clear hw4 d0 B2'
      go_upto_block 8 with (fail)
      refine blk8 w w4 gm gw gs L H W [a, b, c, d, e, f, g, h] rfl H4 _ _ _ _ _ _ _ _ _ _ _ _ _ _ _ _ _ _ _ _ _ _ _ _ _ _ _ _ _ _ _ _ _ _ _ _ _ _ _ _ _ _ _ _ _ _ _ _ _ _ _ _ _ _ _ _ _ _ _ _ _ _ _ _ _ _ _ _ _ _ _ _ _ _ _ _ _ _ _ _ _ _ _ _ _ _ _ _ _ _ _ _ _ _ _ _ _ _ _ _ _ _ _ _ _ _ _ _ _ _ _ _ _ _ _ _ _ _ _ _ _ _ _ _ _ _ _ _ _ _ _ _ _ _ _ _ _ _ _ _ _ _ _ _ _ _ _ _ _ _ _ _ _ _ _ _ _ _ _ _ _ _ _ _ _ _ _ _ _ _ _ _ _ _ _ _ _ _ _ _ _ _ _ _ _ _ _ _ _ _ _ _ _ _ _ _ _ _ _ _ _ _ _ _ _ _ _ _ _ _ _ _ _ _ _ _ _ _ _ _ ?_
      intro v0 v1 v2 v3 v4 v5 v6 v7 v8 v9 v10 w5 h5
      have H5 : Hid (Bx w w5 gm gw gs L H W [a, a, b, c, d, e, f, g]) := h5
      obtain ⟨y4, Y4⟩ : ∃ y, Hid (Gs.add d x1 = y) := ⟨_, rfl⟩
      obtain ⟨y0, Y0⟩ : ∃ y, Hid (Gs.add x1 x2 = y) := ⟨_, rfl⟩
      have e4 : ((d : Int) + (x1 : Int)) % 4294967296 = (y4 : Int) := by rw [add_mod, Y4.out]
      have e0 : ((x1 : Int) + (x2 : Int)) % 4294967296 = (y0 : Int) := by rw [add_mod, Y0.out]
      obtain ⟨w6, H6⟩ : ∃ w6, Hid (w5.setCell ⟨gs, 4, none⟩ (.int .u32 (y4 : Int)) = w6) := ⟨_, rfl⟩
      have B6' : Hid (Bx w w6 gm gw gs L H W [a, a, b, c, y4, e, f, g]) := by rw [← H6.out]; exact H5.out.setS 4 y4
      obtain ⟨w7, H7⟩ : ∃ w7, Hid (w6.setCell ⟨gs, 0, none⟩ (.int .u32 (y0 : Int)) = w7) := ⟨_, rfl⟩
      have B7 : Hid (Bx w w7 gm gw gs L H W [y0, a, b, c, y4, e, f, g]) := by rw [← H7.out]; exact B6'.out.setS 0 y0
      have A5 : Hid (Arr .u32 133 w5 gs [a, a, b, c, d, e, f, g]) := H5.out.sb
      have A6 : Hid (Arr .u32 133 w6 gs [a, a, b, c, y4, e, f, g]) := B6'.out.sb
      have c4 : w5.cell? ⟨gs, 4, none⟩ = some (.int .u32 (d : Nat)) := A5.out.cell (i := 4) (by simp)
      clear h5 H4 H5 B6'
      go_wp2_with (first
        | (refine wpList_stw (by rfl) (by rfl) (.tmp 187) (.tmp 186) (by rfl) (by rfl) (by rfl) A5 (by simp) ?_; rw [e4, H6.out]; clear c4)
        | (refine wpList_stw (by rfl) (by rfl) (.tmp 191) (.tmp 190) (by rfl) (by rfl) (by rfl) A6 (by simp) ?_; rw [e0, H7.out]))
      go_roundw
      case rel =>
        refine ⟨n + 1, y0, a, b, c, y4, e, f, g, by omega, by go_num, B7.out, ?_, ?_⟩
        · show Gs.step (Gs.rounds W (Gs.ofL H) n) (Gs.K.getD n 0) (W.getD n 0) = _
          rw [HK.out.eq, KT.out, WT.out, ← Y4.out, ← Y0.out, ← X1.out, ← X2.out, ← CH.out, ← MO.out]
          rfl
        · have h9 := HK.out.ok.step kt wt
          rw [← Y4.out, ← Y0.out, ← X1.out, ← X2.out, ← CH.out, ← MO.out]
          exact h9
      case measure => simp [intOf]; omega
    · have i2 : ¬ ((n : Int) < 64) := by omega
      have en : Hid (n = 64) := (show n = 64 by omega)
      go_wp2
      have h8 := HK.out.bx
      have h9 := HK.out.eq
      rw [en.out] at h9
      exact hK.out _ _ _ _ _ _ _ _ _ _ _ _ _ _ _ _ _ _ _ _ _ _ _ _ _ _ _ _ _ _ _ _ _ _ _ _ _ _ _ _ _ _ _ _ _ _ _ _ _ _ _ _ _ _ _ _ _ _ _ _ _ _ _ _ _ _ _ _ _ _ _ _ _ _ _ _ _ _ _ _ _ _ _ _ _ _ _ _ _ _ _ _ _ _ _ _ (by rw [h9]; exact h8)
end Go.Proofs.YtkdgakcmhnadfaaGreatDoor

/- Rm -/
/- What the document's work on one block of the message does to a machine. -/
namespace Go.Proofs.YtkdgakcmhnadfaaGreatDoor
open Go.ChangeShapes Go.WideShapes Go.ChangeAt Go.RowKit
set_option linter.unusedVariables false
set_option linter.unusedSimpArgs false
theorem wp_any {s : Code} {Q : Exit → Act → World → Prop} {a : Act} {w : World} (h : Code.wp Tryz.prog s (Exit.then (fun a w => Q .normal a w) Q) a w) : Code.wp Tryz.prog s Q a w := by
  refine wp_mono h ?_
  intro e a' w' hq
  cases e with
  | normal => exact hq
  | exit id => exact hq
  | goto l => exact hq
  | ret => exact hq
  | panic ch => exact hq
  | outgrown => exact hq
theorem info43 : (Tryz.prog.info? 131).map (fun i => (i.zero, i.size, i.bytes)) = some (some (.int .u32 0), 1, 4) := by kernel_rfl
theorem und44 : ∃ d, Tryz.prog.underlying 133 = some d ∧ d.isRow = true := ⟨_, Tryz.underlying133, rfl⟩
theorem sz44 : (Tryz.prog.info? 133).map (·.size) = some 8 := by kernel_rfl
theorem make_words (w : World) : (Instr.makeSlice 134 (.int .i64 64) (.int .i64 64)).run Tryz.prog w = .ok (.slice (some ⟨w.heap.size, 0, none⟩) 64 64) (w.alloc (.cells (cs .u32 Z64) 131)) := by
  obtain ⟨i, hi, hz0, hz1, hz2⟩ := info_parts info43
  have hr := run_make (P := Tryz.prog) w 134 131 i (.int .u32 0) Tryz.underlying134 hi hz0 .i64 .i64 64 64 (by omega) (by omega) (by rw [hz2]; omega) (by omega)
  rw [hz1] at hr
  have e0 : ∀ n, madeCells #[Value.int .u32 0] n = cs .u32 (List.replicate n 0) := fun n => by
    apply Array.ext
    · simp [madeCells, cs]
    · intro i h1 h2
      simp [madeCells, Nat.mod_one, cs, wv]
  have e : madeCells #[Value.int .u32 0] 64 = cs .u32 Z64 := e0 64
  have e2 : (64 : Int).toNat = 64 := rfl
  rw [e2] at hr
  simp only [Value.cells] at hr
  rw [← e]
  simpa using hr
theorem Bx.putS {w wr : World} {gm gw gs : Nat} {L H W S : List Nat} (h : Bx w wr gm gw gs L H W S) (S2 : List Nat) : Bx w (wr.setRow gs (cs .u32 S2)) gm gw gs L H W S2 := by
  have o : Oth gs wr (wr.setRow gs (cs .u32 S2)) := Oth.setRow _
  have h1 := h.lm; have h2 := h.lw; have h3 := h.ls
  exact ⟨h.out.oth o (by omega), h.hb.oth o (by omega), h.ms.oth o h.msn, h.wb.oth o h.ws, h.sb.setRow S2, o.below h.bel (by omega), h1, h2, h3, h.mw, h.msn, h.ws, by rw [o.size]; exact h.tm⟩
set_option maxRecDepth 20000 in
set_option maxHeartbeats 2000000 in
theorem blk1 {K : Act → World → Prop} {Q' : Exit → Act → World → Prop} (w wr : World) (gm N cap at0 : Nat) (L H : List Nat) (hN : Hid (N = L.length)) (hL : Hid (∀ x ∈ L, x < 256)) (ha : Hid (at0 + 64 ≤ N)) (hb : Hid (N < 4611686018427387904)) (hH : Hid (H.length = 8 ∧ Lt32 H)) (hB : Hid (Bm w wr gm L H)) (c0 c1 c2 c6 c7 c8 c9 c10 c11 c12 c13 c14 c15 c16 c17 c18 c19 c20 c21 c22 c23 c24 c25 c26 c27 c28 c29 c30 c31 c32 c33 c34 c35 c36 c37 c38 c39 c40 c41 c42 c43 c44 c45 c46 c47 c48 c49 c50 c51 c52 c53 c54 c55 c56 c57 c58 c59 c60 c61 c62 c63 c64 c65 c66 c67 c68 c69 c70 c71 c72 c73 c74 c75 c76 c77 c78 c79 c80 c81 c82 c83 c84 c85 c86 c87 c88 c89 c90 c91 c92 c93 c94 c95 c96 c97 c98 c99 c100 c101 c102 c103 c104 c105 c106 c107 c108 c109 c110 c111 c112 c113 c114 c115 c116 c117 c118 c119 c120 c121 c122 c123 c124 c125 c126 c127 c128 c129 c130 c131 c132 c133 c134 c135 c136 c137 c138 c139 c140 c141 c142 c143 c144 c145 c146 c147 c148 c149 c150 c151 c152 c153 c154 c155 c156 c157 c158 c159 c160 c161 c162 c163 c164 c165 c166 c167 c168 c169 c170 c171 c172 c173 c174 c175 c176 c177 c178 c179 c180 c181 c182 c183 c184 c185 c186 c187 c188 c189 c190 c191 c192 c193 c194 c195 c196 c197 c198 c199 c200 c201 c202 c203 c204 c205 c206 c207 c208 c209 c210 c211 c212 c213 c214 c215 c216 c217 c218 c219 c220 c221 : Value)
    (hK : Hid (∀ (u6 u7 u8 u9 u10 u11 u12 u13 u14 u15 u16 u17 u18 u30 u31 u32 u33 u34 u35 u36 u37 u38 u39 u40 u41 u42 u43 u44 u45 u46 u47 u48 u49 u50 u51 u52 u53 u54 u55 u56 u57 u58 u59 u60 u61 u62 u63 u64 u65 u66 u67 u68 u69 u70 u71 u72 u73 u74 u75 u76 u77 u78 u79 u80 u81 u82 u83 u84 u85 u86 u87 u88 u89 u90 u91 u92 u93 u94 u95 u96 u97 u98 u99 u100 u101 u102 u103 u104 u105 u106 u107 u108 u109 u110 u111 u112 u113 u114 u115 u116 u117 u118 u119 u120 u121 u122 u123 u124 u125 u126 u127 u128 u129 u130 u131 u132 u133 u134 u135 u136 u137 u138 u139 u140 u141 u142 u143 u144 u145 u146 u147 u148 u149 u150 u151 u152 u153 u154 u155 u156 u157 u158 u159 u160 u161 u162 u163 u164 u165 u166 u167 u168 u169 u170 u171 u172 u173 u174 u175 u176 u177 u178 u179 u180 u181 u182 u183 u184 u185 u186 u187 u188 u189 u190 u191 u192 u193 u194 u195 u196 u197 u198 u199 u200 u201 u202 u203 : Value) (w' : World), Bm w w' gm L (Gs.after H ((L.drop at0).take 64)) → K ⟨#[c0, c1, c2, .pointer (some ⟨w.heap.size + 1, 0, none⟩), .slice (some ⟨gm, 0, none⟩) N cap, .int .i64 (at0 : Int), u6, u7, u8, u9, u10, u11, u12, u13, u14, u15, u16, u17, u18, c19, c20, c21, c22, c23, c24, c25, c26, c27, c28, c29, u30, u31, u32, u33, u34, u35, u36, u37, u38, u39, u40, u41, u42, u43, u44, u45, u46, u47, u48, u49, u50, u51, u52, u53, u54, u55, u56, u57, u58, u59, u60, u61, u62, u63, u64, u65, u66, u67, u68, u69, u70, u71, u72, u73, u74, u75, u76, u77, u78, u79, u80, u81, u82, u83, u84, u85, u86, u87, u88, u89, u90, u91, u92, u93, u94, u95, u96, u97, u98, u99, u100, u101, u102, u103, u104, u105, u106, u107, u108, u109, u110, u111, u112, u113, u114, u115, u116, u117, u118, u119, u120, u121, u122, u123, u124, u125, u126, u127, u128, u129, u130, u131, u132, u133, u134, u135, u136, u137, u138, u139, u140, u141, u142, u143, u144, u145, u146, u147, u148, u149, u150, u151, u152, u153, u154, u155, u156, u157, u158, u159, u160, u161, u162, u163, u164, u165, u166, u167, u168, u169, u170, u171, u172, u173, u174, u175, u176, u177, u178, u179, u180, u181, u182, u183, u184, u185, u186, u187, u188, u189, u190, u191, u192, u193, u194, u195, u196, u197, u198, u199, u200, u201, u202, u203, c204, c205, c206, c207, c208, c209, c210, c211, c212, c213, c214, c215, c216, c217, c218, c219, c220, c221], []⟩ w')) :
    Code.wp Tryz.prog ((Tryz.f52.body.bind (blkIn 1)).getD .skip) (Exit.then K Q') ⟨#[c0, c1, c2, .pointer (some ⟨w.heap.size + 1, 0, none⟩), .slice (some ⟨gm, 0, none⟩) N cap, .int .i64 (at0 : Int), c6, c7, c8, c9, c10, c11, c12, c13, c14, c15, c16, c17, c18, c19, c20, c21, c22, c23, c24, c25, c26, c27, c28, c29, c30, c31, c32, c33, c34, c35, c36, c37, c38, c39, c40, c41, c42, c43, c44, c45, c46, c47, c48, c49, c50, c51, c52, c53, c54, c55, c56, c57, c58, c59, c60, c61, c62, c63, c64, c65, c66, c67, c68, c69, c70, c71, c72, c73, c74, c75, c76, c77, c78, c79, c80, c81, c82, c83, c84, c85, c86, c87, c88, c89, c90, c91, c92, c93, c94, c95, c96, c97, c98, c99, c100, c101, c102, c103, c104, c105, c106, c107, c108, c109, c110, c111, c112, c113, c114, c115, c116, c117, c118, c119, c120, c121, c122, c123, c124, c125, c126, c127, c128, c129, c130, c131, c132, c133, c134, c135, c136, c137, c138, c139, c140, c141, c142, c143, c144, c145, c146, c147, c148, c149, c150, c151, c152, c153, c154, c155, c156, c157, c158, c159, c160, c161, c162, c163, c164, c165, c166, c167, c168, c169, c170, c171, c172, c173, c174, c175, c176, c177, c178, c179, c180, c181, c182, c183, c184, c185, c186, c187, c188, c189, c190, c191, c192, c193, c194, c195, c196, c197, c198, c199, c200, c201, c202, c203, c204, c205, c206, c207, c208, c209, c210, c211, c212, c213, c214, c215, c216, c217, c218, c219, c220, c221], []⟩ wr := by
  have mk := make_words
  conv => arg 2; whnf
  go_upto_block 2 with (fail)
  clear mk
  refine blk2 w _ gm _ N cap at0 L H _ hN hL ha hb rfl (hB.out.bw Z64) _ _ _ _ _ _ _ _ _ _ _ _ _ _ _ _ _ _ _ _ _ _ _ _ _ _ _ _ _ _ _ _ _ _ _ _ _ _ _ _ _ _ _ _ _ _ _ _ _ _ _ _ _ _ _ _ _ _ _ _ _ _ _ _ _ _ _ _ _ _ _ _ _ _ _ _ _ _ _ _ _ _ _ _ _ _ _ _ _ _ _ _ _ _ _ _ _ _ _ _ _ _ _ _ _ _ _ _ _ _ _ _ _ _ _ _ _ _ _ _ _ _ _ _ _ _ _ _ _ _ _ _ _ _ _ _ _ _ _ _ _ _ _ _ _ _ _ _ _ _ _ _ _ _ _ _ _ _ _ _ _ _ _ _ _ _ _ _ _ _ _ _ _ _ _ _ _ _ _ _ _ _ _ _ _ _ _ _ _ _ _ _ _ _ _ _ _ _ _ _ _ _ _ _ _ _ _ _ _ _ _ _ _ _ _ _ _ _ ?_
  intro v0 v1 v2 v3 v4 v5 v6 v7 v8 v9 v10 v11 v12 v13 v14 v15 v16 v17 v18 v19 v20 v21 v22 v23 v24 v25 v26 v27 v28 v29 v30 v31 v32 v33 v34 v35 v36 v37 v38 v39 v40 v41 v42 v43 v44 v45 v46 v47 v48 v49 v50 v51 v52 v53 v54 v55 v56 v57 v58 v59 v60 v61 v62 v63 v64 v65 v66 v67 v68 v69 v70 v71 v72 v73 v74 w2 h2
  obtain ⟨B, HB⟩ : ∃ B, Hid ((L.drop at0).take 64 = B) := ⟨_, rfl⟩
  rw [HB.out] at h2
  have H2 : Hid (Bw w w2 gm wr.heap.size L H (Gs.sched B)) := h2
  clear h2
  generalize wr.heap.size = gw at *
  obtain ⟨W, HW⟩ : ∃ W, Hid (Gs.sched B = W) := ⟨_, rfl⟩
  rw [HW.out] at H2
  have LW : Hid (W.length = 64) := by rw [← HW.out]; exact schedN_length B 48
  have R3 : Hid (Rng .u32 w2 (w.heap.size + 1) 0 H) := H2.out.hb.rng
  have R5 : Hid (Arr .u32 133 (w2.alloc (.cells (cs .u32 Z8) 133)) w2.heap.size Z8) := Arr.new w2 .u32 133 Z8
  have B5 : Hid (Bx w ((w2.alloc (.cells (cs .u32 Z8) 133)).setRow w2.heap.size (cs .u32 H)) gm gw w2.heap.size L H W H) := (H2.out.bx Z8).putS H
  have N8 : Hid (H.length = 8) := hH.out.1
  go_upto_block 6 with (first
    | (refine wpList_ld (by rfl) 133 (.tmp 3) (by rfl) (by rfl) R3 und44 (by rw [N8.out]; exact sz44) ?_)
    | (refine wpList_st0 (t := 133) (l := Z8) (by rfl) (by rfl) 133 (.tmp 11) (.tmp 102) (by rfl) (by rfl) (by rfl) R5 (by rw [N8.out]; exact sz44) (by rw [N8.out]; rfl) ?_))
  refine wp_ends (blk6 w _ gm gw w2.heap.size L H W LW hH B5 _ _ _ _ _ _ _ _ _ _ _ _ _ _ _ _ _ _ _ _ _ _ _ _ _ _ _ _ _ _ _ _ _ _ _ _ _ _ _ _ _ _ _ _ _ _ _ _ _ _ _ _ _ _ _ _ _ _ _ _ _ _ _ _ _ _ _ _ _ _ _ _ _ _ _ _ _ _ _ _ _ _ _ _ _ _ _ _ _ _ _ _ _ _ _ _ _ _ _ _ _ _ _ _ _ _ _ _ _ _ _ _ _ _ _ _ _ _ _ _ _ _ _ _ _ _ _ _ _ _ _ _ _ _ _ _ _ _ _ _ _ _ _ _ _ _ _ _ _ _ _ _ _ _ _ _ _ _ _ _ _ _ _ _ _ _ _ _ _ _ _ _ _ _ _ _ _ _ _ _ _ _ _ _ _ _ _ _ _ _ _ _ _ _ _ _ _ _ _ _ _ _ _ _ _ _ _ _ _ _ _ _ _ _ _ _ _ _ _ ?_)
  intro v0 v1 v2 v3 v4 v5 v6 v7 v8 v9 v10 v11 v12 v13 v14 v15 v16 v17 v18 v19 v20 v21 v22 v23 v24 v25 v26 v27 v28 v29 v30 v31 v32 v33 v34 v35 v36 v37 v38 v39 v40 v41 v42 v43 v44 v45 v46 v47 v48 v49 v50 v51 v52 v53 v54 v55 v56 v57 v58 v59 v60 v61 v62 v63 v64 v65 v66 v67 v68 v69 v70 v71 v72 v73 v74 v75 v76 v77 v78 v79 v80 v81 v82 v83 v84 v85 v86 v87 v88 v89 v90 v91 v92 v93 v94 w6 h6
  have H6 : Hid (Bx w w6 gm gw w2.heap.size L H W (Gs.toL (Gs.rounds W (Gs.ofL H) 64))) := h6
  clear h6 R3 R5 B5
  generalize w2.heap.size = gs at *
  go_upto_block 10 with (fail)
  refine wp_any (blk10 w w6 gm gw gs L H W (Gs.toL (Gs.rounds W (Gs.ofL H) 64)) N8 rfl H6 _ _ _ _ _ _ _ _ _ _ _ _ _ _ _ _ _ _ _ _ _ _ _ _ _ _ _ _ _ _ _ _ _ _ _ _ _ _ _ _ _ _ _ _ _ _ _ _ _ _ _ _ _ _ _ _ _ _ _ _ _ _ _ _ _ _ _ _ _ _ _ _ _ _ _ _ _ _ _ _ _ _ _ _ _ _ _ _ _ _ _ _ _ _ _ _ _ _ _ _ _ _ _ _ _ _ _ _ _ _ _ _ _ _ _ _ _ _ _ _ _ _ _ _ _ _ _ _ _ _ _ _ _ _ _ _ _ _ _ _ _ _ _ _ _ _ _ _ _ _ _ _ _ _ _ _ _ _ _ _ _ _ _ _ _ _ _ _ _ _ _ _ _ _ _ _ _ _ _ _ _ _ _ _ _ _ _ _ _ _ _ _ _ _ _ _ _ _ _ _ _ _ _ _ _ _ _ _ _ _ _ _ _ _ _ _ _ _ _ ?_)
  intro v0 v1 v2 v3 v4 v5 v6 v7 v8 v9 v10 v11 v12 w7 h7
  rw [addK_all N8.out] at h7
  have H7 : Hid (Bm w w7 gm L (Gs.after H ((L.drop at0).take 64))) := by
    have h9 := h7.bm
    rw [← HW.out] at h9
    rw [HB.out]
    exact h9
  clear h7
  go_wp2
  exact hK.out _ _ _ _ _ _ _ _ _ _ _ _ _ _ _ _ _ _ _ _ _ _ _ _ _ _ _ _ _ _ _ _ _ _ _ _ _ _ _ _ _ _ _ _ _ _ _ _ _ _ _ _ _ _ _ _ _ _ _ _ _ _ _ _ _ _ _ _ _ _ _ _ _ _ _ _ _ _ _ _ _ _ _ _ _ _ _ _ _ _ _ _ _ _ _ _ _ _ _ _ _ _ _ _ _ _ _ _ _ _ _ _ _ _ _ _ _ _ _ _ _ _ _ _ _ _ _ _ _ _ _ _ _ _ _ _ _ _ _ _ _ _ _ _ _ _ _ _ _ _ _ _ _ _ _ _ _ _ _ _ _ _ _ _ _ _ _ _ _ _ _ _ _ _ _ _ _ _ _ _ _ _ _ _ _ _ _ _ H7.out
end Go.Proofs.YtkdgakcmhnadfaaGreatDoor

/- Rn -/
/- What the document's Sum does to a machine, for all slices of bytes: it gives the digest as an array. -/
namespace Go.Proofs.YtkdgakcmhnadfaaGreatDoor
open Go.ChangeShapes Go.WideShapes Go.ChangeAt Go.RowKit
set_option linter.unusedVariables false
set_option linter.unusedSimpArgs false
theorem own_row {w : World} {B g k cap : Nat} {l : List Nat} (own : w.ownsRow B 5 1 (.slice (some ⟨g, 0, none⟩) k cap) k (l.map bv)) : Row w g 0 l := by
  intro i hi
  have h3 := own.cells (g := g) rfl i (bv (l.getD i 0)) (by
    rw [List.getElem?_map, List.getElem?_eq_getElem hi]
    simp [List.getD, hi])
  have h4 : (⟨g, 0, none⟩ : Addr).add i = ⟨g, 0 + i, none⟩ := by
    by_cases hi0 : i = 0
    · subst hi0; simp [Addr.add]
    · simp [Addr.add, hi0]
  rw [h4] at h3
  exact h3
/- the world behind the two boxes -/
def sumW (w : World) : World := ((w.alloc (.cells (cs .u8 Zb32) 89)).alloc (.cells (cs .u32 Z8) 133)).setRow (w.heap.size + 1) (cs .u32 Gs.start)
theorem sumW_size (w : World) : (sumW w).heap.size = w.heap.size + 2 := by simp [sumW]
theorem sumW_below (w : World) : Below w.heap.size w (sumW w) := by
  have o : Oth (w.heap.size + 1) ((w.alloc (.cells (cs .u8 Zb32) 89)).alloc (.cells (cs .u32 Z8) 133)) (sumW w) := Oth.setRow _
  exact o.below (below2 w _ _) (by omega)
theorem sumW_out (w : World) : Arr .u8 89 (sumW w) w.heap.size Zb32 := by
  have o : Oth (w.heap.size + 1) ((w.alloc (.cells (cs .u8 Zb32) 89)).alloc (.cells (cs .u32 Z8) 133)) (sumW w) := Oth.setRow _
  exact Arr.oth (k := .u8) (t := 89) (two w (.cells (cs .u8 Zb32) 89) (.cells (cs .u32 Z8) 133)).1 o (by omega)
theorem sumW_hb (w : World) : Arr .u32 133 (sumW w) (w.heap.size + 1) Gs.start :=
  Arr.setRow (k := .u32) (t := 133) (l := Z8) (two w (.cells (cs .u8 Zb32) 89) (.cells (cs .u32 Z8) 133)).2 Gs.start
theorem bm_start {w w2 : World} {v : Value} {L : List Nat} (h : Mes (sumW w) w2 v L) : ∃ gm cap, v = .slice (some ⟨gm, 0, none⟩) L.length cap ∧ Bm w w2 gm L Gs.start := by
  obtain ⟨gm, cap, rfl, own, bel⟩ := h
  have l1 := own.lt gm rfl
  rw [sumW_size] at l1
  have hs := sumW_size w
  exact ⟨gm, cap, rfl, (sumW_out w).below bel (by omega), (sumW_hb w).below bel (by omega), own_row own, (sumW_below w).trans (bel.mono (by omega)), by omega, l1.2⟩
theorem cnt8_lt (c : Nat) : ∀ x ∈ Gs.cnt8 c, x < 256 := by
  intro x hx
  simp only [Gs.cnt8, List.mem_cons, List.not_mem_nil, or_false] at hx
  rcases hx with h | h | h | h | h | h | h | h <;> (rw [h]; exact Nat.mod_lt _ (by decide))
theorem msg_lt {l : List Nat} (h : ∀ x ∈ l, x < 256) : ∀ x ∈ Gs.msg l, x < 256 := by
  intro x hx
  rcases List.mem_append.1 hx with h1 | h1
  · exact h x h1
  rcases List.mem_append.1 h1 with h2 | h2
  · rcases List.mem_append.1 h2 with h3 | h3
    · simp at h3; omega
    · have := List.eq_of_mem_replicate h3; omega
  · exact cnt8_lt _ x h2
theorem wordsN_step (L : List Nat) (b : Nat) : Gs.wordsN L (b + 1) = Gs.after (Gs.wordsN L b) ((L.drop (64 * b)).take 64) := rfl
structure Sst (w wr : World) (gm : Nat) (L : List Nat) (b x : Nat) : Prop where
  x : x = 64 * b
  bm : Bm w wr gm L (Gs.wordsN L b)
set_option maxRecDepth 20000 in
set_option maxHeartbeats 2000000 in
theorem shrefsum_n : RefSum := by
  intro w a n k l hS hk
  have R0 : Hid (Arr .u32 133 ((w.alloc (.cells (cs .u8 Zb32) 89)).alloc (.cells (cs .u32 Z8) 133)) (w.heap.size + 1) Z8) := (two w (.cells (cs .u8 Zb32) 89) (.cells (cs .u32 Z8) 133)).2
  obtain ⟨w1, W1⟩ : ∃ w1, Hid (((w.alloc (.cells (cs .u8 Zb32) 89)).alloc (.cells (cs .u32 Z8) 133)).setRow (w.heap.size + 1) (cs .u32 Gs.start) = w1) := ⟨_, rfl⟩
  have SW : Hid (w1 = sumW w) := W1.out.symm
  have S1 : Hid (Sln w1 a n l) := by rw [SW.out]; exact hS.out.below (sumW_below w)
  obtain ⟨L, HL⟩ : ∃ L, Hid (Gs.msg l = L) := ⟨_, rfl⟩
  have LL : Hid (∀ x ∈ L, x < 256) := by rw [← HL.out]; exact msg_lt hS.out.lt
  have LN := Gs.msg_length l
  rw [HL.out] at LN
  have lb := hS.out.sli.2.1
  have LB : Hid (L.length < 4611686018427387904 ∧ L.length % 64 = 0) := by
    split at LN <;> exact ⟨by omega, by omega⟩
  clear LN lb
  go_enter Tryz.func52, Tryz.ntmps52
  go_upto_region 3 with (first
    | (refine wpList_st0 (t := 133) (l := Z8) (l2 := Gs.start) (by rfl) (by rfl) 133 (.tmp 3) (.tmp 21) (by rfl) (by rfl) (by rfl) R0 sz44 (by rfl) ?_; refine (show _ = w1 from W1.out) ▸ ?_)
    | (go_at_call 84; refine (message_n S1 hk).mono ?_; rintro e w2 ⟨v, rfl, H2⟩))
  rw [HL.out, SW.out] at H2
  obtain ⟨gm, cap, rfl, H3⟩ := bm_start H2.out
  have B3 : Hid (Bm w w2 gm L Gs.start) := H3
  clear H2 H3 R0 S1
  obtain ⟨N, HN⟩ : ∃ N, Hid (N = L.length) := ⟨_, rfl⟩
  rw [← HN.out]
  have NB : Hid (N < 4611686018427387904) := by rw [HN.out]; exact LB.out.1
  have n62 : N < 4611686018427387904 := NB.out
  go_wp2
  go_loopw [5] (fun ti wr => ∃ b x : Nat, ti = .int .i64 x ∧ x ≤ N ∧ Hid (Sst w wr gm L b x)) (fun ti _ => N - (intOf ti).toNat)
  case atStart => exact ⟨0, 0, rfl, by omega, rfl, B3.out⟩
  case round =>
    obtain ⟨b, x, rfl, hx, HK⟩ := hrel
    have hN0 : N % 64 = 0 := by rw [HN.out]; exact LB.out.2
    have hx0 := HK.out.x
    by_cases hlt : x < N
    · have i1 : (x : Int) < (N : Int) := by omega
      have A : Hid (x + 64 ≤ N) := (show x + 64 ≤ N by omega)
      have HH : Hid ((Gs.wordsN L b).length = 8 ∧ Lt32 (Gs.wordsN L b)) := ⟨wordsN_length _ _, wordsN_lt _ _⟩
      have X0 : Hid (x = 64 * b) := hx0
      have BK : Hid (Bm w wr gm L (Gs.wordsN L b)) := HK.out.bm
      clear hN0 hx0 HK
      go_upto_block 1 with (fail)
      refine blk1 w wr gm N cap x L (Gs.wordsN L b) HN LL A NB HH BK _ _ _ _ _ _ _ _ _ _ _ _ _ _ _ _ _ _ _ _ _ _ _ _ _ _ _ _ _ _ _ _ _ _ _ _ _ _ _ _ _ _ _ _ _ _ _ _ _ _ _ _ _ _ _ _ _ _ _ _ _ _ _ _ _ _ _ _ _ _ _ _ _ _ _ _ _ _ _ _ _ _ _ _ _ _ _ _ _ _ _ _ _ _ _ _ _ _ _ _ _ _ _ _ _ _ _ _ _ _ _ _ _ _ _ _ _ _ _ _ _ _ _ _ _ _ _ _ _ _ _ _ _ _ _ _ _ _ _ _ _ _ _ _ _ _ _ _ _ _ _ _ _ _ _ _ _ _ _ _ _ _ _ _ _ _ _ _ _ _ _ _ _ _ _ _ _ _ _ _ _ _ _ _ _ _ _ _ _ _ _ _ _ _ _ _ _ _ _ _ _ _ _ _ _ _ _ _ _ _ _ _ _ _ _ _ _ _ _ ?_
      intro v0 v1 v2 v3 v4 v5 v6 v7 v8 v9 v10 v11 v12 v13 v14 v15 v16 v17 v18 v19 v20 v21 v22 v23 v24 v25 v26 v27 v28 v29 v30 v31 v32 v33 v34 v35 v36 v37 v38 v39 v40 v41 v42 v43 v44 v45 v46 v47 v48 v49 v50 v51 v52 v53 v54 v55 v56 v57 v58 v59 v60 v61 v62 v63 v64 v65 v66 v67 v68 v69 v70 v71 v72 v73 v74 v75 v76 v77 v78 v79 v80 v81 v82 v83 v84 v85 v86 v87 v88 v89 v90 v91 v92 v93 v94 v95 v96 v97 v98 v99 v100 v101 v102 v103 v104 v105 v106 v107 v108 v109 v110 v111 v112 v113 v114 v115 v116 v117 v118 v119 v120 v121 v122 v123 v124 v125 v126 v127 v128 v129 v130 v131 v132 v133 v134 v135 v136 v137 v138 v139 v140 v141 v142 v143 v144 v145 v146 v147 v148 v149 v150 v151 v152 v153 v154 v155 v156 v157 v158 v159 v160 v161 v162 v163 v164 v165 v166 v167 v168 v169 v170 v171 v172 v173 v174 v175 v176 v177 v178 v179 v180 v181 v182 v183 v184 v185 v186 w4 h4
      have H4 : Hid (Sst w w4 gm L (b + 1) (x + 64)) := by
        refine ⟨by have := X0.out; omega, ?_⟩
        rw [wordsN_step, ← X0.out]
        exact h4
      clear h4 BK
      go_wp2
      go_roundw
      case rel => exact ⟨b + 1, x + 64, by go_num, A.out, H4.out⟩
      case measure => simp [intOf]; omega
    · have i1 : ¬ ((x : Int) < (N : Int)) := by omega
      have EB : Hid (b = L.length / 64) := (show b = L.length / 64 by rw [← HN.out]; omega)
      have BK : Hid (Bm w wr gm L (Gs.wordsN L b)) := HK.out.bm
      obtain ⟨H, HH⟩ : ∃ H, Hid (Gs.wordsN L b = H) := ⟨_, rfl⟩
      rw [HH.out] at BK
      have H8 : Hid (H.length = 8) := by rw [← HH.out]; exact wordsN_length _ _
      have BO : Hid (Bo w (wr.alloc (.cells (cs .u8 Zb32) 89)) wr.heap.size H []) := BK.out.bo
      clear hN0 hx0 HK BK
      go_upto_block 12 with (fail)
      refine blk12 w _ wr.heap.size H H8 BO _ _ _ _ _ _ _ _ _ _ _ _ _ _ _ _ _ _ _ _ _ _ _ _ _ _ _ _ _ _ _ _ _ _ _ _ _ _ _ _ _ _ _ _ _ _ _ _ _ _ _ _ _ _ _ _ _ _ _ _ _ _ _ _ _ _ _ _ _ _ _ _ _ _ _ _ _ _ _ _ _ _ _ _ _ _ _ _ _ _ _ _ _ _ _ _ _ _ _ _ _ _ _ _ _ _ _ _ _ _ _ _ _ _ _ _ _ _ _ _ _ _ _ _ _ _ _ _ _ _ _ _ _ _ _ _ _ _ _ _ _ _ _ _ _ _ _ _ _ _ _ _ _ _ _ _ _ _ _ _ _ _ _ _ _ _ _ _ _ _ _ _ _ _ _ _ _ _ _ _ _ _ _ _ _ _ _ _ _ _ _ _ _ _ _ _ _ _ _ _ _ _ _ _ _ _ _ _ _ _ _ _ _ _ _ _ _ _ _ ?_
      intro v0 v1 v2 v3 v4 v5 v6 v7 v8 v9 v10 v11 v12 v13 v14 v15 v16 v17 w5 h5
      rw [outN_all] at h5
      obtain ⟨D, HD⟩ : ∃ D, Hid (Gs.digest H = D) := ⟨_, rfl⟩
      rw [HD.out] at h5
      have D32 : Hid (D.length = 32) := by rw [← HD.out]; exact digestN_length H 8
      have e1 : ext D 32 = D := by simp [ext, D32.out]
      have R1 : Hid (Rng .u8 w5 wr.heap.size 0 D) := by have := h5.acc; rw [e1] at this; exact this.rng
      have R2 : Hid (Arr .u8 89 w5 w.heap.size Zb32) := h5.out
      have RE : Hid (Arr .u8 89 (w5.setRow w.heap.size (cs .u8 D)) w.heap.size D) := h5.out.setRow D
      have BE : Hid (Below w.heap.size w (w5.setRow w.heap.size (cs .u8 D))) := (Oth.setRow _).below h5.bel (by omega)
      have VE : Hid (D = Gs.sum l) := by
        rw [← HD.out, ← HH.out, EB.out, ← HL.out]
        exact Gs.sum_msg l
      clear e1 h5 BO
      go_wp2_with (first | (refine wpList_ld (by rfl) 89 (.tmp 19) (by rfl) (by rfl) R1 und25 (by rw [D32.out]; exact sz25) ?_) | (refine wpList_st1 (t := 89) (l := Zb32) (by rfl) (by rfl) 89 (.tmp 2) (.tmp 221) (by rfl) (by rfl) (by rfl) R2 (by rw [D32.out]; exact sz25) (by rw [D32.out]; rfl) ?_))
      refine bodyPost_ret (v := .agg (cs .u8 D)) (res_arr (by rfl) (by rfl) RE.out und25 (by rw [D32.out]; exact sz25)) rfl ?_
      exact ⟨D, rfl, VE.out, BE.out⟩
end Go.Proofs.YtkdgakcmhnadfaaGreatDoor
