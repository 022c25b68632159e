/- What the document's rounds of a block do to a machine. -/
import Derived.Test.YtmkknklkdgkbaaaDoorRi
import Derived.Deep.CutBlock
import Derived.Deep.RegionHeld
namespace Go.Proofs.YtmkknklkdgkbaaaDoor
open Go.ChangeShapes Go.WideShapes Go.ChangeAt Go.RowKit
set_option linter.unusedVariables false
set_option linter.unusedSimpArgs false
theorem choice_r {e f g : Nat} (he : e < 4294967296) (hf : f < 4294967296) (hg : g < 4294967296) : bits BinOp.xor IntKind.u32 (bits BinOp.and IntKind.u32 (e : Int) (f : Int)) (bits BinOp.and IntKind.u32 (bits BinOp.xor IntKind.u32 (e : Int) 4294967295) (g : Int)) = ((Gs.choice e f g : Nat) : Int) := by
  have e1 : bits BinOp.xor IntKind.u32 (e : Int) 4294967295 = ((4294967295 - e : Nat) : Int) := by
    have h := xor_nat he (show 4294967295 < 4294967296 by decide)
    rw [Nat.xor_comm, xor_all he] at h
    exact h
  rw [e1, and_nat he hf, and_nat (by omega) hg, xor_nat (Gs.and_lt he) (Gs.and_lt (by omega))]
  rfl
theorem refrot_g (x : Nat) (z : Int) (hx : x < 4294967296) (h0 : 0 < z) (h1 : z < 32) (w : World) :
    Calls Tryd.prog 53 #[.int .u32 (x : Int), .int .u64 z] w fun e w' => e = .returned (.int .u32 (Gs.rot z.toNat x : Nat)) ∧ w' = w :=
  refrot_z x z.toNat z (by omega) hx (by omega) (by omega) w
structure Rn (w wr : World) (gm gw gs : Nat) (L H W : List Nat) (n a b c d e f g h : Nat) : Prop where
  bx : Bx w wr gm gw gs L H W [a, b, c, d, e, f, g, h]
  eq : Gs.rounds W (Gs.ofL H) n = ⟨a, b, c, d, e, f, g, h⟩
  ok : Ok ⟨a, b, c, d, e, f, g, h⟩
theorem Bx.keep {w W w2 : World} {gm gw gs : Nat} {L H Wd S : List Nat} {a1 a2 a3 : Addr} {v1 v2 v3 : Value} (hb : Below W.heap.size W w2) (h1 : a1.spot = none) (h2 : a2.spot = none) (h3 : a3.spot = none)
    (h : W.cell? a1 = some v1 ∧ W.cell? a2 = some v2 ∧ W.cell? a3 = some v3 ∧ Hid (Bx w W gm gw gs L H Wd S)) : w2.cell? a1 = some v1 ∧ w2.cell? a2 = some v2 ∧ w2.cell? a3 = some v3 ∧ Hid (Bx w w2 gm gw gs L H Wd S) := by
  obtain ⟨b1, o1, s1⟩ := a1
  obtain ⟨b2, o2, s2⟩ := a2
  obtain ⟨b3, o3, s3⟩ := a3
  simp only at h1 h2 h3
  subst h1 h2 h3
  exact ⟨(hb.cell (p := ⟨b1, o1, none⟩) (cell_lt h.1)).trans h.1, (hb.cell (p := ⟨b2, o2, none⟩) (cell_lt h.2.1)).trans h.2.1, (hb.cell (p := ⟨b3, o3, none⟩) (cell_lt h.2.2.1)).trans h.2.2.1, h.2.2.2.out.below hb⟩
/- a piece of code that ends no other way than by its end -/
theorem wp_ends {s : Code} {K : Act → World → Prop} {Q' : Exit → Act → World → Prop} {a : Act} {w : World} (h : Code.wp Tryd.prog s (Exit.then K (fun _ _ _ => False)) a w) : Code.wp Tryd.prog s (Exit.then K Q') a w := by
  refine wp_mono h ?_
  intro e a' w' hq
  cases e with
  | normal => exact hq
  | exit id => exact hq.elim
  | goto l => exact hq.elim
  | ret => exact hq.elim
  | panic ch => exact hq.elim
  | outgrown => exact hq.elim
/- a store of one word -/
theorem wpList_stw {ops : Array Oper} {rest : List Oper} {o : Oper} {a : Act} {Q : Exit → Act → World → Prop} {w : World} {t : TypeId} {g i : Nat} {l : List Nat} {v : Int} (hgd : o.guard = none) (hd : o.dst = none) (x y : Operand)
    (ho : o.op = .store 91 x y) (hx : a.eval x = .pointer (some ⟨g, i, none⟩)) (hy : a.eval y = .int .u32 v) (hr : Hid (Arr .u32 t w g l)) (hi : i < l.length)
    (h : wpList Tryd.prog ops Q rest a (w.setCell ⟨g, i, none⟩ (.int .u32 v))) : wpList Tryd.prog ops Q (o :: rest) a w := by
  refine wpList_plain hgd fun K hK => ?_
  have c := hr.out.cell hi
  have f := hr.out.frozen i
  have h2 := hK _ _ h
  unfold Oper.wp execOp
  simp only [ho, hx, hy, Instr.storeAt, Instr.sureAddr, Sem.run_bind, Sem.run_pure, Result.andThen_ok]
  have hs : (storeVar 91 ⟨g, i, none⟩ (.int .u32 v)).run Tryd.prog w = .ok () (w.setCell ⟨g, i, none⟩ (.int .u32 v)) := by
    simp [go_sem, storeVar, c, f]
  rw [hs]
  show K (a.put o.dst undef) _
  rw [hd]
  exact h2
set_option maxRecDepth 20000 in
set_option maxHeartbeats 2000000 in
theorem blk6 {K : Act → World → Prop} (w wr : World) (gm gw gs : Nat) (L H W : List Nat) (hW : Hid (W.length = 64)) (hH : Hid (H.length = 8 ∧ Lt32 H)) (hB : Hid (Bx w wr gm gw gs L H W H)) (c0 c1 c2 c3 c4 c5 c7 c8 c9 c10 c13 c14 c15 c16 c17 c18 c19 c20 c21 c22 c23 c24 c25 c26 c27 c28 c29 c30 c31 c32 c33 c34 c35 c36 c37 c38 c39 c40 c41 c42 c43 c44 c45 c46 c47 c48 c49 c50 c51 c52 c53 c54 c55 c56 c57 c58 c59 c60 c61 c62 c63 c64 c65 c66 c67 c68 c69 c70 c71 c72 c73 c74 c75 c76 c77 c78 c79 c80 c81 c82 c83 c84 c85 c86 c87 c88 c89 c90 c91 c92 c93 c94 c95 c96 c97 c98 c99 c100 c101 c102 c103 c104 c105 c106 c107 c108 c109 c110 c111 c112 c113 c114 c115 c116 c117 c118 c119 c120 c121 c122 c123 c124 c125 c126 c127 c128 c129 c130 c131 c132 c133 c134 c135 c136 c137 c138 c139 c140 c141 c142 c143 c144 c145 c146 c147 c148 c149 c150 c151 c152 c153 c154 c155 c156 c157 c158 c159 c160 c161 c162 c163 c164 c165 c166 c167 c168 c169 c170 c171 c172 c173 c174 c175 c176 c177 c178 c179 c180 c181 c182 c183 c184 c185 c186 c187 c188 c189 c190 c191 c192 c193 c194 c195 c196 c197 c198 c199 c200 c201 c202 c203 c204 c205 c206 c207 c208 c209 c210 c211 c212 c213 c214 c215 c216 c217 c218 c219 c220 c221 : Value)
    (hK : Hid (∀ (u12 u13 u14 u15 u16 u17 u103 u104 u105 u106 u107 u108 u109 u110 u111 u112 u113 u114 u115 u116 u117 u118 u119 u120 u121 u122 u123 u124 u125 u126 u127 u128 u129 u130 u131 u132 u133 u134 u135 u136 u137 u138 u139 u140 u141 u142 u143 u144 u145 u146 u147 u148 u149 u150 u151 u152 u153 u154 u155 u156 u157 u158 u159 u160 u161 u162 u163 u164 u165 u166 u167 u168 u169 u170 u171 u172 u173 u174 u175 u176 u177 u178 u179 u180 u181 u182 u183 u184 u185 u186 u187 u188 u189 u190 u191 : Value) (w' : World), Bx w w' gm gw gs L H W (Gs.toL (Gs.rounds W (Gs.ofL H) 64)) → K ⟨#[c0, c1, c2, c3, c4, c5, .slice (some ⟨gw, 0, none⟩) 64 64, c7, c8, c9, c10, .pointer (some ⟨gs, 0, none⟩), u12, u13, u14, u15, u16, u17, c18, c19, c20, c21, c22, c23, c24, c25, c26, c27, c28, c29, c30, c31, c32, c33, c34, c35, c36, c37, c38, c39, c40, c41, c42, c43, c44, c45, c46, c47, c48, c49, c50, c51, c52, c53, c54, c55, c56, c57, c58, c59, c60, c61, c62, c63, c64, c65, c66, c67, c68, c69, c70, c71, c72, c73, c74, c75, c76, c77, c78, c79, c80, c81, c82, c83, c84, c85, c86, c87, c88, c89, c90, c91, c92, c93, c94, c95, c96, c97, c98, c99, c100, c101, c102, u103, u104, u105, u106, u107, u108, u109, u110, u111, u112, u113, u114, u115, u116, u117, u118, u119, u120, u121, u122, u123, u124, u125, u126, u127, u128, u129, u130, u131, u132, u133, u134, u135, u136, u137, u138, u139, u140, u141, u142, u143, u144, u145, u146, u147, u148, u149, u150, u151, u152, u153, u154, u155, u156, u157, u158, u159, u160, u161, u162, u163, u164, u165, u166, u167, u168, u169, u170, u171, u172, u173, u174, u175, u176, u177, u178, u179, u180, u181, u182, u183, u184, u185, u186, u187, u188, u189, u190, u191, c192, c193, c194, c195, c196, c197, c198, c199, c200, c201, c202, c203, c204, c205, c206, c207, c208, c209, c210, c211, c212, c213, c214, c215, c216, c217, c218, c219, c220, c221], []⟩ w')) :
    Code.wp Tryd.prog ((Tryd.f32.body.bind (blkIn 6)).getD .skip) (Exit.then K (fun _ _ _ => False)) ⟨#[c0, c1, c2, c3, c4, c5, .slice (some ⟨gw, 0, none⟩) 64 64, c7, c8, c9, c10, .pointer (some ⟨gs, 0, none⟩), .int .i64 0, c13, c14, c15, c16, c17, c18, c19, c20, c21, c22, c23, c24, c25, c26, c27, c28, c29, c30, c31, c32, c33, c34, c35, c36, c37, c38, c39, c40, c41, c42, c43, c44, c45, c46, c47, c48, c49, c50, c51, c52, c53, c54, c55, c56, c57, c58, c59, c60, c61, c62, c63, c64, c65, c66, c67, c68, c69, c70, c71, c72, c73, c74, c75, c76, c77, c78, c79, c80, c81, c82, c83, c84, c85, c86, c87, c88, c89, c90, c91, c92, c93, c94, c95, c96, c97, c98, c99, c100, c101, c102, c103, c104, c105, c106, c107, c108, c109, c110, c111, c112, c113, c114, c115, c116, c117, c118, c119, c120, c121, c122, c123, c124, c125, c126, c127, c128, c129, c130, c131, c132, c133, c134, c135, c136, c137, c138, c139, c140, c141, c142, c143, c144, c145, c146, c147, c148, c149, c150, c151, c152, c153, c154, c155, c156, c157, c158, c159, c160, c161, c162, c163, c164, c165, c166, c167, c168, c169, c170, c171, c172, c173, c174, c175, c176, c177, c178, c179, c180, c181, c182, c183, c184, c185, c186, c187, c188, c189, c190, c191, c192, c193, c194, c195, c196, c197, c198, c199, c200, c201, c202, c203, c204, c205, c206, c207, c208, c209, c210, c211, c212, c213, c214, c215, c216, c217, c218, c219, c220, c221], []⟩ wr := by
  conv => arg 2; whnf
  go_wp2
  go_loopw [12] (fun ti wr => ∃ n a b c d e f g h : Nat, n ≤ 64 ∧ ti = .int .i64 n ∧ Hid (Rn w wr gm gw gs L H W n a b c d e f g h)) (fun ti _ => 64 - (intOf ti).toNat)
  case atStart =>
    obtain ⟨a, b, c, d, e, f, g, h, hE⟩ := eight hH.out.1
    refine ⟨0, a, b, c, d, e, f, g, h, by omega, rfl, ?_⟩
    have h1 := hB.out
    have h2 := Ok.ofL hH.out.2
    subst hE
    exact ⟨h1, rfl, h2⟩
  case round =>
    obtain ⟨n, a, b, c, d, e, f, g, h, hn, rfl, HK⟩ := hrel
    by_cases hlt : n < 64
    · have ha : a < 4294967296 := HK.out.ok.1
      have hb : b < 4294967296 := HK.out.ok.2.1
      have hc : c < 4294967296 := HK.out.ok.2.2.1
      have he : e < 4294967296 := HK.out.ok.2.2.2.2.1
      have hf : f < 4294967296 := HK.out.ok.2.2.2.2.2.1
      have hg : g < 4294967296 := HK.out.ok.2.2.2.2.2.2.1
      have i1 : (0 : Int) ≤ (n : Int) := by omega
      have i2 : (n : Int) < 64 := by omega
      obtain ⟨kt, KT⟩ : ∃ x, Hid (Gs.K.getD n 0 = x) := ⟨_, rfl⟩
      obtain ⟨wt, WT⟩ : ∃ x, Hid (W.getD n 0 = x) := ⟨_, rfl⟩
      have c0' : wr.cell? ⟨gs, 0, none⟩ = some (.int .u32 (a : Nat)) := HK.out.bx.sb.cell (i := 0) (by simp)
      have c1' : wr.cell? ⟨gs, 1, none⟩ = some (.int .u32 (b : Nat)) := HK.out.bx.sb.cell (i := 1) (by simp)
      have c2' : wr.cell? ⟨gs, 2, none⟩ = some (.int .u32 (c : Nat)) := HK.out.bx.sb.cell (i := 2) (by simp)
      have c3' : wr.cell? ⟨gs, 3, none⟩ = some (.int .u32 (d : Nat)) := HK.out.bx.sb.cell (i := 3) (by simp)
      have c4' : wr.cell? ⟨gs, 4, none⟩ = some (.int .u32 (e : Nat)) := HK.out.bx.sb.cell (i := 4) (by simp)
      have c5' : wr.cell? ⟨gs, 5, none⟩ = some (.int .u32 (f : Nat)) := HK.out.bx.sb.cell (i := 5) (by simp)
      have c6' : wr.cell? ⟨gs, 6, none⟩ = some (.int .u32 (g : Nat)) := HK.out.bx.sb.cell (i := 6) (by simp)
      have c7' : wr.cell? ⟨gs, 7, none⟩ = some (.int .u32 (h : Nat)) := HK.out.bx.sb.cell (i := 7) (by simp)
      have cw : wr.cell? ⟨gw, n, none⟩ = some (.int .u32 (wt : Nat)) := by rw [← WT.out]; exact HK.out.bx.wb.cell (by rw [hW.out]; exact hlt)
      go_wp2
      rw [choice_r he hf hg, most_bits ha hb hc]
      obtain ⟨ch, CH⟩ : ∃ x, Hid (Gs.choice e f g = x) := ⟨_, rfl⟩
      obtain ⟨mo, MO⟩ : ∃ x, Hid (Gs.most a b c = x) := ⟨_, rfl⟩
      rw [CH.out, MO.out]
      have BD : Hid (Bx w wr.drew gm gw gs L H W [a, b, c, d, e, f, g, h]) := HK.out.bx.drew
      go_region_held (fun w' => w'.cell? ⟨gs, 7, none⟩ = some (.int .u32 (h : Nat)) ∧ w'.cell? ⟨gs, 4, none⟩ = some (.int .u32 (e : Nat)) ∧ w'.cell? ⟨gw, n, none⟩ = some (.int .u32 (wt : Nat))) (go_keep)
        (first
          | (go_at_call 53; refine (refrot_g e _ he (by decide) (by decide) _).mono ?_; rintro e' w' ⟨rfl, h9⟩; rw [h9]; clear h9)
          | (go_at_call 54; refine (refk_n n hlt _).mono ?_; rintro e' w2 ⟨rfl, hb2⟩; have B2' : Hid (Bx w w2 gm gw gs L H W [a, b, c, d, e, f, g, h]) := BD.out.below hb2.out; have d7 : w2.cell? ⟨gs, 7, none⟩ = some (.int .u32 (h : Nat)) := B2'.out.sb.cell (i := 7) (by simp); have d4 : w2.cell? ⟨gs, 4, none⟩ = some (.int .u32 (e : Nat)) := B2'.out.sb.cell (i := 4) (by simp); have dw : w2.cell? ⟨gw, n, none⟩ = some (.int .u32 (wt : Nat)) := by rw [← WT.out]; exact B2'.out.wb.cell (by rw [hW.out]; exact hlt)))
      go_wp2
      rw [sig1_bits he, show Gs.K[n]?.getD 0 = kt from KT.out, add_wrap, add_wrap, add_wrap, add_wrap]
      obtain ⟨x1, X1⟩ : ∃ x, Hid (Gs.add (Gs.add (Gs.add (Gs.add h (sig1 e)) ch) kt) wt = x) := ⟨_, rfl⟩
      rw [X1.out]
      have d0 : w2.cell? ⟨gs, 0, none⟩ = some (.int .u32 (a : Nat)) := B2'.out.sb.cell (i := 0) (by simp)
      clear c0' c1' c2' c3' c4' c5' c6' c7' cw d7 d4 dw hb2 BD
      go_still_tail 13, (by kernel_rfl)
      still_call (refrot_z a 2 2 rfl ha (by decide) (by decide) _)
      repeat still_step
      still_call (refrot_z a 13 13 rfl ha (by decide) (by decide) _)
      repeat still_step
      still_call (refrot_z a 22 22 rfl ha (by decide) (by decide) _)
      repeat still_step
      rw [sig0_bits ha, add_wrap]
      obtain ⟨x2, X2⟩ : ∃ x, Hid (Gs.add (sig0 a) mo = x) := ⟨_, rfl⟩
      rw [X2.out]
      refine wpStill_nil ?_
      generalize hw4 : ({ heap := w2.heap, tape := w2.tape, drawn := w2.drawn + 1, os := w2.os, output := w2.output } : World) = w4
      have H4 : Hid (Bx w w4 gm gw gs L H W [a, b, c, d, e, f, g, h]) := by rw [← (show w2.drew = w4 from hw4)]; exact B2'.out.drew
      clear hw4 d0 B2'
      go_upto_block 8 with (fail)
      refine blk8 w w4 gm gw gs L H W [a, b, c, d, e, f, g, h] rfl H4 _ _ _ _ _ _ _ _ _ _ _ _ _ _ _ _ _ _ _ _ _ _ _ _ _ _ _ _ _ _ _ _ _ _ _ _ _ _ _ _ _ _ _ _ _ _ _ _ _ _ _ _ _ _ _ _ _ _ _ _ _ _ _ _ _ _ _ _ _ _ _ _ _ _ _ _ _ _ _ _ _ _ _ _ _ _ _ _ _ _ _ _ _ _ _ _ _ _ _ _ _ _ _ _ _ _ _ _ _ _ _ _ _ _ _ _ _ _ _ _ _ _ _ _ _ _ _ _ _ _ _ _ _ _ _ _ _ _ _ _ _ _ _ _ _ _ _ _ _ _ _ _ _ _ _ _ _ _ _ _ _ _ _ _ _ _ _ _ _ _ _ _ _ _ _ _ _ _ _ _ _ _ _ _ _ _ _ _ _ _ _ _ _ _ _ _ _ _ _ _ _ _ _ _ _ _ _ _ _ _ _ _ _ _ _ _ _ _ _ _ ?_
      intro v0 v1 v2 v3 v4 v5 v6 v7 v8 v9 v10 w5 h5
      have H5 : Hid (Bx w w5 gm gw gs L H W [a, a, b, c, d, e, f, g]) := h5
      obtain ⟨y4, Y4⟩ : ∃ y, Hid (Gs.add d x1 = y) := ⟨_, rfl⟩
      obtain ⟨y0, Y0⟩ : ∃ y, Hid (Gs.add x1 x2 = y) := ⟨_, rfl⟩
      have e4 : ((d : Int) + (x1 : Int)) % 4294967296 = (y4 : Int) := by rw [add_mod, Y4.out]
      have e0 : ((x1 : Int) + (x2 : Int)) % 4294967296 = (y0 : Int) := by rw [add_mod, Y0.out]
      obtain ⟨w6, H6⟩ : ∃ w6, Hid (w5.setCell ⟨gs, 4, none⟩ (.int .u32 (y4 : Int)) = w6) := ⟨_, rfl⟩
      have B6' : Hid (Bx w w6 gm gw gs L H W [a, a, b, c, y4, e, f, g]) := by rw [← H6.out]; exact H5.out.setS 4 y4
      obtain ⟨w7, H7⟩ : ∃ w7, Hid (w6.setCell ⟨gs, 0, none⟩ (.int .u32 (y0 : Int)) = w7) := ⟨_, rfl⟩
      have B7 : Hid (Bx w w7 gm gw gs L H W [y0, a, b, c, y4, e, f, g]) := by rw [← H7.out]; exact B6'.out.setS 0 y0
      have A5 : Hid (Arr .u32 94 w5 gs [a, a, b, c, d, e, f, g]) := H5.out.sb
      have A6 : Hid (Arr .u32 94 w6 gs [a, a, b, c, y4, e, f, g]) := B6'.out.sb
      have c4 : w5.cell? ⟨gs, 4, none⟩ = some (.int .u32 (d : Nat)) := A5.out.cell (i := 4) (by simp)
      clear h5 H4 H5 B6'
      go_wp2_with (first
        | (refine wpList_stw (by rfl) (by rfl) (.tmp 187) (.tmp 186) (by rfl) (by rfl) (by rfl) A5 (by simp) ?_; rw [e4, H6.out]; clear c4)
        | (refine wpList_stw (by rfl) (by rfl) (.tmp 191) (.tmp 190) (by rfl) (by rfl) (by rfl) A6 (by simp) ?_; rw [e0, H7.out]))
      go_roundw
      case rel =>
        refine ⟨n + 1, y0, a, b, c, y4, e, f, g, by omega, by go_num, B7.out, ?_, ?_⟩
        · show Gs.step (Gs.rounds W (Gs.ofL H) n) (Gs.K.getD n 0) (W.getD n 0) = _
          rw [HK.out.eq, KT.out, WT.out, ← Y4.out, ← Y0.out, ← X1.out, ← X2.out, ← CH.out, ← MO.out]
          rfl
        · have h9 := HK.out.ok.step kt wt
          rw [← Y4.out, ← Y0.out, ← X1.out, ← X2.out, ← CH.out, ← MO.out]
          exact h9
      case measure => simp [intOf]; omega
    · have i2 : ¬ ((n : Int) < 64) := by omega
      have en : Hid (n = 64) := (show n = 64 by omega)
      go_wp2
      have h8 := HK.out.bx
      have h9 := HK.out.eq
      rw [en.out] at h9
      exact hK.out _ _ _ _ _ _ _ _ _ _ _ _ _ _ _ _ _ _ _ _ _ _ _ _ _ _ _ _ _ _ _ _ _ _ _ _ _ _ _ _ _ _ _ _ _ _ _ _ _ _ _ _ _ _ _ _ _ _ _ _ _ _ _ _ _ _ _ _ _ _ _ _ _ _ _ _ _ _ _ _ _ _ _ _ _ _ _ _ _ _ _ _ _ _ _ _ (by rw [h9]; exact h8)
end Go.Proofs.YtmkknklkdgkbaaaDoor
