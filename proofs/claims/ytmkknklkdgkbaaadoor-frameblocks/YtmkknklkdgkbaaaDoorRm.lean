/- What the document's work on one block of the message does to a machine. -/
import Derived.Test.YtmkknklkdgkbaaaDoorRg
import Derived.Test.YtmkknklkdgkbaaaDoorRk
import Derived.Test.YtmkknklkdgkbaaaDoorRl
namespace Go.Proofs.YtmkknklkdgkbaaaDoor
open Go.ChangeShapes Go.WideShapes Go.ChangeAt Go.RowKit
set_option linter.unusedVariables false
set_option linter.unusedSimpArgs false
theorem wp_any {s : Code} {Q : Exit → Act → World → Prop} {a : Act} {w : World} (h : Code.wp Tryd.prog s (Exit.then (fun a w => Q .normal a w) Q) a w) : Code.wp Tryd.prog s Q a w := by
  refine wp_mono h ?_
  intro e a' w' hq
  cases e with
  | normal => exact hq
  | exit id => exact hq
  | goto l => exact hq
  | ret => exact hq
  | panic ch => exact hq
  | outgrown => exact hq
theorem info43 : (Tryd.prog.info? 91).map (fun i => (i.zero, i.size, i.bytes)) = some (some (.int .u32 0), 1, 4) := by kernel_rfl
theorem und44 : ∃ d, Tryd.prog.underlying 94 = some d ∧ d.isRow = true := ⟨_, Tryd.underlying94, rfl⟩
theorem sz44 : (Tryd.prog.info? 94).map (·.size) = some 8 := by kernel_rfl
theorem make_words (w : World) : (Instr.makeSlice 95 (.int .i64 64) (.int .i64 64)).run Tryd.prog w = .ok (.slice (some ⟨w.heap.size, 0, none⟩) 64 64) (w.alloc (.cells (cs .u32 Z64) 91)) := by
  obtain ⟨i, hi, hz0, hz1, hz2⟩ := info_parts info43
  have hr := run_make (P := Tryd.prog) w 95 91 i (.int .u32 0) Tryd.underlying95 hi hz0 .i64 .i64 64 64 (by omega) (by omega) (by rw [hz2]; omega) (by omega)
  rw [hz1] at hr
  have e0 : ∀ n, madeCells #[Value.int .u32 0] n = cs .u32 (List.replicate n 0) := fun n => by
    apply Array.ext
    · simp [madeCells, cs]
    · intro i h1 h2
      simp [madeCells, Nat.mod_one, cs, wv]
  have e : madeCells #[Value.int .u32 0] 64 = cs .u32 Z64 := e0 64
  have e2 : (64 : Int).toNat = 64 := rfl
  rw [e2] at hr
  simp only [Value.cells] at hr
  rw [← e]
  simpa using hr
theorem Bx.putS {w wr : World} {gm gw gs : Nat} {L H W S : List Nat} (h : Bx w wr gm gw gs L H W S) (S2 : List Nat) : Bx w (wr.setRow gs (cs .u32 S2)) gm gw gs L H W S2 := by
  have o : Oth gs wr (wr.setRow gs (cs .u32 S2)) := Oth.setRow _
  have h1 := h.lm; have h2 := h.lw; have h3 := h.ls
  exact ⟨h.out.oth o (by omega), h.hb.oth o (by omega), h.ms.oth o h.msn, h.wb.oth o h.ws, h.sb.setRow S2, o.below h.bel (by omega), h1, h2, h3, h.mw, h.msn, h.ws, by rw [o.size]; exact h.tm⟩
set_option maxRecDepth 20000 in
set_option maxHeartbeats 2000000 in
theorem blk1 {K : Act → World → Prop} {Q' : Exit → Act → World → Prop} (w wr : World) (gm N cap at0 : Nat) (L H : List Nat) (hN : Hid (N = L.length)) (hL : Hid (∀ x ∈ L, x < 256)) (ha : Hid (at0 + 64 ≤ N)) (hb : Hid (N < 4611686018427387904)) (hH : Hid (H.length = 8 ∧ Lt32 H)) (hB : Hid (Bm w wr gm L H)) (c0 c1 c2 c6 c7 c8 c9 c10 c11 c12 c13 c14 c15 c16 c17 c18 c19 c20 c21 c22 c23 c24 c25 c26 c27 c28 c29 c30 c31 c32 c33 c34 c35 c36 c37 c38 c39 c40 c41 c42 c43 c44 c45 c46 c47 c48 c49 c50 c51 c52 c53 c54 c55 c56 c57 c58 c59 c60 c61 c62 c63 c64 c65 c66 c67 c68 c69 c70 c71 c72 c73 c74 c75 c76 c77 c78 c79 c80 c81 c82 c83 c84 c85 c86 c87 c88 c89 c90 c91 c92 c93 c94 c95 c96 c97 c98 c99 c100 c101 c102 c103 c104 c105 c106 c107 c108 c109 c110 c111 c112 c113 c114 c115 c116 c117 c118 c119 c120 c121 c122 c123 c124 c125 c126 c127 c128 c129 c130 c131 c132 c133 c134 c135 c136 c137 c138 c139 c140 c141 c142 c143 c144 c145 c146 c147 c148 c149 c150 c151 c152 c153 c154 c155 c156 c157 c158 c159 c160 c161 c162 c163 c164 c165 c166 c167 c168 c169 c170 c171 c172 c173 c174 c175 c176 c177 c178 c179 c180 c181 c182 c183 c184 c185 c186 c187 c188 c189 c190 c191 c192 c193 c194 c195 c196 c197 c198 c199 c200 c201 c202 c203 c204 c205 c206 c207 c208 c209 c210 c211 c212 c213 c214 c215 c216 c217 c218 c219 c220 c221 : Value)
    (hK : Hid (∀ (u6 u7 u8 u9 u10 u11 u12 u13 u14 u15 u16 u17 u18 u30 u31 u32 u33 u34 u35 u36 u37 u38 u39 u40 u41 u42 u43 u44 u45 u46 u47 u48 u49 u50 u51 u52 u53 u54 u55 u56 u57 u58 u59 u60 u61 u62 u63 u64 u65 u66 u67 u68 u69 u70 u71 u72 u73 u74 u75 u76 u77 u78 u79 u80 u81 u82 u83 u84 u85 u86 u87 u88 u89 u90 u91 u92 u93 u94 u95 u96 u97 u98 u99 u100 u101 u102 u103 u104 u105 u106 u107 u108 u109 u110 u111 u112 u113 u114 u115 u116 u117 u118 u119 u120 u121 u122 u123 u124 u125 u126 u127 u128 u129 u130 u131 u132 u133 u134 u135 u136 u137 u138 u139 u140 u141 u142 u143 u144 u145 u146 u147 u148 u149 u150 u151 u152 u153 u154 u155 u156 u157 u158 u159 u160 u161 u162 u163 u164 u165 u166 u167 u168 u169 u170 u171 u172 u173 u174 u175 u176 u177 u178 u179 u180 u181 u182 u183 u184 u185 u186 u187 u188 u189 u190 u191 u192 u193 u194 u195 u196 u197 u198 u199 u200 u201 u202 u203 : Value) (w' : World), Bm w w' gm L (Gs.after H ((L.drop at0).take 64)) → K ⟨#[c0, c1, c2, .pointer (some ⟨w.heap.size + 1, 0, none⟩), .slice (some ⟨gm, 0, none⟩) N cap, .int .i64 (at0 : Int), u6, u7, u8, u9, u10, u11, u12, u13, u14, u15, u16, u17, u18, c19, c20, c21, c22, c23, c24, c25, c26, c27, c28, c29, u30, u31, u32, u33, u34, u35, u36, u37, u38, u39, u40, u41, u42, u43, u44, u45, u46, u47, u48, u49, u50, u51, u52, u53, u54, u55, u56, u57, u58, u59, u60, u61, u62, u63, u64, u65, u66, u67, u68, u69, u70, u71, u72, u73, u74, u75, u76, u77, u78, u79, u80, u81, u82, u83, u84, u85, u86, u87, u88, u89, u90, u91, u92, u93, u94, u95, u96, u97, u98, u99, u100, u101, u102, u103, u104, u105, u106, u107, u108, u109, u110, u111, u112, u113, u114, u115, u116, u117, u118, u119, u120, u121, u122, u123, u124, u125, u126, u127, u128, u129, u130, u131, u132, u133, u134, u135, u136, u137, u138, u139, u140, u141, u142, u143, u144, u145, u146, u147, u148, u149, u150, u151, u152, u153, u154, u155, u156, u157, u158, u159, u160, u161, u162, u163, u164, u165, u166, u167, u168, u169, u170, u171, u172, u173, u174, u175, u176, u177, u178, u179, u180, u181, u182, u183, u184, u185, u186, u187, u188, u189, u190, u191, u192, u193, u194, u195, u196, u197, u198, u199, u200, u201, u202, u203, c204, c205, c206, c207, c208, c209, c210, c211, c212, c213, c214, c215, c216, c217, c218, c219, c220, c221], []⟩ w')) :
    Code.wp Tryd.prog ((Tryd.f32.body.bind (blkIn 1)).getD .skip) (Exit.then K Q') ⟨#[c0, c1, c2, .pointer (some ⟨w.heap.size + 1, 0, none⟩), .slice (some ⟨gm, 0, none⟩) N cap, .int .i64 (at0 : Int), c6, c7, c8, c9, c10, c11, c12, c13, c14, c15, c16, c17, c18, c19, c20, c21, c22, c23, c24, c25, c26, c27, c28, c29, c30, c31, c32, c33, c34, c35, c36, c37, c38, c39, c40, c41, c42, c43, c44, c45, c46, c47, c48, c49, c50, c51, c52, c53, c54, c55, c56, c57, c58, c59, c60, c61, c62, c63, c64, c65, c66, c67, c68, c69, c70, c71, c72, c73, c74, c75, c76, c77, c78, c79, c80, c81, c82, c83, c84, c85, c86, c87, c88, c89, c90, c91, c92, c93, c94, c95, c96, c97, c98, c99, c100, c101, c102, c103, c104, c105, c106, c107, c108, c109, c110, c111, c112, c113, c114, c115, c116, c117, c118, c119, c120, c121, c122, c123, c124, c125, c126, c127, c128, c129, c130, c131, c132, c133, c134, c135, c136, c137, c138, c139, c140, c141, c142, c143, c144, c145, c146, c147, c148, c149, c150, c151, c152, c153, c154, c155, c156, c157, c158, c159, c160, c161, c162, c163, c164, c165, c166, c167, c168, c169, c170, c171, c172, c173, c174, c175, c176, c177, c178, c179, c180, c181, c182, c183, c184, c185, c186, c187, c188, c189, c190, c191, c192, c193, c194, c195, c196, c197, c198, c199, c200, c201, c202, c203, c204, c205, c206, c207, c208, c209, c210, c211, c212, c213, c214, c215, c216, c217, c218, c219, c220, c221], []⟩ wr := by
  have mk := make_words
  conv => arg 2; whnf
  go_upto_block 2 with (fail)
  clear mk
  refine blk2 w _ gm _ N cap at0 L H _ hN hL ha hb rfl (hB.out.bw Z64) _ _ _ _ _ _ _ _ _ _ _ _ _ _ _ _ _ _ _ _ _ _ _ _ _ _ _ _ _ _ _ _ _ _ _ _ _ _ _ _ _ _ _ _ _ _ _ _ _ _ _ _ _ _ _ _ _ _ _ _ _ _ _ _ _ _ _ _ _ _ _ _ _ _ _ _ _ _ _ _ _ _ _ _ _ _ _ _ _ _ _ _ _ _ _ _ _ _ _ _ _ _ _ _ _ _ _ _ _ _ _ _ _ _ _ _ _ _ _ _ _ _ _ _ _ _ _ _ _ _ _ _ _ _ _ _ _ _ _ _ _ _ _ _ _ _ _ _ _ _ _ _ _ _ _ _ _ _ _ _ _ _ _ _ _ _ _ _ _ _ _ _ _ _ _ _ _ _ _ _ _ _ _ _ _ _ _ _ _ _ _ _ _ _ _ _ _ _ _ _ _ _ _ _ _ _ _ _ _ _ _ _ _ _ _ _ _ _ ?_
  intro v0 v1 v2 v3 v4 v5 v6 v7 v8 v9 v10 v11 v12 v13 v14 v15 v16 v17 v18 v19 v20 v21 v22 v23 v24 v25 v26 v27 v28 v29 v30 v31 v32 v33 v34 v35 v36 v37 v38 v39 v40 v41 v42 v43 v44 v45 v46 v47 v48 v49 v50 v51 v52 v53 v54 v55 v56 v57 v58 v59 v60 v61 v62 v63 v64 v65 v66 v67 v68 v69 v70 v71 v72 v73 v74 w2 h2
  obtain ⟨B, HB⟩ : ∃ B, Hid ((L.drop at0).take 64 = B) := ⟨_, rfl⟩
  rw [HB.out] at h2
  have H2 : Hid (Bw w w2 gm wr.heap.size L H (Gs.sched B)) := h2
  clear h2
  generalize wr.heap.size = gw at *
  obtain ⟨W, HW⟩ : ∃ W, Hid (Gs.sched B = W) := ⟨_, rfl⟩
  rw [HW.out] at H2
  have LW : Hid (W.length = 64) := by rw [← HW.out]; exact schedN_length B 48
  have R3 : Hid (Rng .u32 w2 (w.heap.size + 1) 0 H) := H2.out.hb.rng
  have R5 : Hid (Arr .u32 94 (w2.alloc (.cells (cs .u32 Z8) 94)) w2.heap.size Z8) := Arr.new w2 .u32 94 Z8
  have B5 : Hid (Bx w ((w2.alloc (.cells (cs .u32 Z8) 94)).setRow w2.heap.size (cs .u32 H)) gm gw w2.heap.size L H W H) := (H2.out.bx Z8).putS H
  have N8 : Hid (H.length = 8) := hH.out.1
  go_upto_block 6 with (first
    | (refine wpList_ld (by rfl) 94 (.tmp 3) (by rfl) (by rfl) R3 und44 (by rw [N8.out]; exact sz44) ?_)
    | (refine wpList_st0 (t := 94) (l := Z8) (by rfl) (by rfl) 94 (.tmp 11) (.tmp 102) (by rfl) (by rfl) (by rfl) R5 (by rw [N8.out]; exact sz44) (by rw [N8.out]; rfl) ?_))
  refine wp_ends (blk6 w _ gm gw w2.heap.size L H W LW hH B5 _ _ _ _ _ _ _ _ _ _ _ _ _ _ _ _ _ _ _ _ _ _ _ _ _ _ _ _ _ _ _ _ _ _ _ _ _ _ _ _ _ _ _ _ _ _ _ _ _ _ _ _ _ _ _ _ _ _ _ _ _ _ _ _ _ _ _ _ _ _ _ _ _ _ _ _ _ _ _ _ _ _ _ _ _ _ _ _ _ _ _ _ _ _ _ _ _ _ _ _ _ _ _ _ _ _ _ _ _ _ _ _ _ _ _ _ _ _ _ _ _ _ _ _ _ _ _ _ _ _ _ _ _ _ _ _ _ _ _ _ _ _ _ _ _ _ _ _ _ _ _ _ _ _ _ _ _ _ _ _ _ _ _ _ _ _ _ _ _ _ _ _ _ _ _ _ _ _ _ _ _ _ _ _ _ _ _ _ _ _ _ _ _ _ _ _ _ _ _ _ _ _ _ _ _ _ _ _ _ _ _ _ _ _ _ _ _ _ _ ?_)
  intro v0 v1 v2 v3 v4 v5 v6 v7 v8 v9 v10 v11 v12 v13 v14 v15 v16 v17 v18 v19 v20 v21 v22 v23 v24 v25 v26 v27 v28 v29 v30 v31 v32 v33 v34 v35 v36 v37 v38 v39 v40 v41 v42 v43 v44 v45 v46 v47 v48 v49 v50 v51 v52 v53 v54 v55 v56 v57 v58 v59 v60 v61 v62 v63 v64 v65 v66 v67 v68 v69 v70 v71 v72 v73 v74 v75 v76 v77 v78 v79 v80 v81 v82 v83 v84 v85 v86 v87 v88 v89 v90 v91 v92 v93 v94 w6 h6
  have H6 : Hid (Bx w w6 gm gw w2.heap.size L H W (Gs.toL (Gs.rounds W (Gs.ofL H) 64))) := h6
  clear h6 R3 R5 B5
  generalize w2.heap.size = gs at *
  go_upto_block 10 with (fail)
  refine wp_any (blk10 w w6 gm gw gs L H W (Gs.toL (Gs.rounds W (Gs.ofL H) 64)) N8 rfl H6 _ _ _ _ _ _ _ _ _ _ _ _ _ _ _ _ _ _ _ _ _ _ _ _ _ _ _ _ _ _ _ _ _ _ _ _ _ _ _ _ _ _ _ _ _ _ _ _ _ _ _ _ _ _ _ _ _ _ _ _ _ _ _ _ _ _ _ _ _ _ _ _ _ _ _ _ _ _ _ _ _ _ _ _ _ _ _ _ _ _ _ _ _ _ _ _ _ _ _ _ _ _ _ _ _ _ _ _ _ _ _ _ _ _ _ _ _ _ _ _ _ _ _ _ _ _ _ _ _ _ _ _ _ _ _ _ _ _ _ _ _ _ _ _ _ _ _ _ _ _ _ _ _ _ _ _ _ _ _ _ _ _ _ _ _ _ _ _ _ _ _ _ _ _ _ _ _ _ _ _ _ _ _ _ _ _ _ _ _ _ _ _ _ _ _ _ _ _ _ _ _ _ _ _ _ _ _ _ _ _ _ _ _ _ _ _ _ _ _ ?_)
  intro v0 v1 v2 v3 v4 v5 v6 v7 v8 v9 v10 v11 v12 w7 h7
  rw [addK_all N8.out] at h7
  have H7 : Hid (Bm w w7 gm L (Gs.after H ((L.drop at0).take 64))) := by
    have h9 := h7.bm
    rw [← HW.out] at h9
    rw [HB.out]
    exact h9
  clear h7
  go_wp2
  exact hK.out _ _ _ _ _ _ _ _ _ _ _ _ _ _ _ _ _ _ _ _ _ _ _ _ _ _ _ _ _ _ _ _ _ _ _ _ _ _ _ _ _ _ _ _ _ _ _ _ _ _ _ _ _ _ _ _ _ _ _ _ _ _ _ _ _ _ _ _ _ _ _ _ _ _ _ _ _ _ _ _ _ _ _ _ _ _ _ _ _ _ _ _ _ _ _ _ _ _ _ _ _ _ _ _ _ _ _ _ _ _ _ _ _ _ _ _ _ _ _ _ _ _ _ _ _ _ _ _ _ _ _ _ _ _ _ _ _ _ _ _ _ _ _ _ _ _ _ _ _ _ _ _ _ _ _ _ _ _ _ _ _ _ _ _ _ _ _ _ _ _ _ _ _ _ _ _ _ _ _ _ _ _ _ _ _ _ _ _ H7.out
end Go.Proofs.YtmkknklkdgkbaaaDoor
