/- What the document's Sum does to a machine, for all slices of bytes: it gives the digest as an array. -/
import Derived.Test.YtmkknklkdgkbaaaDoorRc
import Derived.Test.YtmkknklkdgkbaaaDoorRe
import Derived.Test.YtmkknklkdgkbaaaDoorRh
import Derived.Test.YtmkknklkdgkbaaaDoorRm
namespace Go.Proofs.YtmkknklkdgkbaaaDoor
open Go.ChangeShapes Go.WideShapes Go.ChangeAt Go.RowKit
set_option linter.unusedVariables false
set_option linter.unusedSimpArgs false
theorem own_row {w : World} {B g k cap : Nat} {l : List Nat} (own : w.ownsRow B 5 1 (.slice (some ⟨g, 0, none⟩) k cap) k (l.map bv)) : Row w g 0 l := by
  intro i hi
  have h3 := own.cells (g := g) rfl i (bv (l.getD i 0)) (by
    rw [List.getElem?_map, List.getElem?_eq_getElem hi]
    simp [List.getD, hi])
  have h4 : (⟨g, 0, none⟩ : Addr).add i = ⟨g, 0 + i, none⟩ := by
    by_cases hi0 : i = 0
    · subst hi0; simp [Addr.add]
    · simp [Addr.add, hi0]
  rw [h4] at h3
  exact h3
/- the world behind the two boxes -/
def sumW (w : World) : World := ((w.alloc (.cells (cs .u8 Zb32) 61)).alloc (.cells (cs .u32 Z8) 94)).setRow (w.heap.size + 1) (cs .u32 Gs.start)
theorem sumW_size (w : World) : (sumW w).heap.size = w.heap.size + 2 := by simp [sumW]
theorem sumW_below (w : World) : Below w.heap.size w (sumW w) := by
  have o : Oth (w.heap.size + 1) ((w.alloc (.cells (cs .u8 Zb32) 61)).alloc (.cells (cs .u32 Z8) 94)) (sumW w) := Oth.setRow _
  exact o.below (below2 w _ _) (by omega)
theorem sumW_out (w : World) : Arr .u8 61 (sumW w) w.heap.size Zb32 := by
  have o : Oth (w.heap.size + 1) ((w.alloc (.cells (cs .u8 Zb32) 61)).alloc (.cells (cs .u32 Z8) 94)) (sumW w) := Oth.setRow _
  exact Arr.oth (k := .u8) (t := 61) (two w (.cells (cs .u8 Zb32) 61) (.cells (cs .u32 Z8) 94)).1 o (by omega)
theorem sumW_hb (w : World) : Arr .u32 94 (sumW w) (w.heap.size + 1) Gs.start :=
  Arr.setRow (k := .u32) (t := 94) (l := Z8) (two w (.cells (cs .u8 Zb32) 61) (.cells (cs .u32 Z8) 94)).2 Gs.start
theorem bm_start {w w2 : World} {v : Value} {L : List Nat} (h : Mes (sumW w) w2 v L) : ∃ gm cap, v = .slice (some ⟨gm, 0, none⟩) L.length cap ∧ Bm w w2 gm L Gs.start := by
  obtain ⟨gm, cap, rfl, own, bel⟩ := h
  have l1 := own.lt gm rfl
  rw [sumW_size] at l1
  have hs := sumW_size w
  exact ⟨gm, cap, rfl, (sumW_out w).below bel (by omega), (sumW_hb w).below bel (by omega), own_row own, (sumW_below w).trans (bel.mono (by omega)), by omega, l1.2⟩
theorem cnt8_lt (c : Nat) : ∀ x ∈ Gs.cnt8 c, x < 256 := by
  intro x hx
  simp only [Gs.cnt8, List.mem_cons, List.not_mem_nil, or_false] at hx
  rcases hx with h | h | h | h | h | h | h | h <;> (rw [h]; exact Nat.mod_lt _ (by decide))
theorem msg_lt {l : List Nat} (h : ∀ x ∈ l, x < 256) : ∀ x ∈ Gs.msg l, x < 256 := by
  intro x hx
  rcases List.mem_append.1 hx with h1 | h1
  · exact h x h1
  rcases List.mem_append.1 h1 with h2 | h2
  · rcases List.mem_append.1 h2 with h3 | h3
    · simp at h3; omega
    · have := List.eq_of_mem_replicate h3; omega
  · exact cnt8_lt _ x h2
theorem wordsN_step (L : List Nat) (b : Nat) : Gs.wordsN L (b + 1) = Gs.after (Gs.wordsN L b) ((L.drop (64 * b)).take 64) := rfl
structure Sst (w wr : World) (gm : Nat) (L : List Nat) (b x : Nat) : Prop where
  x : x = 64 * b
  bm : Bm w wr gm L (Gs.wordsN L b)
set_option maxRecDepth 20000 in
set_option maxHeartbeats 2000000 in
theorem shrefsum_n : RefSum := by
  intro w a n k l hS hk
  have R0 : Hid (Arr .u32 94 ((w.alloc (.cells (cs .u8 Zb32) 61)).alloc (.cells (cs .u32 Z8) 94)) (w.heap.size + 1) Z8) := (two w (.cells (cs .u8 Zb32) 61) (.cells (cs .u32 Z8) 94)).2
  obtain ⟨w1, W1⟩ : ∃ w1, Hid (((w.alloc (.cells (cs .u8 Zb32) 61)).alloc (.cells (cs .u32 Z8) 94)).setRow (w.heap.size + 1) (cs .u32 Gs.start) = w1) := ⟨_, rfl⟩
  have SW : Hid (w1 = sumW w) := W1.out.symm
  have S1 : Hid (Sln w1 a n l) := by rw [SW.out]; exact hS.out.below (sumW_below w)
  obtain ⟨L, HL⟩ : ∃ L, Hid (Gs.msg l = L) := ⟨_, rfl⟩
  have LL : Hid (∀ x ∈ L, x < 256) := by rw [← HL.out]; exact msg_lt hS.out.lt
  have LN := Gs.msg_length l
  rw [HL.out] at LN
  have lb := hS.out.sli.2.1
  have LB : Hid (L.length < 4611686018427387904 ∧ L.length % 64 = 0) := by
    split at LN <;> exact ⟨by omega, by omega⟩
  clear LN lb
  go_enter Tryd.func32, Tryd.ntmps32
  go_upto_region 3 with (first
    | (refine wpList_st0 (t := 94) (l := Z8) (l2 := Gs.start) (by rfl) (by rfl) 94 (.tmp 3) (.tmp 21) (by rfl) (by rfl) (by rfl) R0 sz44 (by rfl) ?_; refine (show _ = w1 from W1.out) ▸ ?_)
    | (go_at_call 52; refine (message_n S1 hk).mono ?_; rintro e w2 ⟨v, rfl, H2⟩))
  rw [HL.out, SW.out] at H2
  obtain ⟨gm, cap, rfl, H3⟩ := bm_start H2.out
  have B3 : Hid (Bm w w2 gm L Gs.start) := H3
  clear H2 H3 R0 S1
  obtain ⟨N, HN⟩ : ∃ N, Hid (N = L.length) := ⟨_, rfl⟩
  rw [← HN.out]
  have NB : Hid (N < 4611686018427387904) := by rw [HN.out]; exact LB.out.1
  have n62 : N < 4611686018427387904 := NB.out
  go_wp2
  go_loopw [5] (fun ti wr => ∃ b x : Nat, ti = .int .i64 x ∧ x ≤ N ∧ Hid (Sst w wr gm L b x)) (fun ti _ => N - (intOf ti).toNat)
  case atStart => exact ⟨0, 0, rfl, by omega, rfl, B3.out⟩
  case round =>
    obtain ⟨b, x, rfl, hx, HK⟩ := hrel
    have hN0 : N % 64 = 0 := by rw [HN.out]; exact LB.out.2
    have hx0 := HK.out.x
    by_cases hlt : x < N
    · have i1 : (x : Int) < (N : Int) := by omega
      have A : Hid (x + 64 ≤ N) := (show x + 64 ≤ N by omega)
      have HH : Hid ((Gs.wordsN L b).length = 8 ∧ Lt32 (Gs.wordsN L b)) := ⟨wordsN_length _ _, wordsN_lt _ _⟩
      have X0 : Hid (x = 64 * b) := hx0
      have BK : Hid (Bm w wr gm L (Gs.wordsN L b)) := HK.out.bm
      clear hN0 hx0 HK
      go_upto_block 1 with (fail)
      refine blk1 w wr gm N cap x L (Gs.wordsN L b) HN LL A NB HH BK _ _ _ _ _ _ _ _ _ _ _ _ _ _ _ _ _ _ _ _ _ _ _ _ _ _ _ _ _ _ _ _ _ _ _ _ _ _ _ _ _ _ _ _ _ _ _ _ _ _ _ _ _ _ _ _ _ _ _ _ _ _ _ _ _ _ _ _ _ _ _ _ _ _ _ _ _ _ _ _ _ _ _ _ _ _ _ _ _ _ _ _ _ _ _ _ _ _ _ _ _ _ _ _ _ _ _ _ _ _ _ _ _ _ _ _ _ _ _ _ _ _ _ _ _ _ _ _ _ _ _ _ _ _ _ _ _ _ _ _ _ _ _ _ _ _ _ _ _ _ _ _ _ _ _ _ _ _ _ _ _ _ _ _ _ _ _ _ _ _ _ _ _ _ _ _ _ _ _ _ _ _ _ _ _ _ _ _ _ _ _ _ _ _ _ _ _ _ _ _ _ _ _ _ _ _ _ _ _ _ _ _ _ _ _ _ _ _ _ ?_
      intro v0 v1 v2 v3 v4 v5 v6 v7 v8 v9 v10 v11 v12 v13 v14 v15 v16 v17 v18 v19 v20 v21 v22 v23 v24 v25 v26 v27 v28 v29 v30 v31 v32 v33 v34 v35 v36 v37 v38 v39 v40 v41 v42 v43 v44 v45 v46 v47 v48 v49 v50 v51 v52 v53 v54 v55 v56 v57 v58 v59 v60 v61 v62 v63 v64 v65 v66 v67 v68 v69 v70 v71 v72 v73 v74 v75 v76 v77 v78 v79 v80 v81 v82 v83 v84 v85 v86 v87 v88 v89 v90 v91 v92 v93 v94 v95 v96 v97 v98 v99 v100 v101 v102 v103 v104 v105 v106 v107 v108 v109 v110 v111 v112 v113 v114 v115 v116 v117 v118 v119 v120 v121 v122 v123 v124 v125 v126 v127 v128 v129 v130 v131 v132 v133 v134 v135 v136 v137 v138 v139 v140 v141 v142 v143 v144 v145 v146 v147 v148 v149 v150 v151 v152 v153 v154 v155 v156 v157 v158 v159 v160 v161 v162 v163 v164 v165 v166 v167 v168 v169 v170 v171 v172 v173 v174 v175 v176 v177 v178 v179 v180 v181 v182 v183 v184 v185 v186 w4 h4
      have H4 : Hid (Sst w w4 gm L (b + 1) (x + 64)) := by
        refine ⟨by have := X0.out; omega, ?_⟩
        rw [wordsN_step, ← X0.out]
        exact h4
      clear h4 BK
      go_wp2
      go_roundw
      case rel => exact ⟨b + 1, x + 64, by go_num, A.out, H4.out⟩
      case measure => simp [intOf]; omega
    · have i1 : ¬ ((x : Int) < (N : Int)) := by omega
      have EB : Hid (b = L.length / 64) := (show b = L.length / 64 by rw [← HN.out]; omega)
      have BK : Hid (Bm w wr gm L (Gs.wordsN L b)) := HK.out.bm
      obtain ⟨H, HH⟩ : ∃ H, Hid (Gs.wordsN L b = H) := ⟨_, rfl⟩
      rw [HH.out] at BK
      have H8 : Hid (H.length = 8) := by rw [← HH.out]; exact wordsN_length _ _
      have BO : Hid (Bo w (wr.alloc (.cells (cs .u8 Zb32) 61)) wr.heap.size H []) := BK.out.bo
      clear hN0 hx0 HK BK
      go_upto_block 12 with (fail)
      refine blk12 w _ wr.heap.size H H8 BO _ _ _ _ _ _ _ _ _ _ _ _ _ _ _ _ _ _ _ _ _ _ _ _ _ _ _ _ _ _ _ _ _ _ _ _ _ _ _ _ _ _ _ _ _ _ _ _ _ _ _ _ _ _ _ _ _ _ _ _ _ _ _ _ _ _ _ _ _ _ _ _ _ _ _ _ _ _ _ _ _ _ _ _ _ _ _ _ _ _ _ _ _ _ _ _ _ _ _ _ _ _ _ _ _ _ _ _ _ _ _ _ _ _ _ _ _ _ _ _ _ _ _ _ _ _ _ _ _ _ _ _ _ _ _ _ _ _ _ _ _ _ _ _ _ _ _ _ _ _ _ _ _ _ _ _ _ _ _ _ _ _ _ _ _ _ _ _ _ _ _ _ _ _ _ _ _ _ _ _ _ _ _ _ _ _ _ _ _ _ _ _ _ _ _ _ _ _ _ _ _ _ _ _ _ _ _ _ _ _ _ _ _ _ _ _ _ _ _ ?_
      intro v0 v1 v2 v3 v4 v5 v6 v7 v8 v9 v10 v11 v12 v13 v14 v15 v16 v17 w5 h5
      rw [outN_all] at h5
      obtain ⟨D, HD⟩ : ∃ D, Hid (Gs.digest H = D) := ⟨_, rfl⟩
      rw [HD.out] at h5
      have D32 : Hid (D.length = 32) := by rw [← HD.out]; exact digestN_length H 8
      have e1 : ext D 32 = D := by simp [ext, D32.out]
      have R1 : Hid (Rng .u8 w5 wr.heap.size 0 D) := by have := h5.acc; rw [e1] at this; exact this.rng
      have R2 : Hid (Arr .u8 61 w5 w.heap.size Zb32) := h5.out
      have RE : Hid (Arr .u8 61 (w5.setRow w.heap.size (cs .u8 D)) w.heap.size D) := h5.out.setRow D
      have BE : Hid (Below w.heap.size w (w5.setRow w.heap.size (cs .u8 D))) := (Oth.setRow _).below h5.bel (by omega)
      have VE : Hid (D = Gs.sum l) := by
        rw [← HD.out, ← HH.out, EB.out, ← HL.out]
        exact Gs.sum_msg l
      clear e1 h5 BO
      go_wp2_with (first | (refine wpList_ld (by rfl) 61 (.tmp 19) (by rfl) (by rfl) R1 und25 (by rw [D32.out]; exact sz25) ?_) | (refine wpList_st1 (t := 61) (l := Zb32) (by rfl) (by rfl) 61 (.tmp 2) (.tmp 221) (by rfl) (by rfl) (by rfl) R2 (by rw [D32.out]; exact sz25) (by rw [D32.out]; rfl) ?_))
      refine bodyPost_ret (v := .agg (cs .u8 D)) (res_arr (by rfl) (by rfl) RE.out und25 (by rw [D32.out]; exact sz25)) rfl ?_
      exact ⟨D, rfl, VE.out, BE.out⟩
end Go.Proofs.YtmkknklkdgkbaaaDoor
