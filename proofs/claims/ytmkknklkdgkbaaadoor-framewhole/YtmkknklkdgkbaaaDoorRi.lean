/- What the document's moving on of a state by one place does to a machine. -/
import Derived.Test.YtmkknklkdgkbaaaDoorRf
namespace Go.Proofs.YtmkknklkdgkbaaaDoor
open Go.ChangeShapes Go.WideShapes Go.ChangeAt Go.RowKit
set_option linter.unusedVariables false
set_option linter.unusedSimpArgs false
set_option maxRecDepth 20000 in
set_option maxHeartbeats 2000000 in
theorem blk8 {K : Act → World → Prop} {Q' : Exit → Act → World → Prop} (w wr : World) (gm gw gs : Nat) (L H W S : List Nat) (hS : Hid (S.length = 8)) (hB : Hid (Bx w wr gm gw gs L H W S)) (c0 c1 c2 c3 c4 c5 c6 c7 c8 c9 c10 c12 c13 c14 c15 c16 c18 c19 c20 c21 c22 c23 c24 c25 c26 c27 c28 c29 c30 c31 c32 c33 c34 c35 c36 c37 c38 c39 c40 c41 c42 c43 c44 c45 c46 c47 c48 c49 c50 c51 c52 c53 c54 c55 c56 c57 c58 c59 c60 c61 c62 c63 c64 c65 c66 c67 c68 c69 c70 c71 c72 c73 c74 c75 c76 c77 c78 c79 c80 c81 c82 c83 c84 c85 c86 c87 c88 c89 c90 c91 c92 c93 c94 c95 c96 c97 c98 c99 c100 c101 c102 c103 c104 c105 c106 c107 c108 c109 c110 c111 c112 c113 c114 c115 c116 c117 c118 c119 c120 c121 c122 c123 c124 c125 c126 c127 c128 c129 c130 c131 c132 c133 c134 c135 c136 c137 c138 c139 c140 c141 c142 c143 c144 c145 c146 c147 c148 c149 c150 c151 c152 c153 c154 c155 c156 c157 c158 c159 c160 c161 c162 c163 c164 c165 c166 c167 c168 c169 c170 c171 c172 c173 c174 c175 c176 c177 c178 c179 c180 c181 c182 c183 c184 c185 c186 c187 c188 c189 c190 c191 c192 c193 c194 c195 c196 c197 c198 c199 c200 c201 c202 c203 c204 c205 c206 c207 c208 c209 c210 c211 c212 c213 c214 c215 c216 c217 c218 c219 c220 c221 : Value)
    (hK : Hid (∀ (u17 u173 u174 u175 u176 u177 u178 u179 u180 u181 u182 : Value) (w' : World), Bx w w' gm gw gs L H W (shf S 7) → K ⟨#[c0, c1, c2, c3, c4, c5, c6, c7, c8, c9, c10, .pointer (some ⟨gs, 0, none⟩), c12, c13, c14, c15, c16, u17, c18, c19, c20, c21, c22, c23, c24, c25, c26, c27, c28, c29, c30, c31, c32, c33, c34, c35, c36, c37, c38, c39, c40, c41, c42, c43, c44, c45, c46, c47, c48, c49, c50, c51, c52, c53, c54, c55, c56, c57, c58, c59, c60, c61, c62, c63, c64, c65, c66, c67, c68, c69, c70, c71, c72, c73, c74, c75, c76, c77, c78, c79, c80, c81, c82, c83, c84, c85, c86, c87, c88, c89, c90, c91, c92, c93, c94, c95, c96, c97, c98, c99, c100, c101, c102, c103, c104, c105, c106, c107, c108, c109, c110, c111, c112, c113, c114, c115, c116, c117, c118, c119, c120, c121, c122, c123, c124, c125, c126, c127, c128, c129, c130, c131, c132, c133, c134, c135, c136, c137, c138, c139, c140, c141, c142, c143, c144, c145, c146, c147, c148, c149, c150, c151, c152, c153, c154, c155, c156, c157, c158, c159, c160, c161, c162, c163, c164, c165, c166, c167, c168, c169, c170, c171, c172, u173, u174, u175, u176, u177, u178, u179, u180, u181, u182, c183, c184, c185, c186, c187, c188, c189, c190, c191, c192, c193, c194, c195, c196, c197, c198, c199, c200, c201, c202, c203, c204, c205, c206, c207, c208, c209, c210, c211, c212, c213, c214, c215, c216, c217, c218, c219, c220, c221], []⟩ w')) :
    Code.wp Tryd.prog ((Tryd.f32.body.bind (blkIn 8)).getD .skip) (Exit.then K Q') ⟨#[c0, c1, c2, c3, c4, c5, c6, c7, c8, c9, c10, .pointer (some ⟨gs, 0, none⟩), c12, c13, c14, c15, c16, .int .i64 7, c18, c19, c20, c21, c22, c23, c24, c25, c26, c27, c28, c29, c30, c31, c32, c33, c34, c35, c36, c37, c38, c39, c40, c41, c42, c43, c44, c45, c46, c47, c48, c49, c50, c51, c52, c53, c54, c55, c56, c57, c58, c59, c60, c61, c62, c63, c64, c65, c66, c67, c68, c69, c70, c71, c72, c73, c74, c75, c76, c77, c78, c79, c80, c81, c82, c83, c84, c85, c86, c87, c88, c89, c90, c91, c92, c93, c94, c95, c96, c97, c98, c99, c100, c101, c102, c103, c104, c105, c106, c107, c108, c109, c110, c111, c112, c113, c114, c115, c116, c117, c118, c119, c120, c121, c122, c123, c124, c125, c126, c127, c128, c129, c130, c131, c132, c133, c134, c135, c136, c137, c138, c139, c140, c141, c142, c143, c144, c145, c146, c147, c148, c149, c150, c151, c152, c153, c154, c155, c156, c157, c158, c159, c160, c161, c162, c163, c164, c165, c166, c167, c168, c169, c170, c171, c172, c173, c174, c175, c176, c177, c178, c179, c180, c181, c182, c183, c184, c185, c186, c187, c188, c189, c190, c191, c192, c193, c194, c195, c196, c197, c198, c199, c200, c201, c202, c203, c204, c205, c206, c207, c208, c209, c210, c211, c212, c213, c214, c215, c216, c217, c218, c219, c220, c221], []⟩ wr := by
  conv => arg 2; whnf
  go_wp2
  go_loopw [17] (fun ti wr => ∃ k i : Nat, i + k = 7 ∧ ti = .int .i64 i ∧ Hid (Bx w wr gm gw gs L H W (shf S k))) (fun ti _ => (intOf ti).toNat)
  case atStart => exact ⟨0, 7, rfl, rfl, hB.out⟩
  case round =>
    obtain ⟨k, i, hk, rfl, HK⟩ := hrel
    by_cases hlt : 0 < i
    · obtain ⟨j, hj⟩ : ∃ j, j = i - 1 := ⟨_, rfl⟩
      obtain ⟨h, Hh⟩ : ∃ h, Hid (shf S k = h) := ⟨_, rfl⟩
      rw [Hh.out] at HK
      have Lh : Hid (h.length = 8) := by rw [← Hh.out, shf_length]; exact hS.out
      obtain ⟨x, X⟩ : ∃ x, Hid (h.getD j 0 = x) := ⟨_, rfl⟩
      have c1 : wr.cell? ⟨gs, j, none⟩ = some (.int .u32 (x : Nat)) := by rw [← X.out]; exact HK.out.sb.cell (by rw [Lh.out]; omega)
      obtain ⟨z, c2⟩ : ∃ z : Nat, wr.cell? ⟨gs, i, none⟩ = some (.int .u32 (z : Nat)) := ⟨_, HK.out.sb.cell (by rw [Lh.out]; omega)⟩
      have f0 : wr.frozen? ⟨gs, i, none⟩ = false := HK.out.sb.frozen i
      have i1 : (0 : Int) < (i : Int) := by omega
      have i2 : (i : Int) < 8 := by omega
      have i3 : (0 : Int) ≤ (j : Int) := by omega
      have i4 : (j : Int) < 8 := by omega
      have q1 : (i : Int) - 1 = (j : Int) := by omega
      have E : Hid (i + k = 7 ∧ j + 1 = i) := ⟨hk, by omega⟩
      clear hj hk
      go_wp2
      go_roundw
      case rel =>
        have e1 := E.out.1
        have e2 := E.out.2
        refine ⟨k + 1, j, by omega, rfl, ?_⟩
        have e : shf S (k + 1) = h.set i x := by
          show (shf S k).set (7 - k) ((shf S k).getD (6 - k) 0) = _
          rw [Hh.out, ← X.out, show 7 - k = i from by omega, show 6 - k = j from by omega]
        rw [e]
        exact HK.out.setS i x
      case measure => have e2 := E.out.2; simp [intOf]; omega
    · have i2 : ¬ ((0 : Int) < (i : Int)) := by omega
      have ek : Hid (k = 7) := (show k = 7 by omega)
      go_wp2
      have h8 := HK.out
      rw [ek.out] at h8
      exact hK.out _ _ _ _ _ _ _ _ _ _ _ _ h8
end Go.Proofs.YtmkknklkdgkbaaaDoor
