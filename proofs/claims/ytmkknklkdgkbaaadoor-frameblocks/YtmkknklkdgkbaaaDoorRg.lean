/- What the document's sums at the end of a block do to a machine. -/
import Derived.Test.YtmkknklkdgkbaaaDoorRf
namespace Go.Proofs.YtmkknklkdgkbaaaDoor
open Go.ChangeShapes Go.WideShapes Go.ChangeAt Go.RowKit
set_option linter.unusedVariables false
set_option linter.unusedSimpArgs false
set_option maxRecDepth 20000 in
set_option maxHeartbeats 2000000 in
theorem blk10 {K : Act → World → Prop} {Q' : Exit → Act → World → Prop} (w wr : World) (gm gw gs : Nat) (L H W S : List Nat) (hH : Hid (H.length = 8)) (hS : Hid (S.length = 8)) (hB : Hid (Bx w wr gm gw gs L H W S)) (c0 c1 c2 c4 c5 c6 c7 c8 c9 c10 c12 c13 c14 c15 c16 c17 c18 c19 c20 c21 c22 c23 c24 c25 c26 c27 c28 c29 c30 c31 c32 c33 c34 c35 c36 c37 c38 c39 c40 c41 c42 c43 c44 c45 c46 c47 c48 c49 c50 c51 c52 c53 c54 c55 c56 c57 c58 c59 c60 c61 c62 c63 c64 c65 c66 c67 c68 c69 c70 c71 c72 c73 c74 c75 c76 c77 c78 c79 c80 c81 c82 c83 c84 c85 c86 c87 c88 c89 c90 c91 c92 c93 c94 c95 c96 c97 c98 c99 c100 c101 c102 c103 c104 c105 c106 c107 c108 c109 c110 c111 c112 c113 c114 c115 c116 c117 c118 c119 c120 c121 c122 c123 c124 c125 c126 c127 c128 c129 c130 c131 c132 c133 c134 c135 c136 c137 c138 c139 c140 c141 c142 c143 c144 c145 c146 c147 c148 c149 c150 c151 c152 c153 c154 c155 c156 c157 c158 c159 c160 c161 c162 c163 c164 c165 c166 c167 c168 c169 c170 c171 c172 c173 c174 c175 c176 c177 c178 c179 c180 c181 c182 c183 c184 c185 c186 c187 c188 c189 c190 c191 c193 c194 c195 c196 c197 c198 c199 c200 c201 c202 c203 c204 c205 c206 c207 c208 c209 c210 c211 c212 c213 c214 c215 c216 c217 c218 c219 c220 c221 : Value)
    (hK : Hid (∀ (u18 u192 u193 u194 u195 u196 u197 u198 u199 u200 u201 u202 u203 : Value) (w' : World), Bx w w' gm gw gs L (addK H S 8) W S → K ⟨#[c0, c1, c2, .pointer (some ⟨w.heap.size + 1, 0, none⟩), c4, c5, c6, c7, c8, c9, c10, .pointer (some ⟨gs, 0, none⟩), c12, c13, c14, c15, c16, c17, u18, c19, c20, c21, c22, c23, c24, c25, c26, c27, c28, c29, c30, c31, c32, c33, c34, c35, c36, c37, c38, c39, c40, c41, c42, c43, c44, c45, c46, c47, c48, c49, c50, c51, c52, c53, c54, c55, c56, c57, c58, c59, c60, c61, c62, c63, c64, c65, c66, c67, c68, c69, c70, c71, c72, c73, c74, c75, c76, c77, c78, c79, c80, c81, c82, c83, c84, c85, c86, c87, c88, c89, c90, c91, c92, c93, c94, c95, c96, c97, c98, c99, c100, c101, c102, c103, c104, c105, c106, c107, c108, c109, c110, c111, c112, c113, c114, c115, c116, c117, c118, c119, c120, c121, c122, c123, c124, c125, c126, c127, c128, c129, c130, c131, c132, c133, c134, c135, c136, c137, c138, c139, c140, c141, c142, c143, c144, c145, c146, c147, c148, c149, c150, c151, c152, c153, c154, c155, c156, c157, c158, c159, c160, c161, c162, c163, c164, c165, c166, c167, c168, c169, c170, c171, c172, c173, c174, c175, c176, c177, c178, c179, c180, c181, c182, c183, c184, c185, c186, c187, c188, c189, c190, c191, u192, u193, u194, u195, u196, u197, u198, u199, u200, u201, u202, u203, c204, c205, c206, c207, c208, c209, c210, c211, c212, c213, c214, c215, c216, c217, c218, c219, c220, c221], []⟩ w')) :
    Code.wp Tryd.prog ((Tryd.f32.body.bind (blkIn 10)).getD .skip) (Exit.then K Q') ⟨#[c0, c1, c2, .pointer (some ⟨w.heap.size + 1, 0, none⟩), c4, c5, c6, c7, c8, c9, c10, .pointer (some ⟨gs, 0, none⟩), c12, c13, c14, c15, c16, c17, c18, c19, c20, c21, c22, c23, c24, c25, c26, c27, c28, c29, c30, c31, c32, c33, c34, c35, c36, c37, c38, c39, c40, c41, c42, c43, c44, c45, c46, c47, c48, c49, c50, c51, c52, c53, c54, c55, c56, c57, c58, c59, c60, c61, c62, c63, c64, c65, c66, c67, c68, c69, c70, c71, c72, c73, c74, c75, c76, c77, c78, c79, c80, c81, c82, c83, c84, c85, c86, c87, c88, c89, c90, c91, c92, c93, c94, c95, c96, c97, c98, c99, c100, c101, c102, c103, c104, c105, c106, c107, c108, c109, c110, c111, c112, c113, c114, c115, c116, c117, c118, c119, c120, c121, c122, c123, c124, c125, c126, c127, c128, c129, c130, c131, c132, c133, c134, c135, c136, c137, c138, c139, c140, c141, c142, c143, c144, c145, c146, c147, c148, c149, c150, c151, c152, c153, c154, c155, c156, c157, c158, c159, c160, c161, c162, c163, c164, c165, c166, c167, c168, c169, c170, c171, c172, c173, c174, c175, c176, c177, c178, c179, c180, c181, c182, c183, c184, c185, c186, c187, c188, c189, c190, c191, .int .i64 0, c193, c194, c195, c196, c197, c198, c199, c200, c201, c202, c203, c204, c205, c206, c207, c208, c209, c210, c211, c212, c213, c214, c215, c216, c217, c218, c219, c220, c221], []⟩ wr := by
  conv => arg 2; whnf
  go_wp2
  go_loopw [192] (fun ti wr => ∃ k : Nat, k ≤ 8 ∧ ti = .int .i64 k ∧ Hid (Bx w wr gm gw gs L (addK H S k) W S)) (fun ti _ => 8 - (intOf ti).toNat)
  case atStart => exact ⟨0, by omega, rfl, hB.out⟩
  case round =>
    obtain ⟨k, hk, rfl, HK⟩ := hrel
    by_cases hlt : k < 8
    · obtain ⟨h, Hh⟩ : ∃ h, Hid (addK H S k = h) := ⟨_, rfl⟩
      rw [Hh.out] at HK
      have Lh : Hid (h.length = 8) := by rw [← Hh.out, addK_length]; exact hH.out
      obtain ⟨x, X⟩ : ∃ x, Hid (h.getD k 0 = x) := ⟨_, rfl⟩
      obtain ⟨y, Y⟩ : ∃ x, Hid (S.getD k 0 = x) := ⟨_, rfl⟩
      obtain ⟨m, M⟩ : ∃ z, Hid (Gs.add x y = z) := ⟨_, rfl⟩
      have c1 : wr.cell? ⟨w.heap.size + 1, k, none⟩ = some (.int .u32 (x : Nat)) := by rw [← X.out]; exact HK.out.hb.cell (by rw [Lh.out]; exact hlt)
      have c2 : wr.cell? ⟨gs, k, none⟩ = some (.int .u32 (y : Nat)) := by rw [← Y.out]; exact HK.out.sb.cell (by rw [hS.out]; exact hlt)
      have f0 : wr.frozen? ⟨w.heap.size + 1, k, none⟩ = false := HK.out.hb.frozen k
      have i1 : (0 : Int) ≤ (k : Int) := by omega
      have i2 : (k : Int) < 8 := by omega
      have w1 : IntKind.u32.wrap ((x : Int) + (y : Int)) = (m : Int) := by rw [add_wrap, M.out]
      go_wp2
      go_still_tail 8, (by kernel_rfl)
      go_wp2
      go_roundw
      case rel =>
        refine ⟨k + 1, by omega, by go_num, ?_⟩
        have e : addK H S (k + 1) = h.set k m := by
          show (addK H S k).set k (Gs.add ((addK H S k).getD k 0) (S.getD k 0)) = _
          rw [Hh.out, X.out, Y.out, M.out]
        rw [e]
        exact HK.out.drew.setH k m
      case measure => simp [intOf]; omega
    · have i2 : ¬ ((k : Int) < 8) := by omega
      have ek : Hid (k = 8) := (show k = 8 by omega)
      go_wp2
      have h8 := HK.out
      rw [ek.out] at h8
      exact hK.out _ _ _ _ _ _ _ _ _ _ _ _ _ _ h8
end Go.Proofs.YtmkknklkdgkbaaaDoor
