/- What the document's putting together of a word does to a machine. -/
import Derived.Test.YtmkknklkdgkbaaaDoorRf
namespace Go.Proofs.YtmkknklkdgkbaaaDoor
open Go.ChangeShapes Go.WideShapes Go.ChangeAt Go.RowKit
set_option linter.unusedVariables false
set_option linter.unusedSimpArgs false
theorem ext_zero {l : List Nat} {n t : Nat} (h : l.length = t) (ht : t < n) : (ext l n).set t 0 = ext l n := by
  subst h
  obtain ⟨m, hm⟩ : ∃ m, n - l.length = m + 1 := ⟨n - l.length - 1, by omega⟩
  simp [ext, hm, List.replicate_succ]
theorem blk_getD (L : List Nat) (a i : Nat) (hi : i < 64) : ((L.drop a).take 64).getD i 0 = L.getD (a + i) 0 := by
  simp [List.getD, List.getElem?_take, hi]
theorem blk_lt {L : List Nat} (h : ∀ x ∈ L, x < 256) (a : Nat) : ∀ x ∈ (L.drop a).take 64, x < 256 := fun x hx => h x (List.mem_of_mem_drop (List.mem_of_mem_take hx))
set_option maxRecDepth 20000 in
set_option maxHeartbeats 2000000 in
theorem blk4 {K : Act → World → Prop} {Q' : Exit → Act → World → Prop} (w wr : World) (gm gw N cap at0 t : Nat) (L H B W : List Nat) (hN : Hid (N = L.length)) (hL : Hid (∀ x ∈ L, x < 256)) (ha : Hid (at0 + 64 ≤ N)) (hb : Hid (N < 4611686018427387904)) (ht : t < 16) (hBe : Hid (B = (L.drop at0).take 64)) (hW : Hid (W.length = 64 ∧ W.set t 0 = W)) (hB : Hid (Bw w wr gm gw L H W)) (c0 c1 c2 c3 c9 c10 c11 c12 c13 c14 c15 c16 c17 c18 c19 c20 c21 c22 c23 c24 c25 c26 c27 c28 c29 c30 c31 c32 c33 c34 c35 c36 c37 c38 c39 c40 c41 c42 c43 c44 c45 c46 c47 c48 c49 c50 c51 c52 c53 c54 c55 c56 c57 c58 c59 c60 c61 c62 c63 c64 c65 c66 c67 c68 c69 c70 c71 c72 c73 c74 c75 c76 c77 c78 c79 c80 c81 c82 c83 c84 c85 c86 c87 c88 c89 c90 c91 c92 c93 c94 c95 c96 c97 c98 c99 c100 c101 c102 c103 c104 c105 c106 c107 c108 c109 c110 c111 c112 c113 c114 c115 c116 c117 c118 c119 c120 c121 c122 c123 c124 c125 c126 c127 c128 c129 c130 c131 c132 c133 c134 c135 c136 c137 c138 c139 c140 c141 c142 c143 c144 c145 c146 c147 c148 c149 c150 c151 c152 c153 c154 c155 c156 c157 c158 c159 c160 c161 c162 c163 c164 c165 c166 c167 c168 c169 c170 c171 c172 c173 c174 c175 c176 c177 c178 c179 c180 c181 c182 c183 c184 c185 c186 c187 c188 c189 c190 c191 c192 c193 c194 c195 c196 c197 c198 c199 c200 c201 c202 c203 c204 c205 c206 c207 c208 c209 c210 c211 c212 c213 c214 c215 c216 c217 c218 c219 c220 c221 : Value)
    (hK : Hid (∀ (u8 u37 u38 u39 u40 u41 u42 u43 u44 u45 u46 u47 u48 u49 u50 u51 u52 u53 u54 u55 u56 u57 u58 u59 : Value) (w' : World), Bw w w' gm gw L H (W.set t (partW B t 4)) → K ⟨#[c0, c1, c2, c3, .slice (some ⟨gm, 0, none⟩) N cap, .int .i64 (at0 : Int), .slice (some ⟨gw, 0, none⟩) 64 64, .int .i64 (t : Int), u8, c9, c10, c11, c12, c13, c14, c15, c16, c17, c18, c19, c20, c21, c22, c23, c24, c25, c26, c27, c28, c29, c30, c31, c32, c33, c34, c35, c36, u37, u38, u39, u40, u41, u42, u43, u44, u45, u46, u47, u48, u49, u50, u51, u52, u53, u54, u55, u56, u57, u58, u59, c60, c61, c62, c63, c64, c65, c66, c67, c68, c69, c70, c71, c72, c73, c74, c75, c76, c77, c78, c79, c80, c81, c82, c83, c84, c85, c86, c87, c88, c89, c90, c91, c92, c93, c94, c95, c96, c97, c98, c99, c100, c101, c102, c103, c104, c105, c106, c107, c108, c109, c110, c111, c112, c113, c114, c115, c116, c117, c118, c119, c120, c121, c122, c123, c124, c125, c126, c127, c128, c129, c130, c131, c132, c133, c134, c135, c136, c137, c138, c139, c140, c141, c142, c143, c144, c145, c146, c147, c148, c149, c150, c151, c152, c153, c154, c155, c156, c157, c158, c159, c160, c161, c162, c163, c164, c165, c166, c167, c168, c169, c170, c171, c172, c173, c174, c175, c176, c177, c178, c179, c180, c181, c182, c183, c184, c185, c186, c187, c188, c189, c190, c191, c192, c193, c194, c195, c196, c197, c198, c199, c200, c201, c202, c203, c204, c205, c206, c207, c208, c209, c210, c211, c212, c213, c214, c215, c216, c217, c218, c219, c220, c221], []⟩ w')) :
    Code.wp Tryd.prog ((Tryd.f32.body.bind (blkIn 4)).getD .skip) (Exit.then K Q') ⟨#[c0, c1, c2, c3, .slice (some ⟨gm, 0, none⟩) N cap, .int .i64 (at0 : Int), .slice (some ⟨gw, 0, none⟩) 64 64, .int .i64 (t : Int), .int .i64 0, c9, c10, c11, c12, c13, c14, c15, c16, c17, c18, c19, c20, c21, c22, c23, c24, c25, c26, c27, c28, c29, c30, c31, c32, c33, c34, c35, c36, c37, c38, c39, c40, c41, c42, c43, c44, c45, c46, c47, c48, c49, c50, c51, c52, c53, c54, c55, c56, c57, c58, c59, c60, c61, c62, c63, c64, c65, c66, c67, c68, c69, c70, c71, c72, c73, c74, c75, c76, c77, c78, c79, c80, c81, c82, c83, c84, c85, c86, c87, c88, c89, c90, c91, c92, c93, c94, c95, c96, c97, c98, c99, c100, c101, c102, c103, c104, c105, c106, c107, c108, c109, c110, c111, c112, c113, c114, c115, c116, c117, c118, c119, c120, c121, c122, c123, c124, c125, c126, c127, c128, c129, c130, c131, c132, c133, c134, c135, c136, c137, c138, c139, c140, c141, c142, c143, c144, c145, c146, c147, c148, c149, c150, c151, c152, c153, c154, c155, c156, c157, c158, c159, c160, c161, c162, c163, c164, c165, c166, c167, c168, c169, c170, c171, c172, c173, c174, c175, c176, c177, c178, c179, c180, c181, c182, c183, c184, c185, c186, c187, c188, c189, c190, c191, c192, c193, c194, c195, c196, c197, c198, c199, c200, c201, c202, c203, c204, c205, c206, c207, c208, c209, c210, c211, c212, c213, c214, c215, c216, c217, c218, c219, c220, c221], []⟩ wr := by
  conv => arg 2; whnf
  go_wp2
  go_loopw [8] (fun ti wr => ∃ i : Nat, i ≤ 4 ∧ ti = .int .i64 i ∧ Hid (Bw w wr gm gw L H (W.set t (partW B t i)))) (fun ti _ => 4 - (intOf ti).toNat)
  case atStart => exact ⟨0, by omega, rfl, by have h := hB.out; rw [← hW.out.2] at h; exact h⟩
  case round =>
    obtain ⟨i, hi, rfl, HK⟩ := hrel
    by_cases hlt : i < 4
    · obtain ⟨y, Y⟩ : ∃ y, Hid (partW B t i = y) := ⟨_, rfl⟩
      rw [Y.out] at HK
      have BL : Hid (∀ x ∈ B, x < 256) := by rw [hBe.out]; exact blk_lt hL.out _
      have y1 : y < 16777216 := by
        have h1 := partW_lt BL.out t i
        have h2 : 256 ^ i ≤ 256 ^ 3 := Nat.pow_le_pow_right (by decide) (by omega)
        rw [Y.out] at h1
        omega
      obtain ⟨p, hp⟩ : ∃ p, p = 4 * t := ⟨_, rfl⟩
      obtain ⟨q, hq⟩ : ∃ q, q = at0 + p := ⟨_, rfl⟩
      obtain ⟨r, hr⟩ : ∃ r, r = q + i := ⟨_, rfl⟩
      have a1 := ha.out
      have a2 := hb.out
      have rN : r < N := by omega
      obtain ⟨x, X⟩ : ∃ x, Hid (L.getD r 0 = x) := ⟨_, rfl⟩
      have x1 : x < 256 := by rw [← X.out]; exact getD_lt hL.out _
      have XB : Hid (B.getD (4 * t + i) 0 = x) := by rw [hBe.out, blk_getD _ _ _ (by omega), ← X.out, hr, hq, hp, Nat.add_assoc]; exact rfl
      obtain ⟨m, M⟩ : ∃ z, Hid (y * 256 + x = z) := ⟨_, rfl⟩
      have c1 : wr.cell? ⟨gw, t, none⟩ = some (.int .u32 (y : Nat)) := by
        have h := HK.out.wb.cell (i := t) (by simp [hW.out.1]; omega)
        have hl : t < W.length := by rw [hW.out.1]; omega
        rw [show (W.set t y).getD t 0 = y from by simp [List.getD, hl]] at h
        exact h
      have c2 : wr.cell? ⟨gm, r, none⟩ = some (.int .u8 (x : Nat)) := by
        have h := HK.out.ms r (by rw [← hN.out]; exact rN)
        rw [Nat.zero_add, X.out] at h
        exact h
      have f0 : wr.frozen? ⟨gw, t, none⟩ = false := HK.out.wb.frozen t
      have i1 : (i : Int) < 4 := by omega
      have i2 : (0 : Int) ≤ (t : Int) := by omega
      have i3 : (t : Int) < 64 := by omega
      have i4 : (0 : Int) ≤ (r : Int) := by omega
      have i5 : (r : Int) < (N : Int) := by omega
      have p1 : (4 : Int) * (t : Int) = (p : Int) := by omega
      have p2 : IntKind.i64.wrap (p : Int) = (p : Int) := by rw [IntKind.wrap_i64]; omega
      have q1 : IntKind.i64.wrap ((at0 : Int) + (p : Int)) = (q : Int) := by rw [IntKind.wrap_i64]; omega
      have r1 : IntKind.i64.wrap ((q : Int) + (i : Int)) = (r : Int) := by rw [IntKind.wrap_i64]; omega
      have w0 : IntKind.u32.wrap (x : Int) = (x : Int) := by rw [IntKind.wrap_u32']; omega
      have w1 : IntKind.u32.wrap ((y : Int) * 256) = (y : Int) * 256 := by rw [IntKind.wrap_u32']; omega
      have w2 : IntKind.u32.wrap ((y : Int) * 256 + (x : Int)) = (m : Int) := by rw [IntKind.wrap_u32', ← M.out]; omega
      clear hp hq hr a1 a2
      go_wp2
      go_still_tail 19, (by kernel_rfl)
      go_wp2
      go_roundw
      case rel =>
        refine ⟨i + 1, by omega, by go_num, ?_⟩
        have e : partW B t (i + 1) = m := by
          show partW B t i * 256 + B.getD (4 * t + i) 0 = _
          rw [Y.out, XB.out, M.out]
        rw [e]
        have h := HK.out.drew.setW t m
        rw [List.set_set] at h
        exact h
      case measure => simp [intOf]; omega
    · have i2 : ¬ ((i : Int) < 4) := by omega
      have ek : Hid (i = 4) := (show i = 4 by omega)
      go_wp2
      have h8 := HK.out
      rw [ek.out] at h8
      exact hK.out _ _ _ _ _ _ _ _ _ _ _ _ _ _ _ _ _ _ _ _ _ _ _ _ _ h8
end Go.Proofs.YtmkknklkdgkbaaaDoor
