import Derived.Test.YtkdgakcmhnadfaaGreatDoorMRf
import Derived.Deep.CutBlock
/- Rj -/
/- What the document's putting together of a word does to a machine. -/
namespace Go.Proofs.YtkdgakcmhnadfaaGreatDoor
open Go.ChangeShapes Go.WideShapes Go.ChangeAt Go.RowKit
set_option linter.unusedVariables false
set_option linter.unusedSimpArgs false
theorem ext_zero {l : List Nat} {n t : Nat} (h : l.length = t) (ht : t < n) : (ext l n).set t 0 = ext l n := by
  subst h
  obtain ⟨m, hm⟩ : ∃ m, n - l.length = m + 1 := ⟨n - l.length - 1, by omega⟩
  simp [ext, hm, List.replicate_succ]
theorem blk_getD (L : List Nat) (a i : Nat) (hi : i < 64) : ((L.drop a).take 64).getD i 0 = L.getD (a + i) 0 := by
  simp [List.getD, List.getElem?_take, hi]
theorem blk_lt {L : List Nat} (h : ∀ x ∈ L, x < 256) (a : Nat) : ∀ x ∈ (L.drop a).take 64, x < 256 := fun x hx => h x (List.mem_of_mem_drop (List.mem_of_mem_take hx))
set_option maxRecDepth 20000 in
set_option maxHeartbeats 2000000 in
theorem blk4 {K : Act → World → Prop} {Q' : Exit → Act → World → Prop} (w wr : World) (gm gw N cap at0 t : Nat) (L H B W : List Nat) (hN : Hid (N = L.length)) (hL : Hid (∀ x ∈ L, x < 256)) (ha : Hid (at0 + 64 ≤ N)) (hb : Hid (N < 4611686018427387904)) (ht : t < 16) (hBe : Hid (B = (L.drop at0).take 64)) (hW : Hid (W.length = 64 ∧ W.set t 0 = W)) (hB : Hid (Bw w wr gm gw L H W)) (c0 c1 c2 c3 c9 c10 c11 c12 c13 c14 c15 c16 c17 c18 c19 c20 c21 c22 c23 c24 c25 c26 c27 c28 c29 c30 c31 c32 c33 c34 c35 c36 c37 c38 c39 c40 c41 c42 c43 c44 c45 c46 c47 c48 c49 c50 c51 c52 c53 c54 c55 c56 c57 c58 c59 c60 c61 c62 c63 c64 c65 c66 c67 c68 c69 c70 c71 c72 c73 c74 c75 c76 c77 c78 c79 c80 c81 c82 c83 c84 c85 c86 c87 c88 c89 c90 c91 c92 c93 c94 c95 c96 c97 c98 c99 c100 c101 c102 c103 c104 c105 c106 c107 c108 c109 c110 c111 c112 c113 c114 c115 c116 c117 c118 c119 c120 c121 c122 c123 c124 c125 c126 c127 c128 c129 c130 c131 c132 c133 c134 c135 c136 c137 c138 c139 c140 c141 c142 c143 c144 c145 c146 c147 c148 c149 c150 c151 c152 c153 c154 c155 c156 c157 c158 c159 c160 c161 c162 c163 c164 c165 c166 c167 c168 c169 c170 c171 c172 c173 c174 c175 c176 c177 c178 c179 c180 c181 c182 c183 c184 c185 c186 c187 c188 c189 c190 c191 c192 c193 c194 c195 c196 c197 c198 c199 c200 c201 c202 c203 c204 c205 c206 c207 c208 c209 c210 c211 c212 c213 c214 c215 c216 c217 c218 c219 c220 c221 : Value)
    (hK : Hid (∀ (u8 u37 u38 u39 u40 u41 u42 u43 u44 u45 u46 u47 u48 u49 u50 u51 u52 u53 u54 u55 u56 u57 u58 u59 : Value) (w' : World), Bw w w' gm gw L H (W.set t (partW B t 4)) → K ⟨#[c0, c1, c2, c3, .slice (some ⟨gm, 0, none⟩) N cap, .int .i64 (at0 : Int), .slice (some ⟨gw, 0, none⟩) 64 64, .int .i64 (t : Int), u8, c9, c10, c11, c12, c13, c14, c15, c16, c17, c18, c19, c20, c21, c22, c23, c24, c25, c26, c27, c28, c29, c30, c31, c32, c33, c34, c35, c36, u37, u38, u39, u40, u41, u42, u43, u44, u45, u46, u47, u48, u49, u50, u51, u52, u53, u54, u55, u56, u57, u58, u59, c60, c61, c62, c63, c64, c65, c66, c67, c68, c69, c70, c71, c72, c73, c74, c75, c76, c77, c78, c79, c80, c81, c82, c83, c84, c85, c86, c87, c88, c89, c90, c91, c92, c93, c94, c95, c96, c97, c98, c99, c100, c101, c102, c103, c104, c105, c106, c107, c108, c109, c110, c111, c112, c113, c114, c115, c116, c117, c118, c119, c120, c121, c122, c123, c124, c125, c126, c127, c128, c129, c130, c131, c132, c133, c134, c135, c136, c137, c138, c139, c140, c141, c142, c143, c144, c145, c146, c147, c148, c149, c150, c151, c152, c153, c154, c155, c156, c157, c158, c159, c160, c161, c162, c163, c164, c165, c166, c167, c168, c169, c170, c171, c172, c173, c174, c175, c176, c177, c178, c179, c180, c181, c182, c183, c184, c185, c186, c187, c188, c189, c190, c191, c192, c193, c194, c195, c196, c197, c198, c199, c200, c201, c202, c203, c204, c205, c206, c207, c208, c209, c210, c211, c212, c213, c214, c215, c216, c217, c218, c219, c220, c221], []⟩ w')) :
    Code.wp Tryz.prog ((Tryz.f52.body.bind (blkIn 4)).getD .skip) (Exit.then K Q') ⟨#[c0, c1, c2, c3, .slice (some ⟨gm, 0, none⟩) N cap, .int .i64 (at0 : Int), .slice (some ⟨gw, 0, none⟩) 64 64, .int .i64 (t : Int), .int .i64 0, c9, c10, c11, c12, c13, c14, c15, c16, c17, c18, c19, c20, c21, c22, c23, c24, c25, c26, c27, c28, c29, c30, c31, c32, c33, c34, c35, c36, c37, c38, c39, c40, c41, c42, c43, c44, c45, c46, c47, c48, c49, c50, c51, c52, c53, c54, c55, c56, c57, c58, c59, c60, c61, c62, c63, c64, c65, c66, c67, c68, c69, c70, c71, c72, c73, c74, c75, c76, c77, c78, c79, c80, c81, c82, c83, c84, c85, c86, c87, c88, c89, c90, c91, c92, c93, c94, c95, c96, c97, c98, c99, c100, c101, c102, c103, c104, c105, c106, c107, c108, c109, c110, c111, c112, c113, c114, c115, c116, c117, c118, c119, c120, c121, c122, c123, c124, c125, c126, c127, c128, c129, c130, c131, c132, c133, c134, c135, c136, c137, c138, c139, c140, c141, c142, c143, c144, c145, c146, c147, c148, c149, c150, c151, c152, c153, c154, c155, c156, c157, c158, c159, c160, c161, c162, c163, c164, c165, c166, c167, c168, c169, c170, c171, c172, c173, c174, c175, c176, c177, c178, c179, c180, c181, c182, c183, c184, c185, c186, c187, c188, c189, c190, c191, c192, c193, c194, c195, c196, c197, c198, c199, c200, c201, c202, c203, c204, c205, c206, c207, c208, c209, c210, c211, c212, c213, c214, c215, c216, c217, c218, c219, c220, c221], []⟩ wr := by
  conv => arg 2; whnf
  go_wp2
  go_loopw [8] (fun ti wr => ∃ i : Nat, i ≤ 4 ∧ ti = .int .i64 i ∧ Hid (Bw w wr gm gw L H (W.set t (partW B t i)))) (fun ti _ => 4 - (intOf ti).toNat)
  case atStart => exact ⟨0, by omega, rfl, by have h := hB.out; rw [← hW.out.2] at h; exact h⟩
  case round =>
    obtain ⟨i, hi, rfl, HK⟩ := hrel
    by_cases hlt : i < 4
    · obtain ⟨y, Y⟩ : ∃ y, Hid (partW B t i = y) := ⟨_, rfl⟩
      rw [Y.out] at HK
      have BL : Hid (∀ x ∈ B, x < 256) := by rw [hBe.out]; exact blk_lt hL.out _
      have y1 : y < 16777216 := by
        have h1 := partW_lt BL.out t i
        have h2 : 256 ^ i ≤ 256 ^ 3 := Nat.pow_le_pow_right (by decide) (by omega)
        rw [Y.out] at h1
        omega
      obtain ⟨p, hp⟩ : ∃ p, p = 4 * t := ⟨_, rfl⟩
      obtain ⟨q, hq⟩ : ∃ q, q = at0 + p := ⟨_, rfl⟩
      obtain ⟨r, hr⟩ : ∃ r, r = q + i := ⟨_, rfl⟩
      have a1 := ha.out
      have a2 := hb.out
      have rN : r < N := by omega
      obtain ⟨x, X⟩ : ∃ x, Hid (L.getD r 0 = x) := ⟨_, rfl⟩
      have x1 : x < 256 := by rw [← X.out]; exact getD_lt hL.out _
      have XB : Hid (B.getD (4 * t + i) 0 = x) := by rw [hBe.out, blk_getD _ _ _ (by omega), ← X.out, hr, hq, hp, Nat.add_assoc]; exact rfl
      obtain ⟨m, M⟩ : ∃ z, Hid (y * 256 + x = z) := ⟨_, rfl⟩
      have c1 : wr.cell? ⟨gw, t, none⟩ = some (.int .u32 (y : Nat)) := by
        have h := HK.out.wb.cell (i := t) (by simp [hW.out.1]; omega)
        have hl : t < W.length := by rw [hW.out.1]; omega
        rw [show (W.set t y).getD t 0 = y from by simp [List.getD, hl]] at h
        exact h
      have c2 : wr.cell? ⟨gm, r, none⟩ = some (.int .u8 (x : Nat)) := by
        have h := HK.out.ms r (by rw [← hN.out]; exact rN)
        rw [Nat.zero_add, X.out] at h
        exact h
      have f0 : wr.frozen? ⟨gw, t, none⟩ = false := HK.out.wb.frozen t
      have i1 : (i : Int) < 4 := by omega
      have i2 : (0 : Int) ≤ (t : Int) := by omega
      have i3 : (t : Int) < 64 := by omega
      have i4 : (0 : Int) ≤ (r : Int) := by omega
      have i5 : (r : Int) < (N : Int) := by omega
      have p1 : (4 : Int) * (t : Int) = (p : Int) := by omega
      have p2 : IntKind.i64.wrap (p : Int) = (p : Int) := by rw [IntKind.wrap_i64]; omega
      have q1 : IntKind.i64.wrap ((at0 : Int) + (p : Int)) = (q : Int) := by rw [IntKind.wrap_i64]; omega
      have r1 : IntKind.i64.wrap ((q : Int) + (i : Int)) = (r : Int) := by rw [IntKind.wrap_i64]; omega
      have w0 : IntKind.u32.wrap (x : Int) = (x : Int) := by rw [IntKind.wrap_u32']; omega
      have w1 : IntKind.u32.wrap ((y : Int) * 256) = (y : Int) * 256 := by rw [IntKind.wrap_u32']; omega
      have w2 : IntKind.u32.wrap ((y : Int) * 256 + (x : Int)) = (m : Int) := by rw [IntKind.wrap_u32', ← M.out]; omega
      clear hp hq hr a1 a2
      go_wp2
      go_still_tail 19, (by kernel_rfl)
      go_wp2
      go_roundw
      case rel =>
        refine ⟨i + 1, by omega, by go_num, ?_⟩
        have e : partW B t (i + 1) = m := by
          show partW B t i * 256 + B.getD (4 * t + i) 0 = _
          rw [Y.out, XB.out, M.out]
        rw [e]
        have h := HK.out.drew.setW t m
        rw [List.set_set] at h
        exact h
      case measure => simp [intOf]; omega
    · have i2 : ¬ ((i : Int) < 4) := by omega
      have ek : Hid (i = 4) := (show i = 4 by omega)
      go_wp2
      have h8 := HK.out
      rw [ek.out] at h8
      exact hK.out _ _ _ _ _ _ _ _ _ _ _ _ _ _ _ _ _ _ _ _ _ _ _ _ _ h8
end Go.Proofs.YtkdgakcmhnadfaaGreatDoor

/- Rk -/
/- What the document's words of a block do to a machine. -/
namespace Go.Proofs.YtkdgakcmhnadfaaGreatDoor
open Go.ChangeShapes Go.WideShapes Go.ChangeAt Go.RowKit
set_option linter.unusedVariables false
set_option linter.unusedSimpArgs false
/- the first t words of a block -/
def sc (B : List Nat) (t : Nat) : List Nat := if t ≤ 16 then Gs.firstW B t else Gs.schedN B (t - 16)
theorem sc_length (B : List Nat) (t : Nat) : (sc B t).length = t := by
  unfold sc
  split
  · exact firstW_length B t
  · rw [schedN_length]; omega
theorem sc_first (B : List Nat) (t : Nat) (h : t < 16) : sc B (t + 1) = sc B t ++ [partW B t 4] := by
  unfold sc
  rw [if_pos (by omega), if_pos (by omega), partW_all]
  rfl
theorem sc_next (B : List Nat) (t : Nat) (h : 16 ≤ t) : sc B (t + 1) = sc B t ++ [Gs.nextW (sc B t)] := by
  have e : sc B t = Gs.schedN B (t - 16) := by
    unfold sc
    by_cases h16 : t = 16
    · subst h16; rfl
    · rw [if_neg (by omega)]
  rw [e]
  unfold sc
  rw [if_neg (by omega), show t + 1 - 16 = (t - 16) + 1 from by omega]
  rfl
theorem sc_all (B : List Nat) : sc B 64 = Gs.sched B := rfl
theorem sc_lt {B : List Nat} (hB : ∀ x ∈ B, x < 256) (t : Nat) : ∀ i, (sc B t).getD i 0 < 4294967296 := by
  unfold sc
  split
  · exact firstW_lt hB t
  · exact schedN_lt hB _
theorem Bw.at_ {w wr : World} {gm gw : Nat} {L H l : List Nat} (h : Bw w wr gm gw L H (ext l 64)) {i : Nat} (hi : i < l.length) (hl : i < 64) : wr.cell? ⟨gw, i, none⟩ = some (.int .u32 (l.getD i 0 : Nat)) := by
  have := h.wb.cell (i := i) (by simp [ext]; omega)
  rw [ext_getD hi] at this
  exact this
set_option maxRecDepth 20000 in
set_option maxHeartbeats 2000000 in
theorem blk2 {K : Act → World → Prop} {Q' : Exit → Act → World → Prop} (w wr : World) (gm gw N cap at0 : Nat) (L H B : List Nat) (hN : Hid (N = L.length)) (hL : Hid (∀ x ∈ L, x < 256)) (ha : Hid (at0 + 64 ≤ N)) (hb : Hid (N < 4611686018427387904)) (hBe : Hid (B = (L.drop at0).take 64)) (hB : Hid (Bw w wr gm gw L H Z64)) (c0 c1 c2 c3 c8 c9 c10 c11 c12 c13 c14 c15 c16 c17 c18 c19 c20 c21 c22 c23 c24 c25 c26 c27 c28 c29 c30 c31 c32 c33 c34 c35 c36 c37 c38 c39 c40 c41 c42 c43 c44 c45 c46 c47 c48 c49 c50 c51 c52 c53 c54 c55 c56 c57 c58 c59 c60 c61 c62 c63 c64 c65 c66 c67 c68 c69 c70 c71 c72 c73 c74 c75 c76 c77 c78 c79 c80 c81 c82 c83 c84 c85 c86 c87 c88 c89 c90 c91 c92 c93 c94 c95 c96 c97 c98 c99 c100 c101 c102 c103 c104 c105 c106 c107 c108 c109 c110 c111 c112 c113 c114 c115 c116 c117 c118 c119 c120 c121 c122 c123 c124 c125 c126 c127 c128 c129 c130 c131 c132 c133 c134 c135 c136 c137 c138 c139 c140 c141 c142 c143 c144 c145 c146 c147 c148 c149 c150 c151 c152 c153 c154 c155 c156 c157 c158 c159 c160 c161 c162 c163 c164 c165 c166 c167 c168 c169 c170 c171 c172 c173 c174 c175 c176 c177 c178 c179 c180 c181 c182 c183 c184 c185 c186 c187 c188 c189 c190 c191 c192 c193 c194 c195 c196 c197 c198 c199 c200 c201 c202 c203 c204 c205 c206 c207 c208 c209 c210 c211 c212 c213 c214 c215 c216 c217 c218 c219 c220 c221 : Value)
    (hK : Hid (∀ (u7 u8 u9 u10 u31 u32 u33 u34 u35 u36 u37 u38 u39 u40 u41 u42 u43 u44 u45 u46 u47 u48 u49 u50 u51 u52 u53 u54 u55 u56 u57 u58 u59 u60 u61 u62 u63 u64 u65 u66 u67 u68 u69 u70 u71 u72 u73 u74 u75 u76 u77 u78 u79 u80 u81 u82 u83 u84 u85 u86 u87 u88 u89 u90 u91 u92 u93 u94 u95 u96 u97 u98 u99 u100 u101 : Value) (w' : World), Bw w w' gm gw L H (Gs.sched B) → K ⟨#[c0, c1, c2, c3, .slice (some ⟨gm, 0, none⟩) N cap, .int .i64 (at0 : Int), .slice (some ⟨gw, 0, none⟩) 64 64, u7, u8, u9, u10, c11, c12, c13, c14, c15, c16, c17, c18, c19, c20, c21, c22, c23, c24, c25, c26, c27, c28, c29, c30, u31, u32, u33, u34, u35, u36, u37, u38, u39, u40, u41, u42, u43, u44, u45, u46, u47, u48, u49, u50, u51, u52, u53, u54, u55, u56, u57, u58, u59, u60, u61, u62, u63, u64, u65, u66, u67, u68, u69, u70, u71, u72, u73, u74, u75, u76, u77, u78, u79, u80, u81, u82, u83, u84, u85, u86, u87, u88, u89, u90, u91, u92, u93, u94, u95, u96, u97, u98, u99, u100, u101, c102, c103, c104, c105, c106, c107, c108, c109, c110, c111, c112, c113, c114, c115, c116, c117, c118, c119, c120, c121, c122, c123, c124, c125, c126, c127, c128, c129, c130, c131, c132, c133, c134, c135, c136, c137, c138, c139, c140, c141, c142, c143, c144, c145, c146, c147, c148, c149, c150, c151, c152, c153, c154, c155, c156, c157, c158, c159, c160, c161, c162, c163, c164, c165, c166, c167, c168, c169, c170, c171, c172, c173, c174, c175, c176, c177, c178, c179, c180, c181, c182, c183, c184, c185, c186, c187, c188, c189, c190, c191, c192, c193, c194, c195, c196, c197, c198, c199, c200, c201, c202, c203, c204, c205, c206, c207, c208, c209, c210, c211, c212, c213, c214, c215, c216, c217, c218, c219, c220, c221], []⟩ w')) :
    Code.wp Tryz.prog ((Tryz.f52.body.bind (blkIn 2)).getD .skip) (Exit.then K Q') ⟨#[c0, c1, c2, c3, .slice (some ⟨gm, 0, none⟩) N cap, .int .i64 (at0 : Int), .slice (some ⟨gw, 0, none⟩) 64 64, .int .i64 0, c8, c9, c10, c11, c12, c13, c14, c15, c16, c17, c18, c19, c20, c21, c22, c23, c24, c25, c26, c27, c28, c29, c30, c31, c32, c33, c34, c35, c36, c37, c38, c39, c40, c41, c42, c43, c44, c45, c46, c47, c48, c49, c50, c51, c52, c53, c54, c55, c56, c57, c58, c59, c60, c61, c62, c63, c64, c65, c66, c67, c68, c69, c70, c71, c72, c73, c74, c75, c76, c77, c78, c79, c80, c81, c82, c83, c84, c85, c86, c87, c88, c89, c90, c91, c92, c93, c94, c95, c96, c97, c98, c99, c100, c101, c102, c103, c104, c105, c106, c107, c108, c109, c110, c111, c112, c113, c114, c115, c116, c117, c118, c119, c120, c121, c122, c123, c124, c125, c126, c127, c128, c129, c130, c131, c132, c133, c134, c135, c136, c137, c138, c139, c140, c141, c142, c143, c144, c145, c146, c147, c148, c149, c150, c151, c152, c153, c154, c155, c156, c157, c158, c159, c160, c161, c162, c163, c164, c165, c166, c167, c168, c169, c170, c171, c172, c173, c174, c175, c176, c177, c178, c179, c180, c181, c182, c183, c184, c185, c186, c187, c188, c189, c190, c191, c192, c193, c194, c195, c196, c197, c198, c199, c200, c201, c202, c203, c204, c205, c206, c207, c208, c209, c210, c211, c212, c213, c214, c215, c216, c217, c218, c219, c220, c221], []⟩ wr := by
  have BL : Hid (∀ x ∈ B, x < 256) := by rw [hBe.out]; exact blk_lt hL.out _
  conv => arg 2; whnf
  go_wp2
  go_loopw [7] (fun ti wr => ∃ t : Nat, t ≤ 64 ∧ ti = .int .i64 t ∧ Hid (Bw w wr gm gw L H (ext (sc B t) 64))) (fun ti _ => 64 - (intOf ti).toNat)
  case atStart => exact ⟨0, by omega, rfl, hB.out⟩
  case round =>
    obtain ⟨t, ht, rfl, HK⟩ := hrel
    by_cases h16 : t < 16
    · have i1 : (t : Int) < 64 := by omega
      have i2 : (t : Int) < 16 := by omega
      go_upto_block 4 with (fail)
      refine blk4 w wr gm gw N cap at0 t L H B (ext (sc B t) 64) hN hL ha hb h16 hBe ⟨ext_length _ _ (by rw [sc_length]; omega), ext_zero (sc_length B t) (by omega)⟩ HK _ _ _ _ _ _ _ _ _ _ _ _ _ _ _ _ _ _ _ _ _ _ _ _ _ _ _ _ _ _ _ _ _ _ _ _ _ _ _ _ _ _ _ _ _ _ _ _ _ _ _ _ _ _ _ _ _ _ _ _ _ _ _ _ _ _ _ _ _ _ _ _ _ _ _ _ _ _ _ _ _ _ _ _ _ _ _ _ _ _ _ _ _ _ _ _ _ _ _ _ _ _ _ _ _ _ _ _ _ _ _ _ _ _ _ _ _ _ _ _ _ _ _ _ _ _ _ _ _ _ _ _ _ _ _ _ _ _ _ _ _ _ _ _ _ _ _ _ _ _ _ _ _ _ _ _ _ _ _ _ _ _ _ _ _ _ _ _ _ _ _ _ _ _ _ _ _ _ _ _ _ _ _ _ _ _ _ _ _ _ _ _ _ _ _ _ _ _ _ _ _ _ _ _ _ _ _ _ _ _ _ _ _ _ _ _ _ ?_
      intro v0 v1 v2 v3 v4 v5 v6 v7 v8 v9 v10 v11 v12 v13 v14 v15 v16 v17 v18 v19 v20 v21 v22 v23 w' hw
      have HW : Hid (Bw w w' gm gw L H (ext (sc B (t + 1)) 64)) := by
        rw [sc_first B t h16, ← ext_set (sc_length B t) (by omega)]
        exact hw
      clear hw HK
      go_wp2
      go_roundw
      case rel => exact ⟨t + 1, by omega, by go_num, HW.out⟩
      case measure => simp [intOf]; omega
    · by_cases hlt : t < 64
      · have i1 : (t : Int) < 64 := by omega
        have i2 : ¬ ((t : Int) < 16) := by omega
        obtain ⟨l, Hl⟩ : ∃ l, Hid (sc B t = l) := ⟨_, rfl⟩
        rw [Hl.out] at HK
        have LL : Hid (l.length = t) := by rw [← Hl.out]; exact sc_length B t
        have LB : Hid (∀ i, l.getD i 0 < 4294967296) := by rw [← Hl.out]; exact sc_lt BL.out t
        obtain ⟨a15, h15⟩ : ∃ a, a = t - 15 := ⟨_, rfl⟩
        obtain ⟨a2, h2⟩ : ∃ a, a = t - 2 := ⟨_, rfl⟩
        obtain ⟨a16, h16'⟩ : ∃ a, a = t - 16 := ⟨_, rfl⟩
        obtain ⟨a7, h7⟩ : ∃ a, a = t - 7 := ⟨_, rfl⟩
        have A : Hid (a15 = t - 15 ∧ a2 = t - 2 ∧ a16 = t - 16 ∧ a7 = t - 7 ∧ 16 ≤ t) := ⟨h15, h2, h16', h7, by omega⟩
        have i15 : IntKind.i64.wrap ((t : Int) - 15) = (a15 : Int) := by rw [IntKind.wrap_i64]; omega
        have i2' : IntKind.i64.wrap ((t : Int) - 2) = (a2 : Int) := by rw [IntKind.wrap_i64]; omega
        have i16 : IntKind.i64.wrap ((t : Int) - 16) = (a16 : Int) := by rw [IntKind.wrap_i64]; omega
        have i7 : IntKind.i64.wrap ((t : Int) - 7) = (a7 : Int) := by rw [IntKind.wrap_i64]; omega
        have j15 : (t : Int) - 15 = (a15 : Int) := by omega
        have j2 : (t : Int) - 2 = (a2 : Int) := by omega
        have p15 : (0 : Int) ≤ (a15 : Int) := by omega
        have p2 : (0 : Int) ≤ (a2 : Int) := by omega
        have p16 : (0 : Int) ≤ (a16 : Int) := by omega
        have p7 : (0 : Int) ≤ (a7 : Int) := by omega
        have r15 : (a15 : Int) < 64 := by omega
        have r2 : (a2 : Int) < 64 := by omega
        have r16 : (a16 : Int) < 64 := by omega
        have r7 : (a7 : Int) < 64 := by omega
        have pk : (0 : Int) ≤ (t : Int) := by omega
        obtain ⟨x15, X15⟩ : ∃ x, Hid (l.getD a15 0 = x) := ⟨_, rfl⟩
        obtain ⟨x2, X2⟩ : ∃ x, Hid (l.getD a2 0 = x) := ⟨_, rfl⟩
        obtain ⟨x16, X16⟩ : ∃ x, Hid (l.getD a16 0 = x) := ⟨_, rfl⟩
        obtain ⟨x7, X7⟩ : ∃ x, Hid (l.getD a7 0 = x) := ⟨_, rfl⟩
        have y15 : x15 < 4294967296 := by rw [← X15.out]; exact LB.out _
        have y2 : x2 < 4294967296 := by rw [← X2.out]; exact LB.out _
        have c15 : wr.cell? ⟨gw, a15, none⟩ = some (.int .u32 (x15 : Nat)) := by rw [← X15.out]; exact HK.out.at_ (by rw [LL.out]; omega) (by omega)
        have c2 : wr.cell? ⟨gw, a2, none⟩ = some (.int .u32 (x2 : Nat)) := by rw [← X2.out]; exact HK.out.at_ (by rw [LL.out]; omega) (by omega)
        clear h15 h2 h16' h7
        go_wp2
        go_quiet (fail)
        go_wp2
        obtain ⟨w4, hw4⟩ : ∃ w4, w4 = wr.drewN nq := ⟨_, rfl⟩
        have H4 : Hid (Bw w w4 gm gw L H (ext l 64)) := by rw [hw4]; exact HK.out.drewN nq
        refine (show _ = w4 from hw4.symm) ▸ ?_
        clear hw4 c15 c2 HK i15 i2' j15 j2
        have c16 : w4.cell? ⟨gw, a16, none⟩ = some (.int .u32 (x16 : Nat)) := by rw [← X16.out]; exact H4.out.at_ (by rw [LL.out, A.out.2.2.1]; have := A.out.2.2.2.2; omega) (by omega)
        have c7 : w4.cell? ⟨gw, a7, none⟩ = some (.int .u32 (x7 : Nat)) := by rw [← X7.out]; exact H4.out.at_ (by rw [LL.out, A.out.2.2.2.1]; have := A.out.2.2.2.2; omega) (by omega)
        obtain ⟨z, hz⟩ : ∃ z : Nat, w4.cell? ⟨gw, t, none⟩ = some (.int .u32 z) := by
          refine ⟨_, H4.out.wb.cell ?_⟩
          rw [ext_length _ _ (by rw [LL.out]; omega)]; omega
        have f0 : w4.frozen? ⟨gw, t, none⟩ = false := H4.out.wb.frozen t
        go_still_tail 32, (by kernel_rfl)
        still_call (refrot_z x15 7 7 rfl y15 (by decide) (by decide) _)
        repeat still_step
        still_call (refrot_z x15 18 18 rfl y15 (by decide) (by decide) _)
        repeat still_step
        still_call (refrot_z x2 17 17 rfl y2 (by decide) (by decide) _)
        repeat still_step
        still_call (refrot_z x2 19 19 rfl y2 (by decide) (by decide) _)
        repeat still_step
        have v1 : IntKind.u32.wrap ((x15 : Int) / 8) = (x15 : Int) / 8 := by rw [IntKind.wrap_u32']; omega
        have v2 : IntKind.u32.wrap ((x2 : Int) / 1024) = (x2 : Int) / 1024 := by rw [IntKind.wrap_u32']; omega
        rw [v1, v2, s0_bits y15, s1_bits y2, add_wrap, add_wrap, add_wrap]
        clear v1 v2
        obtain ⟨m, M⟩ : ∃ m, Hid (Gs.add (Gs.add (Gs.add x16 (Gs.s0 x15)) x7) (Gs.s1 x2) = m) := ⟨_, rfl⟩
        rw [M.out]
        refine wpStill_nil ?_
        go_wp2
        go_roundw
        case rel =>
          refine ⟨t + 1, by omega, by go_num, ?_⟩
          have e : sc B (t + 1) = l ++ [m] := by
            rw [sc_next B t A.out.2.2.2.2, Hl.out, ← M.out, ← X16.out, ← X7.out, ← X15.out, ← X2.out, A.out.1, A.out.2.1, A.out.2.2.1, A.out.2.2.2.1, ← LL.out]
            rfl
          rw [e, ← ext_set LL.out hlt]
          exact H4.out.drew.setW t m
        case measure => simp [intOf]; omega
      · have i2 : ¬ ((t : Int) < 64) := by omega
        have ek : Hid (t = 64) := (show t = 64 by omega)
        go_wp2
        have h8 := HK.out
        rw [ek.out, show ext (sc B 64) 64 = Gs.sched B from by rw [sc_all]; simp [ext, show (Gs.sched B).length = 64 from schedN_length B 48]] at h8
        exact hK.out _ _ _ _ _ _ _ _ _ _ _ _ _ _ _ _ _ _ _ _ _ _ _ _ _ _ _ _ _ _ _ _ _ _ _ _ _ _ _ _ _ _ _ _ _ _ _ _ _ _ _ _ _ _ _ _ _ _ _ _ _ _ _ _ _ _ _ _ _ _ _ _ _ _ _ _ h8
end Go.Proofs.YtkdgakcmhnadfaaGreatDoor

/- Ri -/
/- What the document's moving on of a state by one place does to a machine. -/
namespace Go.Proofs.YtkdgakcmhnadfaaGreatDoor
open Go.ChangeShapes Go.WideShapes Go.ChangeAt Go.RowKit
set_option linter.unusedVariables false
set_option linter.unusedSimpArgs false
set_option maxRecDepth 20000 in
set_option maxHeartbeats 2000000 in
theorem blk8 {K : Act → World → Prop} {Q' : Exit → Act → World → Prop} (w wr : World) (gm gw gs : Nat) (L H W S : List Nat) (hS : Hid (S.length = 8)) (hB : Hid (Bx w wr gm gw gs L H W S)) (c0 c1 c2 c3 c4 c5 c6 c7 c8 c9 c10 c12 c13 c14 c15 c16 c18 c19 c20 c21 c22 c23 c24 c25 c26 c27 c28 c29 c30 c31 c32 c33 c34 c35 c36 c37 c38 c39 c40 c41 c42 c43 c44 c45 c46 c47 c48 c49 c50 c51 c52 c53 c54 c55 c56 c57 c58 c59 c60 c61 c62 c63 c64 c65 c66 c67 c68 c69 c70 c71 c72 c73 c74 c75 c76 c77 c78 c79 c80 c81 c82 c83 c84 c85 c86 c87 c88 c89 c90 c91 c92 c93 c94 c95 c96 c97 c98 c99 c100 c101 c102 c103 c104 c105 c106 c107 c108 c109 c110 c111 c112 c113 c114 c115 c116 c117 c118 c119 c120 c121 c122 c123 c124 c125 c126 c127 c128 c129 c130 c131 c132 c133 c134 c135 c136 c137 c138 c139 c140 c141 c142 c143 c144 c145 c146 c147 c148 c149 c150 c151 c152 c153 c154 c155 c156 c157 c158 c159 c160 c161 c162 c163 c164 c165 c166 c167 c168 c169 c170 c171 c172 c173 c174 c175 c176 c177 c178 c179 c180 c181 c182 c183 c184 c185 c186 c187 c188 c189 c190 c191 c192 c193 c194 c195 c196 c197 c198 c199 c200 c201 c202 c203 c204 c205 c206 c207 c208 c209 c210 c211 c212 c213 c214 c215 c216 c217 c218 c219 c220 c221 : Value)
    (hK : Hid (∀ (u17 u173 u174 u175 u176 u177 u178 u179 u180 u181 u182 : Value) (w' : World), Bx w w' gm gw gs L H W (shf S 7) → K ⟨#[c0, c1, c2, c3, c4, c5, c6, c7, c8, c9, c10, .pointer (some ⟨gs, 0, none⟩), c12, c13, c14, c15, c16, u17, c18, c19, c20, c21, c22, c23, c24, c25, c26, c27, c28, c29, c30, c31, c32, c33, c34, c35, c36, c37, c38, c39, c40, c41, c42, c43, c44, c45, c46, c47, c48, c49, c50, c51, c52, c53, c54, c55, c56, c57, c58, c59, c60, c61, c62, c63, c64, c65, c66, c67, c68, c69, c70, c71, c72, c73, c74, c75, c76, c77, c78, c79, c80, c81, c82, c83, c84, c85, c86, c87, c88, c89, c90, c91, c92, c93, c94, c95, c96, c97, c98, c99, c100, c101, c102, c103, c104, c105, c106, c107, c108, c109, c110, c111, c112, c113, c114, c115, c116, c117, c118, c119, c120, c121, c122, c123, c124, c125, c126, c127, c128, c129, c130, c131, c132, c133, c134, c135, c136, c137, c138, c139, c140, c141, c142, c143, c144, c145, c146, c147, c148, c149, c150, c151, c152, c153, c154, c155, c156, c157, c158, c159, c160, c161, c162, c163, c164, c165, c166, c167, c168, c169, c170, c171, c172, u173, u174, u175, u176, u177, u178, u179, u180, u181, u182, c183, c184, c185, c186, c187, c188, c189, c190, c191, c192, c193, c194, c195, c196, c197, c198, c199, c200, c201, c202, c203, c204, c205, c206, c207, c208, c209, c210, c211, c212, c213, c214, c215, c216, c217, c218, c219, c220, c221], []⟩ w')) :
    Code.wp Tryz.prog ((Tryz.f52.body.bind (blkIn 8)).getD .skip) (Exit.then K Q') ⟨#[c0, c1, c2, c3, c4, c5, c6, c7, c8, c9, c10, .pointer (some ⟨gs, 0, none⟩), c12, c13, c14, c15, c16, .int .i64 7, c18, c19, c20, c21, c22, c23, c24, c25, c26, c27, c28, c29, c30, c31, c32, c33, c34, c35, c36, c37, c38, c39, c40, c41, c42, c43, c44, c45, c46, c47, c48, c49, c50, c51, c52, c53, c54, c55, c56, c57, c58, c59, c60, c61, c62, c63, c64, c65, c66, c67, c68, c69, c70, c71, c72, c73, c74, c75, c76, c77, c78, c79, c80, c81, c82, c83, c84, c85, c86, c87, c88, c89, c90, c91, c92, c93, c94, c95, c96, c97, c98, c99, c100, c101, c102, c103, c104, c105, c106, c107, c108, c109, c110, c111, c112, c113, c114, c115, c116, c117, c118, c119, c120, c121, c122, c123, c124, c125, c126, c127, c128, c129, c130, c131, c132, c133, c134, c135, c136, c137, c138, c139, c140, c141, c142, c143, c144, c145, c146, c147, c148, c149, c150, c151, c152, c153, c154, c155, c156, c157, c158, c159, c160, c161, c162, c163, c164, c165, c166, c167, c168, c169, c170, c171, c172, c173, c174, c175, c176, c177, c178, c179, c180, c181, c182, c183, c184, c185, c186, c187, c188, c189, c190, c191, c192, c193, c194, c195, c196, c197, c198, c199, c200, c201, c202, c203, c204, c205, c206, c207, c208, c209, c210, c211, c212, c213, c214, c215, c216, c217, c218, c219, c220, c221], []⟩ wr := by
  conv => arg 2; whnf
  go_wp2
  go_loopw [17] (fun ti wr => ∃ k i : Nat, i + k = 7 ∧ ti = .int .i64 i ∧ Hid (Bx w wr gm gw gs L H W (shf S k))) (fun ti _ => (intOf ti).toNat)
  case atStart => exact ⟨0, 7, rfl, rfl, hB.out⟩
  case round =>
    obtain ⟨k, i, hk, rfl, HK⟩ := hrel
    by_cases hlt : 0 < i
    · obtain ⟨j, hj⟩ : ∃ j, j = i - 1 := ⟨_, rfl⟩
      obtain ⟨h, Hh⟩ : ∃ h, Hid (shf S k = h) := ⟨_, rfl⟩
      rw [Hh.out] at HK
      have Lh : Hid (h.length = 8) := by rw [← Hh.out, shf_length]; exact hS.out
      obtain ⟨x, X⟩ : ∃ x, Hid (h.getD j 0 = x) := ⟨_, rfl⟩
      have c1 : wr.cell? ⟨gs, j, none⟩ = some (.int .u32 (x : Nat)) := by rw [← X.out]; exact HK.out.sb.cell (by rw [Lh.out]; omega)
      obtain ⟨z, c2⟩ : ∃ z : Nat, wr.cell? ⟨gs, i, none⟩ = some (.int .u32 (z : Nat)) := ⟨_, HK.out.sb.cell (by rw [Lh.out]; omega)⟩
      have f0 : wr.frozen? ⟨gs, i, none⟩ = false := HK.out.sb.frozen i
      have i1 : (0 : Int) < (i : Int) := by omega
      have i2 : (i : Int) < 8 := by omega
      have i3 : (0 : Int) ≤ (j : Int) := by omega
      have i4 : (j : Int) < 8 := by omega
      have q1 : (i : Int) - 1 = (j : Int) := by omega
      have E : Hid (i + k = 7 ∧ j + 1 = i) := ⟨hk, by omega⟩
      clear hj hk
      go_wp2
      go_roundw
      case rel =>
        have e1 := E.out.1
        have e2 := E.out.2
        refine ⟨k + 1, j, by omega, rfl, ?_⟩
        have e : shf S (k + 1) = h.set i x := by
          show (shf S k).set (7 - k) ((shf S k).getD (6 - k) 0) = _
          rw [Hh.out, ← X.out, show 7 - k = i from by omega, show 6 - k = j from by omega]
        rw [e]
        exact HK.out.setS i x
      case measure => have e2 := E.out.2; simp [intOf]; omega
    · have i2 : ¬ ((0 : Int) < (i : Int)) := by omega
      have ek : Hid (k = 7) := (show k = 7 by omega)
      go_wp2
      have h8 := HK.out
      rw [ek.out] at h8
      exact hK.out _ _ _ _ _ _ _ _ _ _ _ _ h8
end Go.Proofs.YtkdgakcmhnadfaaGreatDoor
