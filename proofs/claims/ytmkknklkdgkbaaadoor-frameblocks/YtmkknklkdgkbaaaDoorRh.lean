/- What the document's bytes of a state do to a machine. -/
import Derived.Test.YtmkknklkdgkbaaaDoorRf
namespace Go.Proofs.YtmkknklkdgkbaaaDoor
open Go.ChangeShapes Go.WideShapes Go.ChangeAt Go.RowKit
set_option linter.unusedVariables false
set_option linter.unusedSimpArgs false
structure Bo (w wr : World) (g : Nat) (H l : List Nat) : Prop where
  out : Arr .u8 61 wr w.heap.size Zb32
  hb : Arr .u32 94 wr (w.heap.size + 1) H
  acc : Arr .u8 61 wr g (ext l 32)
  bel : Below w.heap.size w wr
  lg : w.heap.size + 1 < g
theorem Bo.snoc {w wr : World} {g : Nat} {H l : List Nat} {k x : Nat} (h : Bo w wr g H l) (hl : l.length = k) (hk : k < 32) : Bo w (wr.setCell ⟨g, k, none⟩ (.int .u8 (x : Int))) g H (l ++ [x]) := by
  have o : Oth g wr (wr.setCell ⟨g, k, none⟩ (.int .u8 (x : Int))) := (Oth.refl _ wr).setCell k _
  have h1 := h.lg
  refine ⟨h.out.oth o (by omega), h.hb.oth o (by omega), ?_, o.below h.bel (by omega), h1⟩
  rw [← ext_set' hl hk]
  exact h.acc.set k x
theorem Bm.bo {w wr : World} {gm : Nat} {L H : List Nat} (h : Bm w wr gm L H) : Bo w (wr.alloc (.cells (cs .u8 Zb32) 61)) wr.heap.size H [] := by
  have b : Below wr.heap.size wr (wr.alloc (.cells (cs .u8 Zb32) 61)) := (Below.refl _ _).alloc (Nat.le_refl _) _
  exact ⟨h.out.below b h.out.lt, h.hb.below b h.hb.lt, Arr.new wr .u8 61 Zb32, h.bel.trans (b.mono h.bel.size), h.hb.lt⟩
set_option maxRecDepth 20000 in
set_option maxHeartbeats 2000000 in
theorem blk12 {K : Act → World → Prop} {Q' : Exit → Act → World → Prop} (w wr : World) (g : Nat) (H : List Nat) (hH : Hid (H.length = 8)) (hB : Hid (Bo w wr g H [])) (c0 c1 c2 c4 c5 c6 c7 c8 c9 c10 c11 c12 c13 c14 c15 c16 c17 c18 c20 c21 c22 c23 c24 c25 c26 c27 c28 c29 c30 c31 c32 c33 c34 c35 c36 c37 c38 c39 c40 c41 c42 c43 c44 c45 c46 c47 c48 c49 c50 c51 c52 c53 c54 c55 c56 c57 c58 c59 c60 c61 c62 c63 c64 c65 c66 c67 c68 c69 c70 c71 c72 c73 c74 c75 c76 c77 c78 c79 c80 c81 c82 c83 c84 c85 c86 c87 c88 c89 c90 c91 c92 c93 c94 c95 c96 c97 c98 c99 c100 c101 c102 c103 c104 c105 c106 c107 c108 c109 c110 c111 c112 c113 c114 c115 c116 c117 c118 c119 c120 c121 c122 c123 c124 c125 c126 c127 c128 c129 c130 c131 c132 c133 c134 c135 c136 c137 c138 c139 c140 c141 c142 c143 c144 c145 c146 c147 c148 c149 c150 c151 c152 c153 c154 c155 c156 c157 c158 c159 c160 c161 c162 c163 c164 c165 c166 c167 c168 c169 c170 c171 c172 c173 c174 c175 c176 c177 c178 c179 c180 c181 c182 c183 c184 c185 c186 c187 c188 c189 c190 c191 c192 c193 c194 c195 c196 c197 c198 c199 c200 c201 c202 c203 c205 c206 c207 c208 c209 c210 c211 c212 c213 c214 c215 c216 c217 c218 c219 c220 c221 : Value)
    (hK : Hid (∀ (u20 u204 u205 u206 u207 u208 u209 u210 u211 u212 u213 u214 u215 u216 u217 u218 u219 u220 : Value) (w' : World), Bo w w' g H (outN H 32) → K ⟨#[c0, c1, c2, .pointer (some ⟨w.heap.size + 1, 0, none⟩), c4, c5, c6, c7, c8, c9, c10, c11, c12, c13, c14, c15, c16, c17, c18, .pointer (some ⟨g, 0, none⟩), u20, c21, c22, c23, c24, c25, c26, c27, c28, c29, c30, c31, c32, c33, c34, c35, c36, c37, c38, c39, c40, c41, c42, c43, c44, c45, c46, c47, c48, c49, c50, c51, c52, c53, c54, c55, c56, c57, c58, c59, c60, c61, c62, c63, c64, c65, c66, c67, c68, c69, c70, c71, c72, c73, c74, c75, c76, c77, c78, c79, c80, c81, c82, c83, c84, c85, c86, c87, c88, c89, c90, c91, c92, c93, c94, c95, c96, c97, c98, c99, c100, c101, c102, c103, c104, c105, c106, c107, c108, c109, c110, c111, c112, c113, c114, c115, c116, c117, c118, c119, c120, c121, c122, c123, c124, c125, c126, c127, c128, c129, c130, c131, c132, c133, c134, c135, c136, c137, c138, c139, c140, c141, c142, c143, c144, c145, c146, c147, c148, c149, c150, c151, c152, c153, c154, c155, c156, c157, c158, c159, c160, c161, c162, c163, c164, c165, c166, c167, c168, c169, c170, c171, c172, c173, c174, c175, c176, c177, c178, c179, c180, c181, c182, c183, c184, c185, c186, c187, c188, c189, c190, c191, c192, c193, c194, c195, c196, c197, c198, c199, c200, c201, c202, c203, u204, u205, u206, u207, u208, u209, u210, u211, u212, u213, u214, u215, u216, u217, u218, u219, u220, c221], []⟩ w')) :
    Code.wp Tryd.prog ((Tryd.f32.body.bind (blkIn 12)).getD .skip) (Exit.then K Q') ⟨#[c0, c1, c2, .pointer (some ⟨w.heap.size + 1, 0, none⟩), c4, c5, c6, c7, c8, c9, c10, c11, c12, c13, c14, c15, c16, c17, c18, .pointer (some ⟨g, 0, none⟩), c20, c21, c22, c23, c24, c25, c26, c27, c28, c29, c30, c31, c32, c33, c34, c35, c36, c37, c38, c39, c40, c41, c42, c43, c44, c45, c46, c47, c48, c49, c50, c51, c52, c53, c54, c55, c56, c57, c58, c59, c60, c61, c62, c63, c64, c65, c66, c67, c68, c69, c70, c71, c72, c73, c74, c75, c76, c77, c78, c79, c80, c81, c82, c83, c84, c85, c86, c87, c88, c89, c90, c91, c92, c93, c94, c95, c96, c97, c98, c99, c100, c101, c102, c103, c104, c105, c106, c107, c108, c109, c110, c111, c112, c113, c114, c115, c116, c117, c118, c119, c120, c121, c122, c123, c124, c125, c126, c127, c128, c129, c130, c131, c132, c133, c134, c135, c136, c137, c138, c139, c140, c141, c142, c143, c144, c145, c146, c147, c148, c149, c150, c151, c152, c153, c154, c155, c156, c157, c158, c159, c160, c161, c162, c163, c164, c165, c166, c167, c168, c169, c170, c171, c172, c173, c174, c175, c176, c177, c178, c179, c180, c181, c182, c183, c184, c185, c186, c187, c188, c189, c190, c191, c192, c193, c194, c195, c196, c197, c198, c199, c200, c201, c202, c203, .int .i64 0, c205, c206, c207, c208, c209, c210, c211, c212, c213, c214, c215, c216, c217, c218, c219, c220, c221], []⟩ wr := by
  conv => arg 2; whnf
  go_wp2
  go_loopw [204] (fun ti wr => ∃ k : Nat, k ≤ 32 ∧ ti = .int .i64 k ∧ Hid (Bo w wr g H (outN H k))) (fun ti _ => 32 - (intOf ti).toNat)
  case atStart => exact ⟨0, by omega, rfl, hB.out⟩
  case round =>
    obtain ⟨k, hk, rfl, HK⟩ := hrel
    by_cases hlt : k < 32
    · obtain ⟨l, Hl⟩ : ∃ l, Hid (outN H k = l) := ⟨_, rfl⟩
      rw [Hl.out] at HK
      have Ll : Hid (l.length = k) := by rw [← Hl.out, outN_length]; exact rfl
      obtain ⟨q, hq⟩ : ∃ q, q = k / 4 := ⟨_, rfl⟩
      obtain ⟨r, hr⟩ : ∃ r, r = k % 4 := ⟨_, rfl⟩
      have hq8 : q < 8 := by omega
      obtain ⟨x, X⟩ : ∃ x, Hid (H.getD q 0 = x) := ⟨_, rfl⟩
      have E : Hid (∀ v, x / 256 ^ (3 - r) % 256 = v → outN H (k + 1) = l ++ [v]) := by
        intro v hv
        show outN H k ++ [H.getD (k / 4) 0 / 256 ^ (3 - k % 4) % 256] = _
        rw [Hl.out, ← hq, ← hr, X.out, hv]
      have c1 : wr.cell? ⟨w.heap.size + 1, q, none⟩ = some (.int .u32 (x : Nat)) := by rw [← X.out]; exact HK.out.hb.cell (by rw [hH.out]; exact hq8)
      obtain ⟨z, c2⟩ : ∃ z : Nat, wr.cell? ⟨g, k, none⟩ = some (.int .u8 (z : Nat)) := ⟨_, HK.out.acc.cell (by rw [ext_length _ _ (by rw [Ll.out]; omega)]; exact hlt)⟩
      have f0 : wr.frozen? ⟨g, k, none⟩ = false := HK.out.acc.frozen k
      have i1 : (0 : Int) ≤ (k : Int) := by omega
      have i2 : (k : Int) < 32 := by omega
      have i3 : (0 : Int) ≤ (q : Int) := by omega
      have i4 : (q : Int) < 8 := by omega
      have t1 : Int.tdiv (k : Int) 4 = (q : Int) := by rw [Int.tdiv_eq_ediv_of_nonneg (by omega)]; omega
      have t2 : (k : Int) / 4 = (q : Int) := by omega
      have r3 : r < 4 := by omega
      have hr2 : (k : Int) % 4 = (r : Int) := by omega
      clear hq hr
      have hc : r = 0 ∨ r = 1 ∨ r = 2 ∨ r = 3 := by omega
      clear r3
      rcases hc with rfl | rfl | rfl | rfl
      · have t3 : Int.tmod (k : Int) 4 = 0 := by rw [Int.tmod_eq_emod_of_nonneg (by omega)]; omega
        have t4 : (k : Int) % 4 = 0 := by omega
        clear hr2
        obtain ⟨v, V⟩ : ∃ v, Hid (x / 16777216 % 256 = v) := ⟨_, rfl⟩
        have e0 : (x : Int) / 16777216 % 256 = (v : Int) := by rw [← V.out]; omega
        go_wp2
        go_roundw
        case rel =>
          refine ⟨k + 1, by omega, by go_num, ?_⟩
          rw [E.out v V.out]
          exact HK.out.snoc Ll.out hlt
        case measure => simp [intOf]; omega
      · have t3 : Int.tmod (k : Int) 4 = 1 := by rw [Int.tmod_eq_emod_of_nonneg (by omega)]; omega
        have t4 : (k : Int) % 4 = 1 := by omega
        clear hr2
        obtain ⟨v, V⟩ : ∃ v, Hid (x / 65536 % 256 = v) := ⟨_, rfl⟩
        have e0 : (x : Int) / 65536 % 256 = (v : Int) := by rw [← V.out]; omega
        go_wp2
        go_roundw
        case rel =>
          refine ⟨k + 1, by omega, by go_num, ?_⟩
          rw [E.out v V.out]
          exact HK.out.snoc Ll.out hlt
        case measure => simp [intOf]; omega
      · have t3 : Int.tmod (k : Int) 4 = 2 := by rw [Int.tmod_eq_emod_of_nonneg (by omega)]; omega
        have t4 : (k : Int) % 4 = 2 := by omega
        clear hr2
        obtain ⟨v, V⟩ : ∃ v, Hid (x / 256 % 256 = v) := ⟨_, rfl⟩
        have e0 : (x : Int) / 256 % 256 = (v : Int) := by rw [← V.out]; omega
        go_wp2
        go_roundw
        case rel =>
          refine ⟨k + 1, by omega, by go_num, ?_⟩
          rw [E.out v V.out]
          exact HK.out.snoc Ll.out hlt
        case measure => simp [intOf]; omega
      · have t3 : Int.tmod (k : Int) 4 = 3 := by rw [Int.tmod_eq_emod_of_nonneg (by omega)]; omega
        have t4 : (k : Int) % 4 = 3 := by omega
        clear hr2
        obtain ⟨v, V⟩ : ∃ v, Hid (x % 256 = v) := ⟨_, rfl⟩
        have e0 : (x : Int) % 256 = (v : Int) := by rw [← V.out]; omega
        go_wp2
        go_roundw
        case rel =>
          refine ⟨k + 1, by omega, by go_num, ?_⟩
          rw [E.out v (by rw [← V.out]; simp)]
          exact HK.out.snoc Ll.out hlt
        case measure => simp [intOf]; omega
    · have i2 : ¬ ((k : Int) < 32) := by omega
      have ek : Hid (k = 32) := (show k = 32 by omega)
      go_wp2
      have h8 := HK.out
      rw [ek.out] at h8
      exact hK.out _ _ _ _ _ _ _ _ _ _ _ _ _ _ _ _ _ _ _ h8
end Go.Proofs.YtmkknklkdgkbaaaDoor
