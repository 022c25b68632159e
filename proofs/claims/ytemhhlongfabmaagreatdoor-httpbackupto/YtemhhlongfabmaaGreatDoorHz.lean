/- The laws' Apart, and two responses compared. -/
import Derived.Test.YtemhhlongfabmaaGreatDoorHy
import Derived.Test.YtemhhlongfabmaaGreatDoorHr
import Derived.ArgAppend
import Derived.Laws.BitsAllLaws
namespace Go.Proofs.YtemhhlongfabmaaGreatDoor
open Go.ChangeShapes Go.WideShapes Go.ChangeAt Go.RowKit
set_option maxRecDepth 20000
set_option linter.unusedVariables false
set_option linter.unusedSimpArgs false
/- a block whose first N cells are bytes -/
def RowB (w : World) (g N : Nat) : Prop := ∃ cur, w.heap[g]? = some (.cells cur 5 (0, 0)) ∧ ∀ i, i < N → ∃ x : Nat, x < 256 ∧ cur[i]? = some (.int .u8 (x : Int))
theorem RowB.cell {w : World} {g N : Nat} (h : RowB w g N) {i : Nat} (hi : i < N) : ∃ x : Nat, x < 256 ∧ w.cell? ⟨g, i, none⟩ = some (.int .u8 (x : Int)) := by
  obtain ⟨cur, hg, hc⟩ := h
  obtain ⟨x, hx, he⟩ := hc i hi
  exact ⟨x, hx, by simp [World.cell?, hg, he]⟩
theorem RowB.frozen {w : World} {g N : Nat} (h : RowB w g N) (i : Nat) : w.frozen? ⟨g, i, none⟩ = false := by
  obtain ⟨cur, hg, hc⟩ := h
  simp [World.frozen?, hg]
theorem RowB.set {w : World} {g N : Nat} (h : RowB w g N) (i x : Nat) (hx : x < 256) : RowB (w.setCell ⟨g, i, none⟩ (.int .u8 (x : Nat))) g N := by
  obtain ⟨cur, hg, hc⟩ := h
  refine ⟨cur.setIfInBounds i (.int .u8 (x : Nat)), ?_, fun j hj => ?_⟩
  · rw [setCell_eq_setRow w g i _ 5 (0, 0) _ hg]
    exact setRow_heap w g _ _ 5 (0, 0) hg
  · obtain ⟨y, hy, he⟩ := hc j hj
    by_cases hij : i = j
    · subst hij
      have hs : i < cur.size := (Array.getElem?_eq_some_iff.1 he).1
      exact ⟨x, hx, by simp [hs]⟩
    · exact ⟨y, hy, by rw [Array.getElem?_setIfInBounds_ne hij]; exact he⟩
theorem Sln.oth {k : Nat} {w w' : World} {g n : Nat} {l : List Nat} (h : Sln w (some ⟨g, 0, none⟩) n l) (hb : Oth k w w') (hg : l ≠ [] → g ≠ k) : Sln w' (some ⟨g, 0, none⟩) n l := by
  refine ⟨h.len, h.sli.1, h.sli.2.1, ?_⟩
  by_cases h0 : l = []
  · exact .inl h0
  · obtain ⟨b, off, h1, h2, h3⟩ := h.sli.2.2.resolve_left h0
    simp only [Option.some.injEq, Addr.mk.injEq, and_true] at h1
    obtain ⟨rfl, rfl⟩ := h1
    exact .inr ⟨g, 0, rfl, by rw [hb.size]; exact h2, fun i hi => (hb.cell (p := ⟨g, 0 + i, none⟩) (hg h0)).trans (h3 i hi)⟩
def sevens : Obj := .cells #[.int .u8 7, .int .u8 7, .int .u8 7, .int .u8 7, .int .u8 7, .int .u8 7, .int .u8 7, .int .u8 7] 5
theorem app_grow (w : World) (gb nb : Nat) (L : List Nat) (hB : Blk w gb L) (hL : ∀ x ∈ L, x < 256) (hn : nb + 6 = L.length) (hm : nb ≤ 140737488351232) :
    ∃ g2 cap2 w', (Builtin.append_ #[22, 22] 22 #[.slice (some ⟨gb, 0, none⟩) nb (nb + 6), .slice (some ⟨w.heap.size, 0, none⟩) 8 8]).run Tryz.prog (w.alloc sevens) = .ok (.slice (some ⟨g2, 0, none⟩) (nb + 8) cap2) w' ∧ w.heap.size < g2 ∧ RowB w' g2 (nb + 8) ∧ nb + 8 ≤ cap2 ∧ (w.alloc sevens).grownBy w' none := by
  obtain ⟨i, hi, hz0, hz1, hz2⟩ := info_parts info5
  have b7 : Blk (w.alloc sevens) w.heap.size [7, 7, 7, 7, 7, 7, 7, 7] := by
    show (w.heap.push _)[w.heap.size]? = _
    simp [sevens, bv]
  have hB2 := hB.alloc sevens
  have hT : (L.take nb).length = nb := by rw [List.length_take]; omega
  have hTc : ∀ j u, ((L.take nb).map bv)[j]? = some u → (w.alloc sevens).cell? ((⟨gb, 0, none⟩ : Addr).add j) = some u := fun j u hu => by
    refine map_cells hB2.row j u ?_
    rw [List.map_take] at hu
    rw [List.getElem?_take] at hu
    split at hu
    · exact hu
    · cases hu
  obtain ⟨v', w', hrun, own, gr⟩ := run_append_arg_grows (P := Tryz.prog) (w.alloc sevens) 22 22 5 i (.int .u8 0) 1 1 Tryz.underlying22 hi hz0 hz1 hz2 rfl (by decide) ⟨gb, 0, none⟩ nb (nb + 6) ((L.take nb).map bv) (by simp [hT]; omega) hTc ⟨w.heap.size, 0, none⟩ 8 8 ([7, 7, 7, 7, 7, 7, 7, 7].map bv) rfl (map_cells b7.row) (by omega) (by unfold maxLen; omega) (by omega)
  rcases own.2 with ⟨_, h0⟩ | ⟨g2, cap2, cur, rfl, hb, hg, hnc, _, hs, ht⟩
  · omega
  · refine ⟨g2, cap2, w', hrun, by simp at hb; omega, ⟨cur, hg, fun j hj => ?_⟩, hnc, gr⟩
    have h1 : (cur.toList.take ((nb + 8) * 1))[j]? = cur[j]? := by
      rw [List.getElem?_take_of_lt (by omega)]; simp
    have h2 : (L.take nb ++ [7, 7, 7, 7, 7, 7, 7, 7]).length = nb + 8 := by rw [List.length_append, hT]; rfl
    have h3 : j < (L.take nb ++ [7, 7, 7, 7, 7, 7, 7, 7]).length := by omega
    rw [ht, ← List.map_append] at h1
    refine ⟨(L.take nb ++ [7, 7, 7, 7, 7, 7, 7, 7])[j], ?_, ?_⟩
    · have hmem := List.getElem_mem h3
      rcases List.mem_append.1 hmem with h | h
      · exact hL _ (List.mem_of_mem_take h)
      · have : ∀ x ∈ [7, 7, 7, 7, 7, 7, 7, 7], x < 256 := by decide
        exact this _ h
    · rw [← h1, List.getElem?_map, List.getElem?_eq_getElem h3]; rfl
/- block g has turned, into bytes, as many as there were; all else that was there is as it was -/
def Turned (w w' : World) (g n : Nat) : Prop := ∃ L, Blk w' g L ∧ L.length = n ∧ (∀ x ∈ L, x < 256) ∧ w.grownBy w' (some g)
theorem xor85 : ∀ x : Nat, x < 256 → bits BinOp.xor IntKind.u8 (x : Int) 85 = ((x ^^^ 85 : Nat) : Int) := fun x hx => u8_xor_nat x 85 hx (by omega)
theorem set_lt {L : List Nat} (h : ∀ x ∈ L, x < 256) (k v : Nat) (hv : v < 256) : ∀ x ∈ L.set k v, x < 256 := by
  intro x hx
  rcases List.mem_or_eq_of_mem_set hx with h1 | h1
  · exact h x h1
  · omega
theorem oth_grown {g : Nat} {w w' : World} (h : Oth g w w') : w.grownBy w' (some g) := ⟨h.os, h.tape, h.output, Nat.le_of_eq h.size.symm, fun k _ hk => h.block k (fun e => hk (by rw [e]))⟩
theorem grownR_trans {w a b : World} {r : Option Nat} (h : w.grownBy a r) (k : a.grownBy b r) : w.grownBy b r :=
  ⟨k.os.trans h.os, k.tape.trans h.tape, k.output.trans h.output, Nat.le_trans h.size k.size, fun i hi hr => (k.block i (Nat.lt_of_lt_of_le hi h.size) hr).trans (h.block i hi hr)⟩
theorem grown_weak {w a : World} {r : Option Nat} (h : w.grownBy a none) : w.grownBy a r := ⟨h.os, h.tape, h.output, h.size, fun i hi _ => h.block i hi (by simp)⟩
theorem grownN_below {w a : World} (h : w.grownBy a none) : Below w.heap.size w a := ⟨h.os, h.tape, h.output, h.size, fun i hi => h.block i hi (by simp)⟩
theorem oth_past {g : Nat} {w a b : World} {r : Option Nat} (h : w.grownBy a r) (k : Oth g a b) (hg : w.heap.size ≤ g) : w.grownBy b r :=
  ⟨k.os.trans h.os, k.tape.trans h.tape, k.output.trans h.output, by rw [k.size]; exact h.size, fun i hi hr => (k.block i (by omega)).trans (h.block i hi hr)⟩
set_option maxRecDepth 20000 in
set_option maxHeartbeats 2000000 in
theorem apart_n {ga na ka gb nb : Nat} {La Lb : List Nat} {w : World} (SA : Hid (Sln w (some ⟨ga, 0, none⟩) na La)) (HB : Hid (Blk w gb Lb)) (hLb : Hid (∀ x ∈ Lb, x < 256)) (hn : Hid (nb + 6 = Lb.length)) (hm : nb ≤ 140737488351232) (hne : Hid (ga ≠ gb)) :
    Calls Tryz.prog 16 #[.slice (some ⟨ga, 0, none⟩) na ka, .slice (some ⟨gb, 0, none⟩) nb (nb + 6)] w fun e w' => e = .returned (.bool true) ∧ Hid (Turned w w' gb (nb + 6)) := by
  have c0 := conv_n (k := ka) SA
  go_enter Tryz.func16, Tryz.ntmps16
  go_wp2
  clear c0
  go_loopw [13] (fun ti wr => ∃ k : Nat, k ≤ nb ∧ ti = .int .i64 k ∧ Hid (∃ L, Blk wr gb L ∧ L.length = nb + 6 ∧ (∀ x ∈ L, x < 256) ∧ Oth gb w wr)) (fun ti _ => nb - (intOf ti).toNat)
  case atStart => exact ⟨0, by omega, rfl, Lb, HB.out, hn.out.symm, hLb.out, Oth.refl _ _⟩
  case round =>
    obtain ⟨k, hk, rfl, HK⟩ := hrel
    obtain ⟨L, hB, hl, hb, ho⟩ := HK.out
    have SW : Hid (Sln wr (some ⟨ga, 0, none⟩) na La) := SA.out.oth ho (fun _ => hne.out)
    by_cases hlt : k < nb
    · obtain ⟨x, Hx⟩ : ∃ x, Hid (L.getD k 0 = x) := ⟨_, rfl⟩
      have hx : x < 256 := by rw [← Hx.out]; exact getD_lt hb k
      have c1 : wr.cell? ⟨gb, k, none⟩ = some (.int .u8 (x : Nat)) := by rw [← Hx.out]; exact hB.cell (by omega)
      have c2 : wr.frozen? ⟨gb, k, none⟩ = false := hB.frozen k
      have N : Hid (∃ L', Blk (wr.setCell ⟨gb, k, none⟩ (.int .u8 ((x ^^^ 85 : Nat) : Int))) gb L' ∧ L'.length = nb + 6 ∧ (∀ x ∈ L', x < 256) ∧ Oth gb w (wr.setCell ⟨gb, k, none⟩ (.int .u8 ((x ^^^ 85 : Nat) : Int)))) := ⟨L.set k (x ^^^ 85), hB.set k _, by simp [hl], set_lt hb k _ (Nat.xor_lt_two_pow (n := 8) hx (by decide)), ho.setCell k _⟩
      have i2 : (k : Int) < (nb : Int) := by omega
      have x85 := xor85 x hx
      clear hB hl hb ho HK
      go_wp2
      go_roundw
      case rel => exact ⟨k + 1, by omega, by go_num, N.out⟩
      case measure => simp [intOf]; omega
    · obtain ⟨g2, cap2, w3, hap, hg2, hR, hcap, hgr⟩ := app_grow wr gb nb L hB hb hl.symm hm
      unfold sevens at hap hgr
      have c3 := conv_n (k := ka) SW
      have AP : Hid ((Builtin.append_ #[22, 22] 22 #[.slice (some ⟨gb, 0, none⟩) nb (nb + 6), .slice (some ⟨wr.heap.size, 0, none⟩) 8 8]).run Tryz.prog (wr.alloc (.cells #[.int .u8 7, .int .u8 7, .int .u8 7, .int .u8 7, .int .u8 7, .int .u8 7, .int .u8 7, .int .u8 7] 5)) = .ok (.slice (some ⟨g2, 0, none⟩) (nb + 8) cap2) w3) := hap
      have gr2 : wr.grownBy w3 none := grownR_trans (World.grownBy_alloc wr _ none) hgr
      have S3 : Hid (Sln w3 (some ⟨ga, 0, none⟩) na La) := SW.out.below (grownN_below gr2)
      have B3 : Hid (Blk w3 gb L) := hB.below (grownN_below gr2) hB.lt
      have GR : Hid (w.grownBy w3 (some gb)) := grownR_trans (oth_grown ho) (grown_weak gr2)
      have RB : Hid (RowB w3 g2 (nb + 8)) := hR
      have HL : Hid (L.length = nb + 6) := hl
      have HLB : Hid (∀ x ∈ L, x < 256) := hb
      have gA : Hid (La ≠ [] → ga ≠ g2) := by
        intro h0
        obtain ⟨b, off, h1, h2, _⟩ := SW.out.sli.2.2.resolve_left h0
        simp only [Option.some.injEq, Addr.mk.injEq, and_true] at h1
        omega
      have gB : Hid (gb ≠ g2) := (by have := hB.lt; omega : gb ≠ g2)
      have gW : Hid (w.heap.size ≤ g2) := (by have := ho.size; omega : w.heap.size ≤ g2)
      clear hap hg2 hR hgr gr2 hB hl hb ho HK
      go_wp2_with (at_builtin; refine wpList_app (by rfl) (.tmp 29) (.tmp 30) (by rfl) (by rfl) (by rfl) (by rfl) AP ?_)
      clear c3
      go_loopw [8] (fun ti wx => ∃ k : Nat, nb ≤ k ∧ k ≤ nb + 8 ∧ ti = .int .i64 k ∧ Hid (RowB wx g2 (nb + 8) ∧ Oth g2 w3 wx)) (fun ti _ => nb + 8 - (intOf ti).toNat)
      case atStart => exact ⟨nb, by omega, by omega, rfl, RB.out, Oth.refl _ _⟩
      case round =>
        obtain ⟨j, hj1, hj2, rfl, HJ⟩ := hrel
        by_cases hlt2 : j < nb + 8
        · obtain ⟨x, hx, c1⟩ := HJ.out.1.cell hlt2
          have c2 : wr.frozen? ⟨g2, j, none⟩ = false := HJ.out.1.frozen j
          have N : Hid (RowB (wr.setCell ⟨g2, j, none⟩ (.int .u8 ((x ^^^ 85 : Nat) : Int))) g2 (nb + 8) ∧ Oth g2 w3 (wr.setCell ⟨g2, j, none⟩ (.int .u8 ((x ^^^ 85 : Nat) : Int)))) := ⟨HJ.out.1.set j _ (Nat.xor_lt_two_pow (n := 8) hx (by decide)), HJ.out.2.setCell j _⟩
          have i2 : (j : Int) < (nb : Int) + 8 := by omega
          have x85 := xor85 x hx
          clear HJ
          go_wp2
          go_roundw
          case rel => exact ⟨j + 1, by omega, by omega, by go_num, N.out⟩
          case measure => simp [intOf]; omega
        · have S4 : Hid (Sln wr (some ⟨ga, 0, none⟩) na La) := S3.out.oth HJ.out.2 gA.out
          have c4 := conv_n (k := ka) S4
          have T : Hid (Turned w wr gb (nb + 6)) := ⟨L, B3.out.oth HJ.out.2 gB.out, HL.out, HLB.out, oth_past GR.out HJ.out.2 gW.out⟩
          clear HJ S4
          go_wp2
          go_ret
          exact ⟨rfl, T.out⟩
set_option maxHeartbeats 2000000 in
theorem sameresp_n {st : Int} {fa fa' ba ba' : Option Addr} {fn fn' fc fc' bn bn' bc bc' : Nat} {fs : List Fl} {body : List Nat} {w : World} (hA : Hid (Rq w fa fn ba bn fs body)) (hB : Hid (Rq w fa' fn' ba' bn' fs body)) :
    Calls Tryz.prog 23 #[.agg #[.int .i64 st, .slice fa fn fc, .slice ba bn bc], .agg #[.int .i64 st, .slice fa' fn' fc', .slice ba' bn' bc']] w fun e w' => e = .returned (.bool true) ∧ Hid (Below w.heap.size w w') := by
  obtain ⟨g1, G1⟩ : ∃ g, Hid (w.heap.size = g) := ⟨_, rfl⟩
  obtain ⟨g2, G2⟩ : ∃ g, Hid (g1 + 1 = g) := ⟨_, rfl⟩
  obtain ⟨wa, HA⟩ : ∃ wa, Hid ((w.alloc (.cells #[.int .i64 st, .slice fa fn fc, .slice ba bn bc] 46)).alloc (.cells #[.int .i64 st, .slice fa' fn' fc', .slice ba' bn' bc'] 46) = wa) := ⟨_, rfl⟩
  have X1 : Hid (Bx w wa g1 46 #[.int .i64 st, .slice fa fn fc, .slice ba bn bc]) := by rw [← HA.out, ← G1.out]; exact (Bx.new w w 46 _ (Below.refl _ _)).below (alloc1 _ _)
  have X2 : Hid (Bx w wa g2 46 #[.int .i64 st, .slice fa' fn' fc', .slice ba' bn' bc']) := by
    have h := Bx.new w (w.alloc (.cells #[.int .i64 st, .slice fa fn fc, .slice ba bn bc] 46)) 46 #[.int .i64 st, .slice fa' fn' fc', .slice ba' bn' bc'] (alloc1 _ _)
    have e : (w.alloc (.cells #[.int .i64 st, .slice fa fn fc, .slice ba bn bc] 46)).heap.size = g2 := by rw [← G2.out, ← G1.out]; simp
    rw [e, HA.out] at h
    exact h
  have SM := same_n (m := ⟨#[]⟩) (t := ⟨#[]⟩) (m' := ⟨#[]⟩) (t' := ⟨#[]⟩) (fc := fc) (fc' := fc') (bc := bc) (bc' := bc') (show Hid _ from hA.out.below X1.out.bel) (show Hid _ from hB.out.below X1.out.bel)
  rw [samR_self] at SM
  have SM2 : Hid (Calls Tryz.prog 13 #[.agg #[.string { data := #[] }, .string { data := #[] }, .slice fa fn fc, .slice ba bn bc], .agg #[.string { data := #[] }, .string { data := #[] }, .slice fa' fn' fc', .slice ba' bn' bc']] wa fun e w' => e = .returned (.bool true) ∧ Hid (Below wa.heap.size wa w')) := SM
  clear SM
  obtain ⟨p0, p1, p2⟩ : wa.cell? ⟨g1, 0, none⟩ = some (.int .i64 st) ∧ wa.cell? ⟨g1, 1, none⟩ = some (.slice fa fn fc) ∧ wa.cell? ⟨g1, 2, none⟩ = some (.slice ba bn bc) := by refine ⟨?_, ?_, ?_⟩ <;> simp [World.cell?, X1.out.row]
  obtain ⟨r0, r1, r2⟩ : wa.cell? ⟨g2, 0, none⟩ = some (.int .i64 st) ∧ wa.cell? ⟨g2, 1, none⟩ = some (.slice fa' fn' fc') ∧ wa.cell? ⟨g2, 2, none⟩ = some (.slice ba' bn' bc') := by refine ⟨?_, ?_, ?_⟩ <;> simp [World.cell?, X2.out.row]
  go_enter Tryz.func23, Tryz.ntmps23
  go_upto_region 1 with (fail)
  rw [HA.out, G1.out, G2.out]
  go_wp2_with (go_at_call 13; refine SM2.out.mono ?_; rintro e w9 ⟨rfl, D9⟩)
  go_ret
  exact ⟨rfl, X1.out.bel.trans (D9.out.mono X1.out.bel.size)⟩
end Go.Proofs.YtemhhlongfabmaaGreatDoor
