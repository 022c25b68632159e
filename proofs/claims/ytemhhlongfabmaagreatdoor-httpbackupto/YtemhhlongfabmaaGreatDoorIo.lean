/- Rows of the call's own that are written over; the laws' own Apart. -/
import Derived.Test.YtemhhlongfabmaaGreatDoorHz
namespace Go.Proofs.YtemhhlongfabmaaGreatDoor
open Go.ChangeShapes Go.WideShapes Go.ChangeAt Go.RowKit
set_option maxRecDepth 20000
set_option linter.unusedVariables false
set_option linter.unusedSimpArgs false
/- where a row that isn't empty lies -/
theorem Own.at {w : World} {B : Nat} {a : Option Addr} {n c : Nat} {L : List Nat} (h : Own w B a n c L) (hn : 0 < n) : ∃ g cur, a = some ⟨g, 0, none⟩ ∧ B ≤ g ∧ w.heap[g]? = some (.cells cur 5 (0, 0)) ∧ cur.toList.take n = L.map bv := by
  rcases h.own.2 with ⟨h1, h0⟩ | ⟨g, cap, cur, h1, h2, h3, h4, h5, h6, h7⟩
  · omega
  · simp only [Value.slice.injEq] at h1
    exact ⟨g, cur, h1.1, h2, h3, by simpa using h7⟩
theorem Own.cell {w : World} {B : Nat} {a : Option Addr} {n c : Nat} {L : List Nat} (h : Own w B a n c L) {i : Nat} (hi : i < n) : ∃ g, a = some ⟨g, 0, none⟩ ∧ B ≤ g ∧ w.cell? ⟨g, i, none⟩ = some (.int .u8 (L.getD i 0 : Nat)) ∧ w.frozen? ⟨g, i, none⟩ = false := by
  obtain ⟨g, cur, ha, hB, hg, ht⟩ := h.at (by omega)
  refine ⟨g, ha, hB, ?_, by simp [World.frozen?, hg]⟩
  have hl := h.len
  have h1 : (cur.toList.take n)[i]? = some (bv (L.getD i 0)) := by rw [ht]; simp [List.getD, show i < L.length by omega]
  rw [List.getElem?_take_of_lt hi] at h1
  unfold World.cell?
  simp only [hg]
  have h2 : cur[i]? = some (bv (L.getD i 0)) := by simpa using h1
  simpa [bv] using h2
theorem Own.set {w : World} {B : Nat} {a : Option Addr} {n c : Nat} {L : List Nat} (h : Own w B a n c L) {g i x : Nat} (hg : a = some ⟨g, 0, none⟩) (hi : i < n) (hx : x < 256) : Own (w.setCell ⟨g, i, none⟩ (.int .u8 (x : Int))) B a n c (L.set i x) := by
  refine ⟨by rw [List.length_set]; exact h.len, ⟨by have := h.own.1; simpa using this, ?_⟩, set_lt h.lt i x hx⟩
  rcases h.own.2 with ⟨h1, h0⟩ | ⟨g', cap, cur, h1, h2, h3, h4, h5, h6, h7⟩
  · omega
  · simp only [Value.slice.injEq] at h1
    obtain ⟨e1, _, e3⟩ := h1
    rw [hg] at e1
    simp only [Option.some.injEq, Addr.mk.injEq, and_true] at e1
    subst e1
    refine .inr ⟨g, cap, cur.setIfInBounds i (bv x), by rw [hg, e3], h2, by rw [set_blk h3]; rfl, h4, h5, by simpa using h6, ?_⟩
    simp only [Nat.mul_one] at h7 ⊢
    rw [Array.toList_setIfInBounds, List.take_set, h7, List.map_set]
theorem xor_lt8 {a b : Nat} (ha : a < 256) (hb : b < 256) : a ^^^ b < 256 := Nat.xor_lt_two_pow (n := 8) ha hb
theorem xor_u8 (x k : Nat) (hx : x < 256) (hk : k < 256) : bits BinOp.xor IntKind.u8 (x : Int) (k : Int) = ((x ^^^ k : Nat) : Int) := u8_xor_nat x k hx hk
theorem grown_set {w w' : World} {r : Option Nat} (h : w.grownBy w' r) (g i : Nat) (v : Value) (hg : some g = r ∨ w.heap.size ≤ g) : w.grownBy (w'.setCell ⟨g, i, none⟩ v) r :=
  ⟨h.os, h.tape, h.output, by simp [World.setCell]; exact h.size, fun k hk hr => (Below.heap_setCell _ _ _ _ (fun e => by subst e; rcases hg with h1 | h1; exact hr h1; omega)).trans (h.block k hk hr)⟩
theorem Sln.grown {w w' : World} {a : Option Addr} {n : Nat} {l : List Nat} {r : Option Nat} (h : Sln w a n l) (hg : w.grownBy w' r) (hne : ∀ q off, l ≠ [] → a = some ⟨q, off, none⟩ → r ≠ some q) : Sln w' a n l := by
  refine ⟨h.len, h.lt, h.sli.2.1, ?_⟩
  rcases h.sli.2.2 with h0 | ⟨b, off, ha, hb, hr⟩
  · exact .inl h0
  · by_cases h0 : l = []
    · exact .inl h0
    · refine .inr ⟨b, off, ha, Nat.lt_of_lt_of_le hb hg.size, fun i hi => ?_⟩
      rw [World.cell?_of_block (w := w) (hg.block b hb (fun e => hne b off h0 ha e.symm))]
      exact hr i hi
abbrev sevO : Obj := .cells #[.int .u8 7, .int .u8 7, .int .u8 7, .int .u8 7, .int .u8 7, .int .u8 7, .int .u8 7, .int .u8 7] 5
def sev : List Nat := [7, 7, 7, 7, 7, 7, 7, 7]
theorem grown_refl (w : World) (r : Option Nat) : w.grownBy w r := ⟨rfl, rfl, rfl, Nat.le_refl _, fun _ _ _ => rfl⟩
theorem grown_then {w a b : World} {r r1 : Option Nat} (h : w.grownBy a r) (k : a.grownBy b r1) (hr : ∀ q, r1 = some q → r = some q ∨ w.heap.size ≤ q) : w.grownBy b r :=
  ⟨k.os.trans h.os, k.tape.trans h.tape, k.output.trans h.output, Nat.le_trans h.size k.size, fun i hi hne => (k.block i (Nat.lt_of_lt_of_le hi h.size) (fun e => by rcases hr i e.symm with h1 | h1; exact hne h1.symm; omega)).trans (h.block i hi hne)⟩
set_option maxRecDepth 20000 in
set_option maxHeartbeats 2000000 in
theorem apart_own {w : World} {a b : Option Addr} {na ka nb cb B : Nat} {La Lb : List Nat} (SA : Hid (Sln w a na La)) (OB : Hid (Own w B b nb cb Lb)) (hB : Hid (B ≤ w.heap.size)) (hm : nb + 8 ≤ 140737488352256) (hne : Hid (∀ q off, La ≠ [] → a = some ⟨q, off, none⟩ → blkOf b ≠ some q)) :
    Calls Tryz.prog 16 #[.slice a na ka, .slice b nb cb] w fun e w' => e = .returned (.bool true) ∧ Hid (w.grownBy w' (blkOf b)) := by
  have c0 := conv_n (k := ka) SA
  go_enter Tryz.func16, Tryz.ntmps16
  go_wp2
  clear c0
  go_loopw [13] (fun ti wr => ∃ k : Nat, k ≤ nb ∧ ti = .int .i64 k ∧ Hid (∃ L, Own wr B b nb cb L ∧ w.grownBy wr (blkOf b))) (fun ti _ => nb - (intOf ti).toNat)
  case atStart => exact ⟨0, by omega, rfl, Lb, OB.out, grown_refl _ _⟩
  case round =>
    obtain ⟨k, hk, rfl, HK⟩ := hrel
    obtain ⟨L, hO, hgr⟩ := HK.out
    have SW : Hid (Sln wr a na La) := SA.out.grown hgr hne.out
    by_cases hlt : k < nb
    · obtain ⟨g, rfl, hBg, c1, c2⟩ := hO.cell hlt
      obtain ⟨x, Hx⟩ : ∃ x, Hid (L.getD k 0 = x) := ⟨_, rfl⟩
      have hx : x < 256 := by rw [← Hx.out]; exact getD_lt hO.lt k
      rw [Hx.out] at c1
      have N : Hid (∃ L', Own (wr.setCell ⟨g, k, none⟩ (.int .u8 ((x ^^^ 85 : Nat) : Int))) B (some ⟨g, 0, none⟩) nb cb L' ∧ w.grownBy (wr.setCell ⟨g, k, none⟩ (.int .u8 ((x ^^^ 85 : Nat) : Int))) (blkOf (some ⟨g, 0, none⟩))) := ⟨L.set k (x ^^^ 85), hO.set rfl hlt (xor_lt8 hx (by omega)), grown_set hgr g k _ (.inl rfl)⟩
      have i2 : (k : Int) < (nb : Int) := by omega
      have x85 : bits BinOp.xor IntKind.u8 (x : Int) 85 = ((x ^^^ 85 : Nat) : Int) := xor_u8 x 85 hx (by omega)
      clear hO hgr HK
      go_wp2
      go_roundw
      case rel => exact ⟨k + 1, by omega, by go_num, N.out⟩
      case measure => simp [intOf]; omega
    · have bm : Blk (wr.alloc sevO) wr.heap.size sev := by
        show (wr.heap.push _)[wr.heap.size]? = _
        simp [bv, sev]
      have sm := bm.sln (by decide) (by decide)
      have own3 : Own (wr.alloc sevO) B b nb cb L := ⟨hO.len, hO.own.alloc _, hO.lt⟩
      obtain ⟨a4, c4, w4, hrun4, own4, gr4, new4⟩ := app_any (c2 := 8) own3 sm (by simp) (by simp [sev]; omega) (by have := hB.out; have := hgr.size; simp; omega)
      have e8 : sev.length = 8 := rfl
      rw [e8] at hrun4 own4
      have AP : Hid ((Builtin.append_ #[22, 22] 22 #[.slice b nb cb, .slice (some ⟨wr.heap.size, 0, none⟩) 8 8]).run Tryz.prog (wr.alloc sevO) = .ok (.slice a4 (nb + 8) c4) w4) := hrun4
      have gr5 : w.grownBy (wr.alloc sevO) (blkOf b) := grown_then hgr (World.grownBy_alloc wr _ none) (fun q e => by cases e)
      have gr6 : w.grownBy w4 (blkOf b) := grown_then gr5 gr4 (fun q e => .inl e)
      have c3 := conv_n (k := ka) SW
      have AT : Hid (∀ q, blkOf a4 = some q → some q = blkOf b ∨ w.heap.size ≤ q) := by
        intro q hq
        rcases new4 q hq with h1 | h1
        · exact .inl h1.symm
        · have := gr5.size; exact .inr (by omega)
      have OW : Hid (Own w4 B a4 (nb + 8) c4 (L ++ sev) ∧ w.grownBy w4 (blkOf b)) := ⟨own4, gr6⟩
      clear hrun4 own4 gr4 new4 gr5 gr6 bm sm own3 hO hgr HK e8
      go_wp2_with (at_builtin; refine wpList_app (by rfl) (.tmp 29) (.tmp 30) (by rfl) (by rfl) (by rfl) (by rfl) AP ?_)
      clear c3
      go_loopw [8] (fun ti wx => ∃ k : Nat, nb ≤ k ∧ k ≤ nb + 8 ∧ ti = .int .i64 k ∧ Hid (∃ L, Own wx B a4 (nb + 8) c4 L ∧ w.grownBy wx (blkOf b))) (fun ti _ => nb + 8 - (intOf ti).toNat)
      case atStart => exact ⟨nb, by omega, by omega, rfl, _, OW.out.1, OW.out.2⟩
      case round =>
        obtain ⟨j, hj1, hj2, rfl, HJ⟩ := hrel
        obtain ⟨L2, hO2, hg2⟩ := HJ.out
        by_cases hlt2 : j < nb + 8
        · obtain ⟨g, rfl, hBg, c1, c2⟩ := hO2.cell hlt2
          obtain ⟨x, Hx⟩ : ∃ x, Hid (L2.getD j 0 = x) := ⟨_, rfl⟩
          have hx : x < 256 := by rw [← Hx.out]; exact getD_lt hO2.lt j
          rw [Hx.out] at c1
          have N : Hid (∃ L', Own (wr.setCell ⟨g, j, none⟩ (.int .u8 ((x ^^^ 85 : Nat) : Int))) B (some ⟨g, 0, none⟩) (nb + 8) c4 L' ∧ w.grownBy (wr.setCell ⟨g, j, none⟩ (.int .u8 ((x ^^^ 85 : Nat) : Int))) (blkOf b)) := ⟨L2.set j (x ^^^ 85), hO2.set rfl hlt2 (xor_lt8 hx (by omega)), grown_set hg2 g j _ (AT.out g rfl)⟩
          have i2 : (j : Int) < (nb : Int) + 8 := by omega
          have x85 : bits BinOp.xor IntKind.u8 (x : Int) 85 = ((x ^^^ 85 : Nat) : Int) := xor_u8 x 85 hx (by omega)
          clear HJ hO2 hg2
          go_wp2
          go_roundw
          case rel => exact ⟨j + 1, by omega, by omega, by go_num, N.out⟩
          case measure => simp [intOf]; omega
        · have S4 : Hid (Sln wr a na La) := SA.out.grown hg2 hne.out
          have c4 := conv_n (k := ka) S4
          have T : Hid (w.grownBy wr (blkOf b)) := hg2
          clear HJ S4 hO2 hg2
          go_wp2
          go_ret
          exact ⟨rfl, T.out⟩
end Go.Proofs.YtemhhlongfabmaaGreatDoor
