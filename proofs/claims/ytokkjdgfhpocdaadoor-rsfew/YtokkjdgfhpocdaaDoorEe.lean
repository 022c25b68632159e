/- Rows of equations in memory; what dataRows of package rs does. -/
import Derived.Test.YtokkjdgfhpocdaaDoorEd
import Derived.Deep.RegionWith
namespace Go.Proofs.YtokkjdgfhpocdaaDoor
open Go.ChangeShapes Go.WideShapes Go.ChangeAt Go.RowKit
set_option linter.unusedVariables false
set_option linter.unusedSimpArgs false
set_option linter.unnecessarySimpa false
/- block g holds slices that read as the rows R; an empty row is nil -/
structure Grd (w : World) (g : Nat) (R : List (List Nat)) : Prop where
  vs : ∃ vs, VBlk w g vs ∧ vs.length = R.length ∧ ∀ i, i < R.length → ∃ a n, vs[i]? = some (.slice a n n) ∧ Sln w a n (R.getD i []) ∧ (R.getD i [] = [] → a = none)
theorem Grd.lt {w : World} {g : Nat} {R : List (List Nat)} (h : Grd w g R) : g < w.heap.size := by
  obtain ⟨vs, h1, _⟩ := h.vs
  exact h1.lt
theorem Grd.below {w w' : World} {g : Nat} {R : List (List Nat)} (h : Grd w g R) (hb : Below w.heap.size w w') : Grd w' g R := by
  obtain ⟨vs, h1, h2, h3⟩ := h.vs
  refine ⟨vs, h1.below hb h1.lt, h2, fun i hi => ?_⟩
  obtain ⟨a, n, e, s, z⟩ := h3 i hi
  exact ⟨a, n, e, s.below hb, z⟩
theorem Grd.drew {w : World} {g : Nat} {R : List (List Nat)} (h : Grd w g R) : Grd w.drew g R := h.below (Below.refl _ _).drew
theorem Grd.cell {w : World} {g : Nat} {R : List (List Nat)} (h : Grd w g R) {i : Nat} (hi : i < R.length) : ∃ a n, w.cell? ⟨g, i, none⟩ = some (.slice a n n) ∧ Sln w a n (R.getD i []) ∧ (R.getD i [] = [] → a = none) := by
  obtain ⟨vs, h1, h2, h3⟩ := h.vs
  obtain ⟨a, n, e, s, z⟩ := h3 i hi
  exact ⟨a, n, by rw [h1.cell, e], s, z⟩
theorem Grd.frozen {w : World} {g : Nat} {R : List (List Nat)} (h : Grd w g R) (i : Nat) : w.frozen? ⟨g, i, none⟩ = false := by
  obtain ⟨vs, h1, _⟩ := h.vs
  exact h1.frozen i
/- a row of bytes lies in no block of slices -/
theorem Grd.sln {w : World} {g : Nat} {R : List (List Nat)} (h : Grd w g R) {a : Option Addr} {n : Nat} {l : List Nat} (s : Sln w a n l) (i : Nat) (v : Value) : Sln (w.setCell ⟨g, i, none⟩ v) a n l := by
  refine ⟨s.len, s.sli.1, s.sli.2.1, ?_⟩
  rcases s.sli.2.2 with h0 | ⟨b, off, rfl, hl, hr⟩
  · exact .inl h0
  · by_cases hl0 : l = []
    · exact .inl hl0
    have hbg : b ≠ g := by
      rintro rfl
      obtain ⟨vs, h1, h2, h3⟩ := h.vs
      have hc := hr 0 (by cases l with | nil => exact absurd rfl hl0 | cons x y => simp)
      rw [Nat.add_zero, h1.cell] at hc
      have ho : off < R.length := by rw [← h2]; exact (List.getElem?_eq_some_iff.1 hc).1
      obtain ⟨a, n, e, _⟩ := h3 off ho
      rw [hc] at e
      simp at e
    have ho : Oth g w (w.setCell ⟨g, i, none⟩ v) := (Oth.refl g w).setCell i v
    exact .inr ⟨b, off, rfl, by rw [ho.size]; exact hl, fun j hj => (ho.cell (p := ⟨b, off + j, none⟩) hbg).trans (hr j hj)⟩
theorem Grd.set {w : World} {g : Nat} {R : List (List Nat)} (h : Grd w g R) {a : Option Addr} {n : Nat} {l : List Nat} (s : Sln w a n l) (hz : l = [] → a = none) (i : Nat) : Grd (w.setCell ⟨g, i, none⟩ (.slice a n n)) g (R.set i l) := by
  obtain ⟨vs, h1, h2, h3⟩ := h.vs
  refine ⟨vs.set i (.slice a n n), h1.set i _, by simp [h2], fun j hj => ?_⟩
  have hj2 : j < R.length := by simpa using hj
  by_cases hij : i = j
  · subst hij
    have e : (R.set i l).getD i [] = l := by simp [List.getD, hj2]
    rw [e]
    exact ⟨a, n, by rw [List.getElem?_set_self (by rw [h2]; exact hj2)], h.sln s _ _, hz⟩
  · obtain ⟨a', n', e, s', z'⟩ := h3 j hj2
    have e2 : (R.set i l).getD j [] = R.getD j [] := by simp only [List.getD]; rw [List.getElem?_set_ne hij]
    rw [e2]
    exact ⟨a', n', by rw [List.getElem?_set_ne hij]; exact e, h.sln s' _ _, z'⟩
theorem Grd.made (w : World) (n : Nat) : Grd (w.alloc (.cells (madeCells #[.slice none 0 0] n) 33)) w.heap.size (List.replicate n []) := by
  refine ⟨_, VBlk.made w n, by simp, fun i hi => ⟨none, 0, ?_, ?_, fun _ => rfl⟩⟩
  · rw [List.getElem?_replicate, if_pos (by simpa using hi)]
  · have e : (List.replicate n ([] : List Nat)).getD i [] = [] := by simp only [List.getD]; rw [List.getElem?_replicate]; split <;> rfl
    rw [e]
    exact ⟨rfl, by simp, by simp, .inl rfl⟩
/- the rows of the data shards among the first i, and how many there aren't -/
def dR (k : Nat) (L : List (Int × List Nat)) : Nat → List (List Nat)
  | 0 => List.replicate k []
  | i + 1 => if nu L i < k then (dR k L i).set (nu L i).toNat (rowL k (nu L i).toNat (by_ L i)) else dR k L i
def dM (k : Nat) (L : List (Int × List Nat)) : Nat → Int
  | 0 => k
  | i + 1 => if nu L i < k then dM k L i - 1 else dM k L i
theorem dR_length (k : Nat) (L : List (Int × List Nat)) (i : Nat) : (dR k L i).length = k := by
  induction i with
  | zero => simp [dR]
  | succ i ih => simp only [dR]; split <;> simp [ih]
theorem dM_bounds (k : Nat) (L : List (Int × List Nat)) (i : Nat) : (k : Int) - i ≤ dM k L i ∧ dM k L i ≤ k := by
  induction i with
  | zero => simp [dM]
  | succ i ih => simp only [dM]; split <;> omega
theorem rowL_ne {k number : Nat} {bytes : List Nat} (hk : 1 ≤ k) : rowL k number bytes ≠ [] := by
  intro h
  have := rowL_length k number bytes
  rw [h] at this
  simp at this
  omega
set_option maxRecDepth 20000 in
set_option maxHeartbeats 1000000 in
theorem dataRows_any (k size n c : Nat) (a : Option Addr) (L : List (Int × List Nat)) (w : World) (h2 : 1 ≤ k) (h3 : k ≤ 16) (hn : n ≤ 16) (hsz : size ≤ 1100) (S : Hid (Shd w a n L)) (G : Hid (GoodL 16 size L)) :
    Calls Tryd.prog 44 #[.int .i64 (k : Int), .slice a n c] w fun e w' => ∃ g, ∃ d : Int, e = .returned (.tuple #[.slice (some ⟨g, 0, none⟩) k k, .int .i64 d]) ∧ Hid (d = dM k L n ∧ w.heap.size ≤ g ∧ Grd w' g (dR k L n) ∧ Below w.heap.size w w') := by
  have mk := make_rows k (by omega)
  obtain ⟨g, Hg⟩ : ∃ g, Hid (w.heap.size = g) := ⟨_, rfl⟩
  go_enter Tryd.func44, Tryd.ntmps44
  go_wp2
  rw [Hg.out]
  go_loopw [15, 7] (fun ti td wr => ∃ i : Nat, ∃ d : Int, i ≤ n ∧ ti = .int .i64 i ∧ td = .int .i64 d ∧ Hid (d = dM k L i ∧ Grd wr g (dR k L i) ∧ Below g w wr)) (fun ti _ _ => n - (intOf ti).toNat)
  case atStart => exact ⟨0, _, by omega, rfl, rfl, rfl, by rw [← Hg.out]; exact Grd.made w k, by rw [← Hg.out]; exact (Below.refl _ _).alloc (Nat.le_refl _) _⟩
  case round =>
    obtain ⟨i, d, hi, rfl, rfl, HI⟩ := hrel
    by_cases hlt : i < n
    · have SW : Shd wr a n L := S.out.below (by rw [Hg.out]; exact HI.out.2.2)
      obtain ⟨b, off, rfl, hc⟩ := SW.at_.resolve_left (by omega)
      obtain ⟨c0, a1, m1, cc, c1, s1, hmc, hcc, hnc⟩ := hc i hlt
      have ok := G.out i (by rw [← SW.len]; exact hlt)
      obtain ⟨x, hx⟩ : ∃ x : Nat, nu L i = (x : Int) := ⟨(nu L i).toNat, by have := ok.1.1; omega⟩
      have hx16 : x < 16 := by have := ok.1.2; omega
      rw [hx] at c0
      have hm1 : m1 = size := by rw [s1.len]; exact ok.2.1
      subst hm1
      have db := dM_bounds k L i
      have hd := HI.out.1
      have d1 : -16 ≤ d := by omega
      have d2 : d ≤ 16 := by omega
      have i1 : (i : Int) < (n : Int) := by omega
      obtain ⟨w1, hw1⟩ : ∃ w1, w1 = wr.alloc (.cells #[.int .i64 (x : Int), .slice a1 m1 cc] 54) := ⟨_, rfl⟩
      have e0 : w1.cell? ⟨wr.heap.size, 0, none⟩ = some (.int .i64 (x : Int)) := by rw [hw1]; simp
      have e1 : w1.cell? ⟨wr.heap.size, 1, none⟩ = some (.slice a1 m1 cc) := by rw [hw1]; simp
      have bw : Below wr.heap.size wr w1 := by rw [hw1]; exact (Below.refl _ _).alloc (Nat.le_refl _) _
      have G1 : Hid (Grd w1 g (dR k L i)) := HI.out.2.1.below bw
      have S1 : Hid (Sln w1 a1 m1 (by_ L i)) := s1.below bw
      have L1 : Hid (Below g w w1) := by rw [hw1]; exact HI.out.2.2.alloc (by have := HI.out.2.1.lt; omega) _
      have NC : Hid (a1 = none → cc = 0) := hnc
      have qw : Hid (wr.heap.size < w1.heap.size) := by rw [hw1]; show _ < _; simp
      have HD : Hid (d = dM k L i ∧ nu L i = (x : Int)) := ⟨hd, hx⟩
      clear hc SW s1 bw db hd hx ok HI hnc
      go_upto_region 6 with (fail)
      rw [← hw1]
      obtain ⟨q, hq⟩ : ∃ q, q = wr.heap.size := ⟨_, rfl⟩
      rw [← hq] at e0 e1 qw ⊢
      clear hw1 hq c0 c1 mk
      by_cases hxk : x < k
      · have i2 : (x : Int) < (k : Int) := by omega
        go_wp2
        go_region_with (go_at_call 45; refine (rowOf_any k x m1 cc a1 (by_ L i) _ h2 h3 hx16 S1.out.drew (by omega) NC).mono ?_; rintro e w2 ⟨g2, n2, rfl, H2⟩; have G2 : Hid (Grd w2 g (dR k L i)) := G1.out.drew.below H2.out.2.2.2; obtain ⟨ax, nx, cx, zx⟩ := G2.out.cell (i := x) (by rw [dR_length]; exact hxk); clear zx; have fx := G2.out.frozen x; have e0' : w2.cell? ⟨q, 0, none⟩ = some (.int .i64 (x : Int)) := (H2.out.2.2.2.cell (p := ⟨q, 0, none⟩) qw.out).trans e0; have e1' : w2.cell? ⟨q, 1, none⟩ = some (.slice a1 m1 cc) := (H2.out.2.2.2.cell (p := ⟨q, 1, none⟩) qw.out).trans e1)
        all_goals
          have FIN : Hid (d - 1 = dM k L (i + 1) ∧ Grd (w2.setCell ⟨g, x, none⟩ (.slice (some ⟨g2, 0, none⟩) n2 n2)) g (dR k L (i + 1)) ∧ Below g w (w2.setCell ⟨g, x, none⟩ (.slice (some ⟨g2, 0, none⟩) n2 n2))) := by
            have hd := HD.out
            have h2' := H2.out
            have hlt2 : (dM k L i) = d := hd.1.symm
            have sl : Sln w2 (some ⟨g2, 0, none⟩) n2 (rowL k x (by_ L i)) := by
              have hll := rowL_length k x (by_ L i)
              have hml := S1.out.len
              exact ⟨by rw [hll, ← hml]; exact h2'.1, h2'.2.2.1.sli (rowL_lt h3 hx16 S1.out.lt) (by omega)⟩
            refine ⟨?_, ?_, ?_⟩
            · simp only [dM]; rw [hd.2, if_pos i2, hlt2]
            · have e9 : dR k L (i + 1) = (dR k L i).set x (rowL k x (by_ L i)) := by
                simp only [dR]; rw [hd.2, if_pos i2]; simp
              rw [e9]
              exact G2.out.set sl (fun h => absurd h (rowL_ne h2)) x
            · exact ((Oth.refl g w2).setCell x _).below (L1.out.drew.trans (h2'.2.2.2.mono (by have h8 := L1.out.drew.size; rw [Hg.out] at h8; exact h8))) (Nat.le_refl _)
          clear cx fx e0' e1' H2 G2
          go_wp2
          go_roundw
          case rel => exact ⟨i + 1, d - 1, by omega, by go_num, by go_num, FIN.out⟩
          case measure => simp [intOf]; omega
      · have i2 : (k : Int) ≤ (x : Int) := by omega
        have FIN : Hid (d = dM k L (i + 1) ∧ Grd w1 g (dR k L (i + 1)) ∧ Below g w w1) := by
          have hd := HD.out
          refine ⟨?_, ?_, L1.out⟩
          · simp only [dM]; rw [hd.2, if_neg (by omega)]; exact hd.1
          · simp only [dR]; rw [hd.2, if_neg (by omega)]; exact G1.out
        go_wp2
        go_roundw
        case rel => exact ⟨i + 1, d, by omega, by go_num, rfl, FIN.out⟩
        case measure => simp [intOf]; omega
    · have e : i = n := by omega
      subst e
      have FIN : Hid (d = dM k L i ∧ w.heap.size ≤ g ∧ Grd wr g (dR k L i) ∧ Below w.heap.size w wr) := ⟨HI.out.1, by rw [Hg.out]; exact Nat.le_refl _, HI.out.2.1, by rw [Hg.out]; exact HI.out.2.2⟩
      clear HI
      go_wp2
      go_ret2
      exact ⟨g, d, rfl, FIN.out⟩
end Go.Proofs.YtokkjdgfhpocdaaDoor
