/- What eliminate of package rs does: it follows the model of the elimination, row by row. -/
import Derived.Test.YtokkjdgfhpocdaaDoorEe
import Derived.Deep.LoopGhost
import Derived.WalkMore
import Derived.StillTailTactics
namespace Go.Proofs.YtokkjdgfhpocdaaDoor
open Go.ChangeShapes Go.WideShapes Go.ChangeAt Go.RowKit
set_option linter.unusedVariables false
set_option linter.unusedSimpArgs false
set_option linter.unnecessarySimpa false
/- the row behind what stands at its place -/
def red (R : List (List Nat)) (row : List Nat) (p : Nat) : List Nat := if R.getD p [] = [] then row else addSc row (row.getD p 0) (R.getD p [])
/- where a row belongs, and what it is there; none where all its factors turn out 0 -/
def ins (R : List (List Nat)) : Nat → Nat → List Nat → Option (Nat × List Nat)
  | 0, _, _ => none
  | f + 1, p, row => if (red R row p).getD p 0 = 0 then ins R f (p + 1) (red R row p) else some (p, scaled (Gm.inv ((red R row p).getD p 0)) (red R row p))
def elimGo (k : Nat) (L : List (Int × List Nat)) : Nat → Nat → List (List Nat) → Int → List (List Nat)
  | 0, _, R, _ => R
  | f + 1, i, R, d => if nu L i < k then elimGo k L f (i + 1) R d else
      match ins R k 0 (rowL k (nu L i).toNat (by_ L i)) with
      | none => elimGo k L f (i + 1) R d
      | some (p, r) => if d - 1 = 0 then R.set p r else elimGo k L f (i + 1) (R.set p r) (d - 1)
def elim (k : Nat) (L : List (Int × List Nat)) : List (List Nat) := elimGo k L L.length 0 (dR k L L.length) (dM k L L.length)
/- each row is missing or has K bytes -/
def Rect (K k : Nat) (R : List (List Nat)) : Prop := R.length = k ∧ ∀ i, i < k → R.getD i [] = [] ∨ (R.getD i []).length = K
theorem Rect.set {K k : Nat} {R : List (List Nat)} (h : Rect K k R) (p : Nat) {r : List Nat} (hr : r.length = K) : Rect K k (R.set p r) := by
  refine ⟨by simp [h.1], fun i hi => ?_⟩
  by_cases hip : p = i
  · subst hip
    right
    simp [List.getD, h.1, hi, hr]
  · have e2 : (R.set p r).getD i [] = R.getD i [] := by simp only [List.getD]; rw [List.getElem?_set_ne hip]
    rw [e2]; exact h.2 i hi
theorem rect_dR (k size : Nat) (L : List (Int × List Nat)) (i : Nat) (hi : i ≤ L.length) (h : GoodL 16 size L) : Rect (k + size) k (dR k L i) := by
  induction i with
  | zero => exact ⟨by simp [dR], fun i hi => .inl (by simp [dR, List.getD, hi])⟩
  | succ i ih =>
    simp only [dR]
    split
    · exact (ih (by omega)).set _ (by rw [rowL_length, (h i (by omega)).2.1])
    · exact ih (by omega)
theorem red_length {K k p : Nat} {R : List (List Nat)} {row : List Nat} (h : Rect K k R) (hp : p < k) (hr : row.length = K) : (red R row p).length = K := by
  unfold red
  split
  · exact hr
  · rename_i h0
    rw [addSc_length, hr, (h.2 p hp).resolve_left h0, Nat.max_self]
set_option maxRecDepth 40000 in
set_option maxHeartbeats 4000000 in
theorem eliminate_any (k size n c : Nat) (a : Option Addr) (L : List (Int × List Nat)) (w : World) (h2 : 1 ≤ k) (h3 : k ≤ 16) (hn : n ≤ 16) (hsz : size ≤ 1100) (S : Hid (Shd w a n L)) (G : Hid (GoodL 16 size L)) :
    Calls Tryd.prog 40 #[.int .i64 (k : Int), .slice a n c] w fun e w' => ∃ g, e = .returned (.slice (some ⟨g, 0, none⟩) k k) ∧ Hid (w.heap.size ≤ g ∧ Grd w' g (elim k L) ∧ Rect (k + size) k (elim k L) ∧ Below w.heap.size w w') := by
  obtain ⟨F, HF⟩ : ∃ F, Hid (elim k L = F) := ⟨_, rfl⟩
  obtain ⟨K, HK⟩ : ∃ K, Hid (k + size = K) := ⟨_, rfl⟩
  have hK1 : k ≤ K := by rw [← HK.out]; omega
  have hK2 : K ≤ 1116 := by rw [← HK.out]; omega
  rw [HF.out, HK.out]
  have HE : Hid (elimGo k L n 0 (dR k L n) (dM k L n) = F) := by
    have h := HF.out
    unfold elim at h
    rw [← S.out.len] at h
    exact h
  have DB : Hid ((k : Int) - n ≤ dM k L n ∧ dM k L n ≤ k) := dM_bounds k L n
  have RD : Hid (Rect K k (dR k L n)) := by rw [← HK.out]; exact rect_dR k size L n (by rw [S.out.len]; exact Nat.le_refl _) G.out
  go_enter Tryd.func40, Tryd.ntmps40
  go_wp2
  go_step3
  go_wp2_with (go_at_call 44; refine (dataRows_any k size n c a L _ h2 h3 hn hsz S G).mono ?_; rintro e w0 ⟨g, d0, rfl, H0⟩)
  go_step3
  go_wp2
  go_loopg [21, 6] n (fun gk ti td wr => ∃ i : Nat, ∃ d : Int, i ≤ n ∧ -40 ≤ d ∧ d ≤ 16 ∧ gk = n - i ∧ ti = .int .i64 i ∧ td = .int .i64 d ∧ Hid (-16 - (i : Int) ≤ d ∧ ∃ R, elimGo k L (n - i) i R d = F ∧ Grd wr g R ∧ Rect K k R ∧ Below w.heap.size w wr))
  case atStart =>
    have hb := DB.out
    have hd := H0.out.1
    exact ⟨0, d0, by omega, by omega, by omega, by omega, rfl, rfl, by simp; omega, _, by rw [hd]; exact HE.out, H0.out.2.2.1, RD.out, H0.out.2.2.2⟩
  case round =>
    obtain ⟨i, d, hi, dlo, dhi, hgk, rfl, rfl, HI⟩ := hrel
    by_cases hlt : i < n
    · obtain ⟨hd2, R, hE, hG, hR, hB⟩ := HI.out
      have SW : Shd wr a n L := S.out.below hB
      obtain ⟨b, off, rfl, hc⟩ := SW.at_.resolve_left (by omega)
      obtain ⟨c0, a1, m1, cc, c1, s1, hmc, hcc, hnc⟩ := hc i hlt
      have ok := G.out i (by rw [← SW.len]; exact hlt)
      obtain ⟨x, hx⟩ : ∃ x : Nat, nu L i = (x : Int) := ⟨(nu L i).toNat, by have := ok.1.1; omega⟩
      have hx16 : x < 16 := by have := ok.1.2; omega
      rw [hx] at c0
      have hm1 : m1 = size := by rw [s1.len]; exact ok.2.1
      subst hm1
      have i1 : (i : Int) < (n : Int) := by omega
      obtain ⟨w1, hw1⟩ : ∃ w1, w1 = wr.alloc (.cells #[.int .i64 (x : Int), .slice a1 m1 cc] 54) := ⟨_, rfl⟩
      have e0 : w1.cell? ⟨wr.heap.size, 0, none⟩ = some (.int .i64 (x : Int)) := by rw [hw1]; simp
      have e1 : w1.cell? ⟨wr.heap.size, 1, none⟩ = some (.slice a1 m1 cc) := by rw [hw1]; simp
      have bw : Below wr.heap.size wr w1 := by rw [hw1]; exact (Below.refl _ _).alloc (Nat.le_refl _) _
      have G1 : Hid (Grd w1 g R) := hG.below bw
      have S1 : Hid (Sln w1 a1 m1 (by_ L i)) := s1.below bw
      have L1 : Hid (Below w.heap.size w w1) := by rw [hw1]; exact hB.alloc hB.size _
      have NC : Hid (a1 = none → cc = 0) := hnc
      have HR : Hid (Rect K k R) := hR
      have EG : Hid (elimGo k L (n - i) i R d = if (x : Int) < k then elimGo k L (n - (i + 1)) (i + 1) R d else
          match ins R k 0 (rowL k x (by_ L i)) with
          | none => elimGo k L (n - (i + 1)) (i + 1) R d
          | some (p, r) => if d - 1 = 0 then R.set p r else elimGo k L (n - (i + 1)) (i + 1) (R.set p r) (d - 1)) := by
        have e9 : n - i = n - (i + 1) + 1 := by omega
        rw [e9]
        show elimGo k L (n - (i + 1) + 1) i R d = _
        rw [elimGo, hx]
        simp
      have EF : Hid (elimGo k L (n - i) i R d = F) := hE
      have DD : Hid (-16 - (i : Int) ≤ d) := hd2
      have HGK : Hid (gk = n - i) := hgk
      clear hgk
      clear hc SW s1 bw hx ok HI hnc hE hG hR hB hd2
      go_upto_region 5 with (fail)
      rw [← hw1]
      obtain ⟨q, hq⟩ : ∃ q, q = wr.heap.size := ⟨_, rfl⟩
      rw [← hq] at e0 e1 ⊢
      clear hw1 hq c0 c1
      by_cases hxk : x < k
      · have i2 : (x : Int) < (k : Int) := by omega
        have FIN : Hid (-16 - ((i + 1 : Nat) : Int) ≤ d ∧ ∃ R, elimGo k L (n - (i + 1)) (i + 1) R d = F ∧ Grd w1 g R ∧ Rect K k R ∧ Below w.heap.size w w1) := by
          have h5 := DD.out
          refine ⟨by omega, R, ?_, G1.out, HR.out, L1.out⟩
          rw [← EF.out, EG.out, if_pos i2]
        go_wp2
        go_roundg (n - (i + 1))
        case measure => have h7 := HGK.out; omega
        case rel => exact ⟨i + 1, d, by omega, dlo, dhi, rfl, by go_num, rfl, FIN.out⟩
      · have i2 : (k : Int) ≤ (x : Int) := by omega
        go_wp2_with (go_at_call 45; refine (rowOf_any k x m1 cc a1 (by_ L i) _ h2 h3 hx16 S1 (by omega) NC).mono ?_; rintro e w2 ⟨g2, n2, rfl, H2⟩)
        obtain ⟨INS, IS⟩ : ∃ o, Hid (ins R k 0 (rowL k x (by_ L i)) = o) := ⟨_, rfl⟩
        have GW : Hid (w.heap.size ≤ g) := H0.out.2.1
        have nk : n2 = K := by rw [← HK.out]; exact H2.out.1
        subst nk
        have ST : Hid (ins R (k - 0) 0 (rowL k x (by_ L i)) = INS ∧ Sln w2 (some ⟨g2, 0, none⟩) n2 (rowL k x (by_ L i)) ∧ Grd w2 g R ∧ Below w.heap.size w w2) := by
          have hll := rowL_length k x (by_ L i)
          have hml := S1.out.len
          exact ⟨IS.out, ⟨by rw [hll, ← hml]; exact H2.out.1, H2.out.2.2.1.sli (rowL_lt h3 hx16 S1.out.lt) (by omega)⟩, G1.out.below H2.out.2.2.2, L1.out.trans (H2.out.2.2.2.mono L1.out.size)⟩
        clear H2 S1 G1 L1 e0 e1 H0
        go_loopg [33, 9, 6] k (fun pk tp tr td wr => ∃ p b : Nat, ∃ row : List Nat, p ≤ k ∧ pk = k - p ∧ tp = .int .i64 p ∧ td = .int .i64 d ∧ tr = .slice (some ⟨b, 0, none⟩) n2 n2 ∧ Hid (ins R (k - p) p row = INS ∧ Sln wr (some ⟨b, 0, none⟩) n2 row ∧ Grd wr g R ∧ Below w.heap.size w wr))
        case atStart => exact ⟨0, g2, _, by omega, by omega, rfl, rfl, rfl, ST.out⟩
        case round =>
          obtain ⟨p, b1, row, hp, hpk0, rfl, rfl, rfl, HP⟩ := hrel
          have HPK : Hid (_ = k - p) := hpk0
          clear hpk0 ST
          by_cases hpk : p < k
          · have IP : Hid (ins R (k - p) p row = INS) := HP.out.1
            have SR : Hid (Sln wr (some ⟨b1, 0, none⟩) n2 row) := HP.out.2.1
            have GR : Hid (Grd wr g R) := HP.out.2.2.1
            have LR : Hid (Below w.heap.size w wr) := HP.out.2.2.2
            have e7 : Hid (k - p = k - (p + 1) + 1) := (by omega : k - p = k - (p + 1) + 1)
            have j1 : (p : Int) < (k : Int) := by omega
            have j2 : (p : Int) < (n2 : Int) := by omega
            obtain ⟨ap, np, cp, sp, zp⟩ := GR.out.cell (i := p) (by rw [HR.out.1]; exact hpk)
            clear HP
            by_cases hem : R.getD p [] = []
            · have za := zp hem
              subst za
              have np0 : np = 0 := by rw [sp.len, hem]; rfl
              subst np0
              obtain ⟨wX, HwX⟩ : ∃ wX, Hid (wr = wX) := ⟨_, rfl⟩
              have RX : Hid (red R row p = row) := (by unfold red; rw [if_pos hem] : red R row p = row)
              clear sp zp hem HwX
              obtain ⟨y, Hy⟩ : ∃ y, Hid (row.getD p 0 = y) := ⟨_, rfl⟩
              have hy : y < 256 := by rw [← Hy.out]; exact getD_lt SR.out.lt p
              have cy : wr.cell? ⟨b1, p, none⟩ = some (.int .u8 (y : Int)) := by
                obtain ⟨bq, oq, eq1, cq⟩ := row_at SR.out (i := p) (by omega)
                simp at eq1
                obtain ⟨rfl, rfl⟩ := eq1
                rw [← Hy.out]
                simpa using cq
              by_cases hy0 : y = 0
              · subst hy0
                have FIN : Hid (ins R (k - (p + 1)) (p + 1) row = INS ∧ Sln wr (some ⟨b1, 0, none⟩) n2 row ∧ Grd wr g R ∧ Below w.heap.size w wr) := by
                  refine ⟨?_, SR.out, GR.out, LR.out⟩
                  rw [← IP.out, e7.out]
                  show _ = ins R (k - (p + 1) + 1) p row
                  rw [ins, RX.out, Hy.out, if_pos rfl]
                go_wp2_with (go_at_call 43; refine (inv_none _).mono ?_; rintro e w9 ⟨rfl, h0⟩; rw [h0]; clear h0)
                go_roundg (k - (p + 1))
                case measure => have h7 := HPK.out; omega
                case rel => exact ⟨p + 1, b1, row, by omega, rfl, by go_num, rfl, rfl, FIN.out⟩
              · have hiv := Gm.inv_lt y hy
                have INP : Hid (INS = some (p, scaled (Gm.inv y) row)) := by
                  have h8 : ins R (k - p) p row = INS := IP.out
                  rw [← h8, e7.out]
                  show ins R (k - (p + 1) + 1) p row = _
                  rw [ins, RX.out, Hy.out, if_neg hy0]
                have SLN : Hid ((scaled (Gm.inv y) row).length = n2) := by
                  have h8 := scaled_length (Gm.inv y) row
                  rw [← SR.out.len] at h8
                  exact h8
                by_cases hd1 : d = 1
                · subst hd1
                  go_wp2_with (first | (go_at_call 43; refine (inv_some y hy hy0 _).mono ?_; rintro e w9 ⟨rfl, h0⟩; rw [h0]; clear h0) | (go_at_call 46; refine (scale_n hiv SR).mono ?_; rintro e w3 ⟨g3, n3, rfl, H3⟩; have G3 : Hid (Grd w3 g R) := GR.out.below H3.out.bel; obtain ⟨ax, nx, cx, zx⟩ := G3.out.cell (i := p) (by rw [HR.out.1]; exact hpk); clear zx; have fx := G3.out.frozen p))
                  have FIN : Hid (w.heap.size ≤ g ∧ Grd (w3.setCell ⟨g, p, none⟩ (.slice (some ⟨g3, 0, none⟩) n3 n3)) g F ∧ Rect n2 k F ∧ Below w.heap.size w (w3.setCell ⟨g, p, none⟩ (.slice (some ⟨g3, 0, none⟩) n3 n3))) := by
                    have e8 : F = R.set p (scaled (Gm.inv y) row) := by
                      rw [← EF.out, EG.out, if_neg (by omega), IS.out, INP.out]
                      simp
                    have b3 : Below w.heap.size w w3 := LR.out.trans (H3.out.bel.mono LR.out.size)
                    rw [e8]
                    refine ⟨GW.out, G3.out.set H3.out.sln (fun h => ?_) p, HR.out.set p SLN.out, ((Oth.refl g w3).setCell p _).below b3 GW.out⟩
                    have h9 := SLN.out
                    rw [h] at h9; simp at h9; omega
                  try rw [Exit.noGoto_ret]
                  go_ret
                  exact ⟨g, rfl, FIN.out⟩
                · have hd3 : (d - 1 == 0) = false := by simp; omega
                  have hd0 := DD.out
                  have hd4 : -40 ≤ d - 1 := by omega
                  clear hd0
                  go_wp2_with (first | (go_at_call 43; refine (inv_some y hy hy0 _).mono ?_; rintro e w9 ⟨rfl, h0⟩; rw [h0]; clear h0) | (go_at_call 46; refine (scale_n hiv SR).mono ?_; rintro e w3 ⟨g3, n3, rfl, H3⟩; have G3 : Hid (Grd w3 g R) := GR.out.below H3.out.bel; obtain ⟨ax, nx, cx, zx⟩ := G3.out.cell (i := p) (by rw [HR.out.1]; exact hpk); clear zx; have fx := G3.out.frozen p))
                  have FIN : Hid (-16 - ((i + 1 : Nat) : Int) ≤ d - 1 ∧ ∃ R, elimGo k L (n - (i + 1)) (i + 1) R (d - 1) = F ∧ Grd (w3.setCell ⟨g, p, none⟩ (.slice (some ⟨g3, 0, none⟩) n3 n3)) g R ∧ Rect n2 k R ∧ Below w.heap.size w (w3.setCell ⟨g, p, none⟩ (.slice (some ⟨g3, 0, none⟩) n3 n3))) := by
                    have b3 : Below w.heap.size w w3 := LR.out.trans (H3.out.bel.mono LR.out.size)
                    have h5 := DD.out
                    refine ⟨by omega, R.set p (scaled (Gm.inv y) row), ?_, G3.out.set H3.out.sln (fun h => ?_) p, HR.out.set p SLN.out, ((Oth.refl g w3).setCell p _).below b3 GW.out⟩
                    · rw [← EF.out, EG.out, if_neg (by omega), IS.out, INP.out]
                      simp [show ¬ d - 1 = 0 by omega]
                    · have h9 := SLN.out
                      rw [h] at h9; simp at h9; omega
                  go_roundg (n - (i + 1))
                  case measure => have h7 := HGK.out; omega
                  case rel => exact ⟨i + 1, d - 1, by omega, hd4, by omega, rfl, by go_num, by go_num, FIN.out⟩
            · obtain ⟨bz, oz, rfl, _, _⟩ := sp.sli.2.2.resolve_left hem
              have hnp : np = n2 := by rw [sp.len]; exact (HR.out.2 p hpk).resolve_left hem
              subst hnp
              have SP : Hid (Sln wr.drew (some ⟨bz, oz, none⟩) np (R.getD p [])) := sp.drew
              have SQ : Hid (Sln wr.drew (some ⟨b1, 0, none⟩) np row) := SR.out.drew
              obtain ⟨yr, Hyr⟩ : ∃ y, Hid (row.getD p 0 = y) := ⟨_, rfl⟩
              have hyr : yr < 256 := by rw [← Hyr.out]; exact getD_lt SR.out.lt p
              have cyr : wr.cell? ⟨b1, p, none⟩ = some (.int .u8 (yr : Int)) := by
                obtain ⟨bq, oq, eq1, cq⟩ := row_at SR.out (i := p) (by omega)
                simp at eq1
                obtain ⟨rfl, rfl⟩ := eq1
                rw [← Hyr.out]
                simpa using cq
              have RX0 : Hid (red R row p = addSc row yr (R.getD p [])) := (by unfold red; rw [if_neg hem, Hyr.out] : red R row p = addSc row yr (R.getD p []))
              have LEN : Hid ((addSc row yr (R.getD p [])).length = np) := (by rw [addSc_length, ← SR.out.len, ← sp.len, Nat.max_self] : (addSc row yr (R.getD p [])).length = np)
              have GD : Hid (Grd wr.drew g R) := GR.out.drew
              have LD : Hid (Below w.heap.size w wr.drew) := LR.out.drew
              clear sp zp hem SR GR LR
              go_upto_region 11 with (fail)
              go_still_tail 9, (by kernel_rfl)
              generalize hw4 : ({ heap := wr.heap, tape := wr.tape, drawn := wr.drawn + 1, os := wr.os, output := wr.output } : World) = w4
              have hw5 : wr.drew = w4 := hw4
              rw [hw5] at SP SQ GD LD
              clear hw4 hw5 cp cyr
              go_upto_region 12 with (go_at_call 37; refine (addScaled_n hyr SQ SP).mono ?_; rintro e w5 ⟨b5, n5, rfl, H5⟩)
              have en : n5 = np := by rw [← LEN.out]; exact H5.out.sln.len
              subst en
              have SX : Hid (Sln w5 (some ⟨b5, 0, none⟩) n5 (addSc row yr (R.getD p []))) := H5.out.sln
              have GX : Hid (Grd w5 g R) := GD.out.below H5.out.bel
              have LX : Hid (Below w.heap.size w w5) := LD.out.trans (H5.out.bel.mono LD.out.size)
              obtain ⟨rX, HrX⟩ : ∃ r, Hid (addSc row yr (R.getD p []) = r) := ⟨_, rfl⟩
              have RX : Hid (red R row p = rX) := by rw [← HrX.out]; exact RX0.out
              rw [HrX.out] at SX
              clear RX0 HrX LEN H5 SP SQ GD LD
              obtain ⟨y, Hy⟩ : ∃ y, Hid (rX.getD p 0 = y) := ⟨_, rfl⟩
              have hy : y < 256 := by rw [← Hy.out]; exact getD_lt SX.out.lt p
              have cy : w5.cell? ⟨b5, p, none⟩ = some (.int .u8 (y : Int)) := by
                obtain ⟨bq, oq, eq1, cq⟩ := row_at SX.out (i := p) (by omega)
                simp at eq1
                obtain ⟨rfl, rfl⟩ := eq1
                rw [← Hy.out]
                simpa using cq
              by_cases hy0 : y = 0
              · subst hy0
                have FIN : Hid (ins R (k - (p + 1)) (p + 1) rX = INS ∧ Sln w5 (some ⟨b5, 0, none⟩) n5 rX ∧ Grd w5 g R ∧ Below w.heap.size w w5) := by
                  refine ⟨?_, SX.out, GX.out, LX.out⟩
                  rw [← IP.out, e7.out]
                  show _ = ins R (k - (p + 1) + 1) p row
                  rw [ins, RX.out, Hy.out, if_pos rfl]
                go_wp2_with (go_at_call 43; refine (inv_none _).mono ?_; rintro e w9 ⟨rfl, h0⟩; rw [h0]; clear h0)
                go_roundg (k - (p + 1))
                case measure => have h7 := HPK.out; omega
                case rel => exact ⟨p + 1, b5, rX, by omega, rfl, by go_num, rfl, rfl, FIN.out⟩
              · have hiv := Gm.inv_lt y hy
                have INP : Hid (INS = some (p, scaled (Gm.inv y) rX)) := by
                  have h8 : ins R (k - p) p row = INS := IP.out
                  rw [← h8, e7.out]
                  show ins R (k - (p + 1) + 1) p row = _
                  rw [ins, RX.out, Hy.out, if_neg hy0]
                have SLN : Hid ((scaled (Gm.inv y) rX).length = n5) := by
                  have h8 := scaled_length (Gm.inv y) rX
                  rw [← SX.out.len] at h8
                  exact h8
                by_cases hd1 : d = 1
                · subst hd1
                  go_wp2_with (first | (go_at_call 43; refine (inv_some y hy hy0 _).mono ?_; rintro e w9 ⟨rfl, h0⟩; rw [h0]; clear h0) | (go_at_call 46; refine (scale_n hiv SX).mono ?_; rintro e w3 ⟨g3, n3, rfl, H3⟩; have G3 : Hid (Grd w3 g R) := GX.out.below H3.out.bel; obtain ⟨ax, nx, cx, zx⟩ := G3.out.cell (i := p) (by rw [HR.out.1]; exact hpk); clear zx; have fx := G3.out.frozen p))
                  have FIN : Hid (w.heap.size ≤ g ∧ Grd (w3.setCell ⟨g, p, none⟩ (.slice (some ⟨g3, 0, none⟩) n3 n3)) g F ∧ Rect n5 k F ∧ Below w.heap.size w (w3.setCell ⟨g, p, none⟩ (.slice (some ⟨g3, 0, none⟩) n3 n3))) := by
                    have e8 : F = R.set p (scaled (Gm.inv y) rX) := by
                      rw [← EF.out, EG.out, if_neg (by omega), IS.out, INP.out]
                      simp
                    have b3 : Below w.heap.size w w3 := LX.out.trans (H3.out.bel.mono LX.out.size)
                    rw [e8]
                    refine ⟨GW.out, G3.out.set H3.out.sln (fun h => ?_) p, HR.out.set p SLN.out, ((Oth.refl g w3).setCell p _).below b3 GW.out⟩
                    have h9 := SLN.out
                    rw [h] at h9; simp at h9; omega
                  try rw [Exit.noGoto_ret]
                  go_ret
                  exact ⟨g, rfl, FIN.out⟩
                · have hd3 : (d - 1 == 0) = false := by simp; omega
                  have hd0 := DD.out
                  have hd4 : -40 ≤ d - 1 := by omega
                  clear hd0
                  go_wp2_with (first | (go_at_call 43; refine (inv_some y hy hy0 _).mono ?_; rintro e w9 ⟨rfl, h0⟩; rw [h0]; clear h0) | (go_at_call 46; refine (scale_n hiv SX).mono ?_; rintro e w3 ⟨g3, n3, rfl, H3⟩; have G3 : Hid (Grd w3 g R) := GX.out.below H3.out.bel; obtain ⟨ax, nx, cx, zx⟩ := G3.out.cell (i := p) (by rw [HR.out.1]; exact hpk); clear zx; have fx := G3.out.frozen p))
                  have FIN : Hid (-16 - ((i + 1 : Nat) : Int) ≤ d - 1 ∧ ∃ R, elimGo k L (n - (i + 1)) (i + 1) R (d - 1) = F ∧ Grd (w3.setCell ⟨g, p, none⟩ (.slice (some ⟨g3, 0, none⟩) n3 n3)) g R ∧ Rect n5 k R ∧ Below w.heap.size w (w3.setCell ⟨g, p, none⟩ (.slice (some ⟨g3, 0, none⟩) n3 n3))) := by
                    have b3 : Below w.heap.size w w3 := LX.out.trans (H3.out.bel.mono LX.out.size)
                    have h5 := DD.out
                    refine ⟨by omega, R.set p (scaled (Gm.inv y) rX), ?_, G3.out.set H3.out.sln (fun h => ?_) p, HR.out.set p SLN.out, ((Oth.refl g w3).setCell p _).below b3 GW.out⟩
                    · rw [← EF.out, EG.out, if_neg (by omega), IS.out, INP.out]
                      simp [show ¬ d - 1 = 0 by omega]
                    · have h9 := SLN.out
                      rw [h] at h9; simp at h9; omega
                  go_roundg (n - (i + 1))
                  case measure => have h7 := HGK.out; omega
                  case rel => exact ⟨i + 1, d - 1, by omega, hd4, by omega, rfl, by go_num, by go_num, FIN.out⟩
          · have ep : p = k := by omega
            subst ep
            have INN : Hid (INS = none) := by
              have h8 := HP.out.1
              rw [Nat.sub_self] at h8
              rw [← h8]; rfl
            have FIN : Hid (-16 - ((i + 1 : Nat) : Int) ≤ d ∧ ∃ R, elimGo p L (n - (i + 1)) (i + 1) R d = F ∧ Grd wr g R ∧ Rect n2 p R ∧ Below w.heap.size w wr) := by
              have h5 := DD.out
              refine ⟨by omega, R, ?_, HP.out.2.2.1, HR.out, HP.out.2.2.2⟩
              rw [← EF.out, EG.out, if_neg (by omega), IS.out, INN.out]
            clear HP
            go_wp2
            go_roundg (n - (i + 1))
            case measure => have h7 := HGK.out; omega
            case rel => exact ⟨i + 1, d, by omega, dlo, dhi, rfl, by go_num, rfl, FIN.out⟩
    · have e : i = n := by omega
      obtain ⟨hd2, R, hE, hG, hR, hB⟩ := HI.out
      have FIN : Hid (w.heap.size ≤ g ∧ Grd wr g F ∧ Rect K k F ∧ Below w.heap.size w wr) := by
        rw [e, Nat.sub_self] at hE
        have h8 : R = F := hE
        rw [← h8]
        exact ⟨H0.out.2.1, hG, hR, hB⟩
      clear HI hE hG hR hB
      subst e
      go_wp2
      try rw [Exit.noGoto_ret]
      go_ret
      exact ⟨g, rfl, FIN.out⟩
end Go.Proofs.YtokkjdgfhpocdaaDoor
