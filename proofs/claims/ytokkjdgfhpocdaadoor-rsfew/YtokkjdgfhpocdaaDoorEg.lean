/- What solve of package rs does, where the elimination has found all rows: it follows the model row by row. -/
import Derived.Test.YtokkjdgfhpocdaaDoorEf
namespace Go.Proofs.YtokkjdgfhpocdaaDoor
open Go.ChangeShapes Go.WideShapes Go.ChangeAt Go.RowKit
set_option linter.unusedVariables false
set_option linter.unusedSimpArgs false
set_option linter.unnecessarySimpa false
def bIn (place : Nat) : Nat → Nat → List (List Nat) → List (List Nat)
  | 0, _, R => R
  | f + 1, l, R => bIn place f (l + 1) (if (R.getD place []).getD l 0 = 0 then R else R.set place (addSc (R.getD place []) ((R.getD place []).getD l 0) (R.getD l [])))
def bOut (k : Nat) : Nat → List (List Nat) → List (List Nat)
  | 0, R => R
  | p + 1, R => bOut k p (bIn p (k - (p + 1)) (p + 1) R)
/- all rows are there, of K bytes each -/
def Fll (K k : Nat) (R : List (List Nat)) : Prop := R.length = k ∧ ∀ i, i < k → (R.getD i []).length = K
theorem Fll.set {K k : Nat} {R : List (List Nat)} (h : Fll K k R) (p : Nat) {r : List Nat} (hr : r.length = K) : Fll K k (R.set p r) := by
  refine ⟨by simp [h.1], fun i hi => ?_⟩
  by_cases hip : p = i
  · subst hip
    simp [List.getD, h.1, hi, hr]
  · have e2 : (R.set p r).getD i [] = R.getD i [] := by simp only [List.getD]; rw [List.getElem?_set_ne hip]
    rw [e2]; exact h.2 i hi
/- block g holds slices that read as the rows R -/
structure Rws (w : World) (g : Nat) (R : List (List Nat)) : Prop where
  vs : ∃ vs, VBlk w g vs ∧ vs.length = R.length ∧ ∀ i, i < R.length → ∃ a n, vs[i]? = some (.slice a n n) ∧ Sln w a n (R.getD i [])
theorem Grd.rws {w : World} {g : Nat} {R : List (List Nat)} (h : Grd w g R) : Rws w g R := by
  obtain ⟨vs, h1, h2, h3⟩ := h.vs
  exact ⟨vs, h1, h2, fun i hi => by obtain ⟨a, n, e, s, _⟩ := h3 i hi; exact ⟨a, n, e, s⟩⟩
theorem Rws.lt {w : World} {g : Nat} {R : List (List Nat)} (h : Rws w g R) : g < w.heap.size := by
  obtain ⟨vs, h1, _⟩ := h.vs
  exact h1.lt
theorem Rws.below {w w' : World} {g : Nat} {R : List (List Nat)} (h : Rws w g R) (hb : Below w.heap.size w w') : Rws w' g R := by
  obtain ⟨vs, h1, h2, h3⟩ := h.vs
  refine ⟨vs, h1.below hb h1.lt, h2, fun i hi => ?_⟩
  obtain ⟨a, n, e, s⟩ := h3 i hi
  exact ⟨a, n, e, s.below hb⟩
theorem Rws.cell {w : World} {g : Nat} {R : List (List Nat)} (h : Rws w g R) {i : Nat} (hi : i < R.length) : ∃ a n, w.cell? ⟨g, i, none⟩ = some (.slice a n n) ∧ Sln w a n (R.getD i []) := by
  obtain ⟨vs, h1, h2, h3⟩ := h.vs
  obtain ⟨a, n, e, s⟩ := h3 i hi
  exact ⟨a, n, by rw [h1.cell, e], s⟩
theorem Rws.frozen {w : World} {g : Nat} {R : List (List Nat)} (h : Rws w g R) (i : Nat) : w.frozen? ⟨g, i, none⟩ = false := by
  obtain ⟨vs, h1, _⟩ := h.vs
  exact h1.frozen i
theorem Rws.sln {w : World} {g : Nat} {R : List (List Nat)} (h : Rws w g R) {a : Option Addr} {n : Nat} {l : List Nat} (s : Sln w a n l) (i : Nat) (v : Value) : Sln (w.setCell ⟨g, i, none⟩ v) a n l := by
  refine ⟨s.len, s.sli.1, s.sli.2.1, ?_⟩
  rcases s.sli.2.2 with h0 | ⟨b, off, rfl, hl, hr⟩
  · exact .inl h0
  · by_cases hl0 : l = []
    · exact .inl hl0
    have hbg : b ≠ g := by
      rintro rfl
      obtain ⟨vs, h1, h2, h3⟩ := h.vs
      have hc := hr 0 (by cases l with | nil => exact absurd rfl hl0 | cons x y => simp)
      rw [Nat.add_zero, h1.cell] at hc
      have ho : off < R.length := by rw [← h2]; exact (List.getElem?_eq_some_iff.1 hc).1
      obtain ⟨a, n, e, _⟩ := h3 off ho
      rw [hc] at e
      simp at e
    have ho : Oth g w (w.setCell ⟨g, i, none⟩ v) := (Oth.refl g w).setCell i v
    exact .inr ⟨b, off, rfl, by rw [ho.size]; exact hl, fun j hj => (ho.cell (p := ⟨b, off + j, none⟩) hbg).trans (hr j hj)⟩
theorem Rws.set {w : World} {g : Nat} {R : List (List Nat)} (h : Rws w g R) {a : Option Addr} {n : Nat} {l : List Nat} (s : Sln w a n l) (i : Nat) : Rws (w.setCell ⟨g, i, none⟩ (.slice a n n)) g (R.set i l) := by
  obtain ⟨vs, h1, h2, h3⟩ := h.vs
  refine ⟨vs.set i (.slice a n n), h1.set i _, by simp [h2], fun j hj => ?_⟩
  have hj2 : j < R.length := by simpa using hj
  by_cases hij : i = j
  · subst hij
    have e : (R.set i l).getD i [] = l := by simp [List.getD, hj2]
    rw [e]
    exact ⟨a, n, by rw [List.getElem?_set_self (by rw [h2]; exact hj2)], h.sln s _ _⟩
  · obtain ⟨a', n', e, s'⟩ := h3 j hj2
    have e2 : (R.set i l).getD j [] = R.getD j [] := by simp only [List.getD]; rw [List.getElem?_set_ne hij]
    rw [e2]
    exact ⟨a', n', by rw [List.getElem?_set_ne hij]; exact e, h.sln s' _ _⟩
/- the rows of which the first i are cut -/
def cutN (k : Nat) (F : List (List Nat)) (i : Nat) : List (List Nat) := (F.take i).map (List.drop k) ++ F.drop i
theorem cutN_length (k : Nat) (F : List (List Nat)) (i : Nat) (hi : i ≤ F.length) : (cutN k F i).length = F.length := by simp [cutN]; omega
theorem cutN_getD (k : Nat) (F : List (List Nat)) (i : Nat) (hi : i < F.length) : (cutN k F i).getD i [] = F.getD i [] := by
  unfold cutN
  simp only [List.getD]
  rw [List.getElem?_append_right (by simp; omega)]
  simp [Nat.min_eq_left (Nat.le_of_lt hi)]
theorem cutN_set (k : Nat) (F : List (List Nat)) (i : Nat) (hi : i < F.length) : (cutN k F i).set i ((F.getD i []).drop k) = cutN k F (i + 1) := by
  unfold cutN
  have hl : ((F.take i).map (List.drop k)).length = i := by simp; omega
  rw [List.set_append_right _ _ (by omega), hl, Nat.sub_self, List.drop_eq_getElem_cons hi, List.set_cons_zero, List.take_succ_eq_append_getElem hi, List.map_append]
  simp only [List.map_cons, List.map_nil, List.append_assoc, List.cons_append, List.nil_append, List.getD, List.getElem?_eq_getElem hi, Option.getD_some]
def solved (k : Nat) (L : List (Int × List Nat)) : List (List Nat) := (bOut k k (elim k L)).map (List.drop k)
set_option maxRecDepth 40000 in
set_option maxHeartbeats 4000000 in
theorem solve_any (k size n c : Nat) (a : Option Addr) (L : List (Int × List Nat)) (w : World) (h2 : 1 ≤ k) (h3 : k ≤ 16) (hn : n ≤ 16) (hsz : size ≤ 1100) (S : Hid (Shd w a n L)) (G : Hid (GoodL 16 size L)) (FU : Hid (∀ i, i < k → (elim k L).getD i [] ≠ [])) :
    Calls Tryd.prog 34 #[.int .i64 (k : Int), .slice a n c] w fun e w' => ∃ g, e = .returned (.slice (some ⟨g, 0, none⟩) k k) ∧ Hid (w.heap.size ≤ g ∧ Rws w' g (solved k L) ∧ (solved k L).length = k ∧ (∀ i, i < k → ((solved k L).getD i []).length = size) ∧ Below w.heap.size w w') := by
  obtain ⟨F, HF⟩ : ∃ F, Hid (bOut k k (elim k L) = F) := ⟨_, rfl⟩
  obtain ⟨K, HK⟩ : ∃ K, Hid (k + size = K) := ⟨_, rfl⟩
  have hK1 : k ≤ K := by rw [← HK.out]; omega
  have hK2 : K ≤ 1116 := by rw [← HK.out]; omega
  unfold solved
  rw [HF.out]
  go_enter Tryd.func34, Tryd.ntmps34
  go_wp2_with (go_at_call 40; refine (eliminate_any k size n c a L _ h2 h3 hn hsz S G).mono ?_; rintro e w0 ⟨g, rfl, H0⟩)
  have GW0 : Hid (w.heap.size ≤ g) := H0.out.1
  have FE : Hid (Fll K k (elim k L)) := by
    have hr := H0.out.2.2.1
    rw [HK.out] at hr
    exact ⟨hr.1, fun i hi => (hr.2 i hi).resolve_left (FU.out i hi)⟩
  go_loopg [6] k (fun gk tp wr => ∃ p : Nat, p ≤ k ∧ gk = p ∧ tp = .int .i64 ((p : Int) - 1) ∧ Hid (∃ R, bOut k p R = F ∧ Grd wr g R ∧ Fll K k R ∧ Below w.heap.size w wr))
  case atStart => exact ⟨k, by omega, rfl, rfl, _, HF.out, H0.out.2.1, FE.out, H0.out.2.2.2⟩
  case round =>
    obtain ⟨p, hp, hgk, rfl, HP⟩ := hrel
    have HGK : Hid (gk = p) := hgk
    clear hgk
    by_cases hp0 : 0 < p
    · obtain ⟨q, rfl⟩ : ∃ q, p = q + 1 := ⟨p - 1, by omega⟩
      obtain ⟨R, hE, hG, hR, hB⟩ := HP.out
      obtain ⟨R1, HR1⟩ : ∃ R1, Hid (bIn q (k - (q + 1)) (q + 1) R = R1) := ⟨_, rfl⟩
      have EO : Hid (bOut k q R1 = F) := by rw [← HR1.out]; exact hE
      have ST : Hid (bIn q (k - (q + 1)) (q + 1) R = R1 ∧ Grd wr g R ∧ Fll K k R ∧ Below w.heap.size w wr) := ⟨HR1.out, hG, hR, hB⟩
      clear HP hE hG hR hB H0 FE
      have eq1 : ((q + 1 : Nat) : Int) - 1 = (q : Int) := by omega
      rw [eq1]
      clear eq1
      have qk : (q : Int) < (k : Int) := by omega
      go_wp2
      go_loopg [7] (k - (q + 1)) (fun lk tl wr => ∃ l : Nat, q + 1 ≤ l ∧ l ≤ k ∧ lk = k - l ∧ tl = .int .i64 (l : Int) ∧ Hid (∃ R', bIn q (k - l) l R' = R1 ∧ Grd wr g R' ∧ Fll K k R' ∧ Below w.heap.size w wr))
      case atStart => exact ⟨q + 1, by omega, by omega, by omega, by go_num, R, ST.out⟩
      case round =>
        obtain ⟨l, hl1, hl2, hlk, rfl, HL⟩ := hrel
        have HLK : Hid (_ = k - l) := hlk
        clear hlk ST
        by_cases hlt : l < k
        · obtain ⟨R', hE, hG, hR, hB⟩ := HL.out
          obtain ⟨aq, nq, cq, sq, _⟩ := hG.cell (i := q) (by rw [hR.1]; omega)
          obtain ⟨al, nl, cl, sl, _⟩ := hG.cell (i := l) (by rw [hR.1]; omega)
          have lq := hR.2 q (by omega)
          have ll := hR.2 l (by omega)
          have nq1 : nq = K := by rw [sq.len]; exact lq
          have nl1 : nl = K := by rw [sl.len]; exact ll
          subst nq1
          subst nl1
          obtain ⟨bq, oq, rfl, cy⟩ := row_at sq (i := l) (by omega)
          obtain ⟨y, Hy⟩ : ∃ y, Hid ((R'.getD q []).getD l 0 = y) := ⟨_, rfl⟩
          rw [Hy.out] at cy
          have hy : y < 256 := by rw [← Hy.out]; exact getD_lt sq.lt l
          have SQ : Hid (Sln wr.drew (some ⟨bq, oq, none⟩) nl (R'.getD q [])) := sq.drew
          have SL : Hid (Sln wr.drew al nl (R'.getD l [])) := sl.drew
          have LEN : Hid ((addSc (R'.getD q []) y (R'.getD l [])).length = nl) := (by rw [addSc_length, lq, ll, Nat.max_self] : (addSc (R'.getD q []) y (R'.getD l [])).length = nl)
          have GR : Hid (Grd wr g R') := hG
          have FR : Hid (Fll nl k R') := hR
          have LR : Hid (Below w.heap.size w wr) := hB
          have EI : Hid (bIn q (k - l) l R' = R1) := hE
          have EJ : Hid (bIn q (k - l) l R' = bIn q (k - (l + 1)) (l + 1) (if y = 0 then R' else R'.set q (addSc (R'.getD q []) y (R'.getD l [])))) := by
            have e9 : k - l = k - (l + 1) + 1 := by omega
            rw [e9]
            show bIn q (k - (l + 1) + 1) l R' = _
            rw [bIn, Hy.out]
          have j1 : (l : Int) < (k : Int) := by omega
          have j2 : (l : Int) < (nl : Int) := by omega
          clear hE hG hR hB sq sl lq ll HL
          by_cases hy0 : y = 0
          · subst hy0
            have FIN : Hid (∃ R', bIn q (k - (l + 1)) (l + 1) R' = R1 ∧ Grd wr g R' ∧ Fll nl k R' ∧ Below w.heap.size w wr) := ⟨R', by rw [← EI.out, EJ.out, if_pos rfl], GR.out, FR.out, LR.out⟩
            go_wp2
            go_roundg (k - (l + 1))
            case measure => have h7 := HLK.out; omega
            case rel => exact ⟨l + 1, by omega, by omega, rfl, by go_num, FIN.out⟩
          · have hy1 : ((y : Int) == 0) = false := by simp; omega
            have GW : Hid (w.heap.size ≤ g) := GW0.out
            go_wp2
            go_region_with (go_at_call 37; refine (addScaled_n hy SQ SL).mono ?_; rintro e w5 ⟨b5, n5, rfl, H5⟩; have G5 : Hid (Grd w5 g R') := GR.out.drew.below H5.out.bel; obtain ⟨ax, nx, cx, zx⟩ := G5.out.cell (i := q) (by rw [FR.out.1]; omega); clear zx; have fx := G5.out.frozen q)
            all_goals
              have FIN : Hid (∃ R', bIn q (k - (l + 1)) (l + 1) R' = R1 ∧ Grd (w5.setCell ⟨g, q, none⟩ (.slice (some ⟨b5, 0, none⟩) n5 n5)) g R' ∧ Fll nl k R' ∧ Below w.heap.size w (w5.setCell ⟨g, q, none⟩ (.slice (some ⟨b5, 0, none⟩) n5 n5))) := by
                have b5' : Below w.heap.size w w5 := LR.out.drew.trans (H5.out.bel.mono LR.out.drew.size)
                refine ⟨R'.set q (addSc (R'.getD q []) y (R'.getD l [])), by rw [← EI.out, EJ.out, if_neg hy0], G5.out.set H5.out.sln (fun h => ?_) q, FR.out.set q LEN.out, ((Oth.refl g w5).setCell q _).below b5' GW.out⟩
                have h9 := LEN.out
                rw [h] at h9; simp at h9; omega
              clear cx fx H5 G5
              go_wp2
              go_roundg (k - (l + 1))
              case measure => have h7 := HLK.out; omega
              case rel => exact ⟨l + 1, by omega, by omega, rfl, by go_num, FIN.out⟩
        · have e : l = k := by omega
          have FIN : Hid (∃ R, bOut k q R = F ∧ Grd wr g R ∧ Fll K k R ∧ Below w.heap.size w wr) := by
            obtain ⟨R', hE, hG, hR, hB⟩ := HL.out
            rw [e, Nat.sub_self] at hE
            have h8 : R' = R1 := hE
            exact ⟨R', by rw [h8]; exact EO.out, hG, hR, hB⟩
          clear HL
          subst e
          go_wp2
          go_roundg q
          case measure => have h7 := HGK.out; omega
          case rel => exact ⟨q, by omega, rfl, by go_num, FIN.out⟩
    · have e : p = 0 := by omega
      subst e
      obtain ⟨R, hE, hG, hR, hB⟩ := HP.out
      have h8 : R = F := hE
      subst h8
      have RR : Hid (Rws wr g R) := hG.rws
      have FR : Hid (Fll K k R) := hR
      have LR : Hid (Below w.heap.size w wr) := hB
      clear HP hE hG hR hB H0 FE
      obtain ⟨w1, hw1⟩ : ∃ w1, w1 = wr := ⟨_, rfl⟩
      rw [← hw1] at RR LR ⊢
      clear hw1
      go_wp2
      go_loopw [50] (fun ti wr => ∃ i : Nat, i ≤ k ∧ ti = .int .i64 (i : Int) ∧ Hid (Rws wr g (cutN k R i) ∧ Below w.heap.size w wr)) (fun ti _ => k - (intOf ti).toNat)
      case atStart => exact ⟨0, by omega, rfl, by simpa [cutN] using RR.out, LR.out⟩
      case round =>
        obtain ⟨i, hi, rfl, HI⟩ := hrel
        by_cases hlt : i < k
        · have hil : i < R.length := by rw [FR.out.1]; exact hlt
          obtain ⟨ai, ni, ci, si⟩ := HI.out.1.cell (i := i) (by rw [cutN_length _ _ _ (by omega)]; exact hil)
          rw [cutN_getD _ _ _ hil] at si
          have n1 : ni = K := by rw [si.len]; exact FR.out.2 i hlt
          subst n1
          have fi := HI.out.1.frozen i
          have i1 : (i : Int) < (k : Int) := by omega
          have i2 : (k : Int) ≤ (ni : Int) := by omega
          have sd := slice_from si hK1 (Nat.le_refl _)
          obtain ⟨ad, had⟩ : ∃ ad, ad = (if ni = k then ai else Option.map (fun x => x.add k) ai) := ⟨_, rfl⟩
          rw [← had] at sd
          have FIN : Hid (Rws (wr.setCell ⟨g, i, none⟩ (.slice ad (ni - k) (ni - k))) g (cutN k R (i + 1)) ∧ Below w.heap.size w (wr.setCell ⟨g, i, none⟩ (.slice ad (ni - k) (ni - k)))) := by
            refine ⟨?_, ((Oth.refl g wr).setCell i _).below HI.out.2 GW0.out⟩
            rw [← cutN_set k R i hil]
            exact HI.out.1.set sd i
          rw [had] at FIN
          clear HI si sd had
          go_wp2
          go_roundw
          case rel => exact ⟨i + 1, by omega, by go_num, FIN.out⟩
          case measure => simp [intOf]; omega
        · have e : i = k := by omega
          have FIN : Hid (w.heap.size ≤ g ∧ Rws wr g (R.map (List.drop k)) ∧ (R.map (List.drop k)).length = k ∧ (∀ i, i < k → ((R.map (List.drop k)).getD i []).length = size) ∧ Below w.heap.size w wr) := by
            have h9 := HI.out.1
            have e9 : cutN k R i = R.map (List.drop k) := by
              unfold cutN
              rw [List.take_of_length_le (by rw [FR.out.1]; omega), List.drop_eq_nil_of_le (by rw [FR.out.1]; omega), List.append_nil]
            rw [e9] at h9
            refine ⟨GW0.out, h9, by simp [FR.out.1], fun j hj => ?_, HI.out.2⟩
            have hj2 : j < R.length := by rw [FR.out.1]; exact hj
            have h10 := FR.out.2 j hj
            have e10 : (R.map (List.drop k)).getD j [] = (R.getD j []).drop k := by simp [List.getD, hj2]
            rw [e10, List.length_drop, h10, ← HK.out]
            omega
          clear HI
          subst e
          go_wp2
          go_ret
          exact ⟨g, rfl, FIN.out⟩
end Go.Proofs.YtokkjdgfhpocdaaDoor
