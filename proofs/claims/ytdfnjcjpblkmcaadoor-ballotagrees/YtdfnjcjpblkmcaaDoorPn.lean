/- ask: the walk. -/
import Derived.Test.YtdfnjcjpblkmcaaDoorPm
namespace Go.Proofs.YtdfnjcjpblkmcaaDoor
open Go.ChangeShapes Go.WideShapes Go.ChangeAt Go.RowKit
set_option maxRecDepth 20000
set_option linter.unusedVariables false
set_option linter.unusedSimpArgs false
theorem five (w : World) (o1 o2 o3 o4 o5 : Obj) : Below w.heap.size w (((((w.alloc o1).alloc o2).alloc o3).alloc o4).alloc o5) ∧ (((((w.alloc o1).alloc o2).alloc o3).alloc o4).alloc o5).heap[w.heap.size]? = some o1 ∧ (((((w.alloc o1).alloc o2).alloc o3).alloc o4).alloc o5).heap[w.heap.size + 1]? = some o2 ∧ (((((w.alloc o1).alloc o2).alloc o3).alloc o4).alloc o5).heap[w.heap.size + 2]? = some o3 ∧ (((((w.alloc o1).alloc o2).alloc o3).alloc o4).alloc o5).heap[w.heap.size + 3]? = some o4 ∧ (((((w.alloc o1).alloc o2).alloc o3).alloc o4).alloc o5).heap[w.heap.size + 4]? = some o5 := by
  have s1 : (w.alloc o1).heap.size = w.heap.size + 1 := by simp
  have s2 : ((w.alloc o1).alloc o2).heap.size = w.heap.size + 2 := by simp
  have s3 : (((w.alloc o1).alloc o2).alloc o3).heap.size = w.heap.size + 3 := by simp
  have s4 : ((((w.alloc o1).alloc o2).alloc o3).alloc o4).heap.size = w.heap.size + 4 := by simp
  have b2 := alloc1 (w.alloc o1) o2
  have b3 := alloc1 ((w.alloc o1).alloc o2) o3
  have b4 := alloc1 (((w.alloc o1).alloc o2).alloc o3) o4
  have b5 := alloc1 ((((w.alloc o1).alloc o2).alloc o3).alloc o4) o5
  have n1 := heap_alloc_new w o1
  have n2 := heap_alloc_new (w.alloc o1) o2
  have n3 := heap_alloc_new ((w.alloc o1).alloc o2) o3
  have n4 := heap_alloc_new (((w.alloc o1).alloc o2).alloc o3) o4
  have n5 := heap_alloc_new ((((w.alloc o1).alloc o2).alloc o3).alloc o4) o5
  rw [s1] at n2
  rw [s2] at n3
  rw [s3] at n4
  rw [s4] at n5
  refine ⟨((((alloc1 w o1).trans (b2.mono (by omega))).trans (b3.mono (by omega))).trans (b4.mono (by omega))).trans (b5.mono (by omega)), ?_, ?_, ?_, ?_, n5⟩
  · rw [b5.block _ (by omega), b4.block _ (by omega), b3.block _ (by omega), b2.block _ (by omega)]; exact n1
  · rw [b5.block _ (by omega), b4.block _ (by omega), b3.block _ (by omega)]; exact n2
  · rw [b5.block _ (by omega), b4.block _ (by omega)]; exact n3
  · rw [b5.block _ (by omega)]; exact n4
def AskR (w w' : World) (H abk ao n hf K : Nat) (G : Nat → Nat) (VS : Nat → Prop) (Ps : List (Bal × List Cm)) (b : Bal) (V : Nat → Bal → Bool) (L : List Ct) (ok : Bool) (a : Option Addr) (m c : Nat) : Prop :=
  ∃ S X, Gh n hf S V Ps L ∧ Sys w' H abk ao n G S VS ∧ Lg w' a m c X ∧ Ch w w' (fun q => ∃ i, i < n ∧ q = G i) ∧ (∃ cs fr, w'.heap[abk]? = some (.cells cs 25 fr)) ∧ (∀ x ∈ led X, x.ps = []) ∧ (led X).length ≤ K + 1 ∧ (ok = true → Gh n hf S V ((b, led X) :: Ps) L)
set_option maxHeartbeats 4000000 in
theorem ask_n {M : Nat} {E : Nat → Addr} {w : World} {B H abk ao n hf acp K : Nat} {G : Nat → Nat} {S : Nat → As} {V : Nat → Bal → Bool} {VS : Nat → Prop} {Ps : List (Bal × List Cm)} {L : List Ct} {aa : Option Addr} {an ac2 : Nat} {A : List Int} {ta : Option Addr} {tn tc : Nat} {rr qq tag : Int} {late : Bool}
    (hGh : Hid (Gh n hf S V Ps L)) (hSy : Hid (Sys w H abk ao n G S VS)) (hAt : Hid (∃ cs fr, w.heap[abk]? = some (.cells cs 25 fr))) (hVS : Hid (∀ q, VS q → q < w.heap.size)) (hE : Hid (∀ w', Below B w w' → Sent w' M E)) (hM : 2 ≤ M) (hA : Hid (∀ w', Below B w w' → Irow w' 0 aa an A)) (hAI : Hid (∀ j, I64 (A.getD j 0))) (hn : 0 < n) (hn7 : n ≤ 7) (hh : 0 < hf) (hh2 : hf ≤ 100) (hB : Hid (B ≤ w.heap.size)) (hGB : Hid (∀ i, i < n → B ≤ G i)) (hNP : Hid (∀ b v, (b, v) ∈ Ps → (∀ x ∈ v, x.ps = []) ∧ v.length ≤ K)) (hK : K ≤ 900) (hfr : Hid (∀ u, ((rr, qq), u) ∉ Ps)) :
    Calls Tryd.prog 19 #[.slice (some ⟨abk, ao, none⟩) n acp, .agg #[.int .i64 rr, .int .i64 qq, .slice aa an ac2, .slice ta tn tc, .int .i64 tag, .bool late], .int .i64 hf] w fun e w' => ∃ a' m' c' ok, e = .returned (.tuple #[.agg #[.int .i64 rr, .int .i64 qq, .slice a' m' c', .slice ta tn tc], .bool ok]) ∧ Hid (AskR w w' H abk ao n hf K G VS Ps (rr, qq) V L ok a' m' c') := by
  obtain ⟨g4, Hg4⟩ : ∃ g4, Hid (w.heap.size = g4) := ⟨_, rfl⟩
  obtain ⟨g6, Hg6⟩ : ∃ g6, Hid (w.heap.size + 1 = g6) := ⟨_, rfl⟩
  obtain ⟨gs, Hgs⟩ : ∃ gs, Hid (w.heap.size + 2 = gs) := ⟨_, rfl⟩
  obtain ⟨g11, Hg11⟩ : ∃ g11, Hid (w.heap.size + 3 = g11) := ⟨_, rfl⟩
  obtain ⟨g12, Hg12⟩ : ∃ g12, Hid (w.heap.size + 4 = g12) := ⟨_, rfl⟩
  obtain ⟨w5, Hw5⟩ : ∃ w5, Hid (((((w.alloc (.cells #[.int .i64 rr, .int .i64 qq, .slice aa an ac2, .slice ta tn tc, .int .i64 tag, .bool late] 66)).alloc (.cells #[.int .i64 0, .int .i64 0, .slice none 0 0, .slice none 0 0] 68)).alloc (.cells (madeCells #[.bool false] n) 4)).alloc (.cells #[.int .i64 0, .int .i64 0] 34)).alloc (.cells #[] 81) = w5) := ⟨_, rfl⟩
  have F5 : Hid (Below w.heap.size w w5 ∧ w5.heap[g4]? = some (.cells #[.int .i64 rr, .int .i64 qq, .slice aa an ac2, .slice ta tn tc, .int .i64 tag, .bool late] 66 (0, 0)) ∧ w5.heap[g6]? = some (.cells #[.int .i64 0, .int .i64 0, .slice none 0 0, .slice none 0 0] 68 (0, 0)) ∧ w5.heap[gs]? = some (.cells (sn n (fun _ => false)) 4 (0, 0)) ∧ w5.heap[g11]? = some (.cells #[.int .i64 0, .int .i64 0] 34 (0, 0)) ∧ w5.heap[g12]? = some (.cells #[] 81 (0, 0))) := by
    rw [← Hw5.out, ← Hg4.out, ← Hg6.out, ← Hgs.out, ← Hg11.out, ← Hg12.out, sn_made]
    exact five w _ _ _ _ _
  obtain ⟨w2, Hw2⟩ : ∃ w2, Hid ((w.alloc (.cells #[.int .i64 rr, .int .i64 qq, .slice aa an ac2, .slice ta tn tc, .int .i64 tag, .bool late] 66)).alloc (.cells #[.int .i64 0, .int .i64 0, .slice none 0 0, .slice none 0 0] 68) = w2) := ⟨_, rfl⟩
  have B2 : Hid (Below w.heap.size w w2) := by rw [← Hw2.out]; exact alloc2 w _ _
  have S2 : Hid (w2.heap.size = w.heap.size + 2) := by show _ = _; rw [← Hw2.out]; simp
  have B25 : Hid (Below w2.heap.size w2 w5) := by
    rw [← Hw5.out, ← Hw2.out]
    exact (alloc2 _ _ _).alloc (by simp) _
  have A0 : Hid (Ask w2 w5 H abk ao n hf g4 g11 gs G (fun q => VS q ∨ q = g6) Ps rr qq #[.int .i64 rr, .int .i64 qq, .slice aa an ac2, .slice ta tn tc, .int .i64 tag, .bool late] V L S (fun _ => false) (0, 0) (some ⟨g12, 0, none⟩) 0 0 []) := by
    have z4 := S2.out
    have z5 := Hg6.out
    obtain ⟨f1, f2, f3, f4, f5, f6⟩ := F5.out
    obtain ⟨cs, fr, e⟩ := hAt.out
    have k : ∀ {q : Nat} {o : Obj}, w.heap[q]? = some o → w5.heap[q]? = some o := fun {q o} e => (f1.block q (Array.getElem?_eq_some_iff.1 e).1).trans e
    have z1 := Hgs.out
    have z2 := Hg11.out
    have z3 := Hg4.out
    refine ⟨hGh.out, hSy.out.ch (T := fun _ => False) (Ch.below f1) (fun _ _ e => e.elim) (fun e => e) (fun _ _ e => e) (fun q e => ?_), Ch.below B25.out, f4, f5, f2, ⟨cs, fr, k e⟩, (fun i hi => by obtain ⟨a1, m1, c1, X1, h1, _⟩ := hSy.out.acc i hi; exact ⟨_, _, k h1.blk⟩), ⟨[], rfl, Cms.nil _ _ _, (fun x hx => by cases hx), fun q hq => ?_, Nat.le_refl _, (fun e => by cases e)⟩, .inl ⟨rfl, rfl⟩, .inl rfl, (fun i hi e => by cases e), (fun q e => e.elim (fun e => by have := hVS.out q e; omega) (fun e => by omega)), by omega, by omega, by omega⟩
    · rcases e with (e | e) | e | e
      · exact .inl e
      · exact .inr (by omega)
      · exact .inr (by omega)
      · exact .inr (by omega)
    · cases hq
      exact ⟨_, _, f6⟩
  have K6 : Hid (w5.heap[g6]? = some (.cells #[.int .i64 0, .int .i64 0, .slice none 0 0, .slice none 0 0] 68 (0, 0))) := F5.out.2.2.1
  have DG : Hid (g6 ≠ gs ∧ g6 ≠ g11) := by have := Hgs.out; have := Hg11.out; have := Hg6.out; exact ⟨by omega, by omega⟩
  have bel : Hid (∀ {wr : World}, Ch w2 wr (fun q => ∃ i, i < n ∧ q = G i) → Below B w wr) := fun {wr} h => ((Ch.below B2.out).trans h).toBelow hB.out (fun q hq e => by obtain ⟨i, hi, e⟩ := e; have := hGB.out i hi; omega)
  have nne : ¬ ((n : Int) = 0) := by omega
  have sz : an ≤ 17592186043904 := (hA.out w (Below.refl _ _)).sz
  have x2 : w5.cell? ⟨g4, 2, none⟩ = some (.slice aa an ac2) := by simp [World.cell?, F5.out.2.1]
  have MK := make_bools n (by omega)
  clear F5
  go_enter Tryd.func19, Tryd.ntmps19
  go_upto_region 6 with (fail)
  rw [Hw5.out, Hg12.out, Hg11.out, Hgs.out, Hg6.out, Hg4.out]
  go_wp2
  clear x2 MK
  go_loopw [10, 12, 28] (fun t10 t12 t28 wr => ∃ (i pk : Nat) (la : Option Addr) (lm lc : Nat), i ≤ an ∧ t28 = .int .i64 i ∧ t10 = .int .i64 pk ∧ t12 = .slice la lm lc ∧ Hid (wr.heap[g6]? = some (.cells #[.int .i64 0, .int .i64 0, .slice none 0 0, .slice none 0 0] 68 (0, 0))) ∧ Hid (∃ S1 f nb lv, pk = cnt n f ∧ Ask w2 wr H abk ao n hf g4 g11 gs G (fun q => VS q ∨ q = g6) Ps rr qq #[.int .i64 rr, .int .i64 qq, .slice aa an ac2, .slice ta tn tc, .int .i64 tag, .bool late] V L S1 f nb la lm lc lv)) (fun _ _ t28 _ => an - (intOf t28).toNat)
  case atStart => exact ⟨0, 0, _, 0, 0, by omega, rfl, rfl, rfl, K6.out, S, fun _ => false, (0, 0), [], (cnt_zero (fun _ _ => rfl)).symm, A0.out⟩
  case round =>
    obtain ⟨i, pk, la, lm, lc, hi, rfl, rfl, rfl, K6r, HT0⟩ := hrel
    obtain ⟨S1, f, nb, lv, HPK0, HAS0⟩ := HT0.out
    have HPK : Hid (pk = cnt n f) := HPK0
    have HAS : Hid (Ask w2 wr H abk ao n hf g4 g11 gs G (fun q => VS q ∨ q = g6) Ps rr qq #[.int .i64 rr, .int .i64 qq, .slice aa an ac2, .slice ta tn tc, .int .i64 tag, .bool late] V L S1 f nb la lm lc lv) := HAS0
    have pk7 : pk ≤ 7 := by have := cnt_le n f; omega
    clear HPK0 HAS0 HT0
    by_cases hin : i < an
    · have i3 : (i : Int) < (an : Int) := by omega
      obtain ⟨tb, tO, rfl, e1⟩ := (hA.out wr (bel.out HAS.out.ch)).at_ hin
      obtain ⟨x, Hx⟩ : ∃ x, Hid (A.getD i 0 = x) := ⟨_, rfl⟩
      rw [Hx.out] at e1
      have xI : I64 x := by rw [← Hx.out]; exact hAI.out i
      unfold I64 at xI
      obtain ⟨t, kk, m1, t1, t2, m2, hkk⟩ := pickn x n hn
      go_upto_region 9 with (fail)
      clear e1
      go_upto_region 10 with (fail)
      clear m1 m2 t1 t2 xI
      have hk3 : (kk : Int) < (n : Int) := by omega
      obtain ⟨a1, m1, c1, X1, HA0, HF0⟩ := HAS.out.sys.acc kk hkk
      have HA : Hid (Acc wr 84 H (G kk) (S1 kk) a1 m1 c1 X1) := HA0
      have HF : Hid (∀ q, fpc a1 m1 X1 q → ¬ ((VS q ∨ q = g6) ∨ q = gs ∨ q = g11)) := HF0
      clear HA0 HF0
      have HE : Hid (Sent wr M E) := hE.out wr (bel.out HAS.out.ch)
      have TZ : Tz wr abk (ao + kk) (G kk) g4 rr qq := ⟨HAS.out.sys.row kk hkk, by simp [World.cell?, HAS.out.bx], by simp [World.cell?, HAS.out.bx]⟩
      refine reg10 HA HE hM TZ hk3 (fun _ _ _ _ _ h => h) ?_
      intro V1 p ya ym yc FE
      clear TZ
      have HD : Ask w2 wr.drew H abk ao n hf g4 g11 gs G (fun q => VS q ∨ q = g6) Ps rr qq #[.int .i64 rr, .int .i64 qq, .slice (some ⟨tb, tO, none⟩) an ac2, .slice ta tn tc, .int .i64 tag, .bool late] V L S1 f nb la lm lc lv := HAS.out.below (Below.refl _ _).drew
      have A1 : Hid (Ask w2 V1 H abk ao n hf g4 g11 gs G (fun q => VS q ∨ q = g6) Ps rr qq #[.int .i64 rr, .int .i64 qq, .slice (some ⟨tb, tO, none⟩) an ac2, .slice ta tn tc, .int .i64 tag, .bool late] V L (upB S1 kk (prS (S1 kk) rr qq)) f nb la lm lc lv) := HD.prep hkk (HA.out.below (Below.refl _ _).drew) HF.out FE
      have K61 : Hid (V1.heap[g6]? = some (.cells #[.int .i64 0, .int .i64 0, .slice none 0 0, .slice none 0 0] 68 (0, 0))) := chT FE.ch HA.out.blk K6r.out (by decide)
      obtain ⟨x1, Hx1⟩ : ∃ x1, Hid ((prA (S1 kk) rr qq).1 = x1) := ⟨_, rfl⟩
      obtain ⟨x2, Hx2⟩ : ∃ x2, Hid ((prA (S1 kk) rr qq).2 = x2) := ⟨_, rfl⟩
      have KP : Hid (V1.heap[p]? = some (.cells #[.int .i64 x1, .int .i64 x2] 34 (0, 0))) := by rw [← Hx1.out, ← Hx2.out]; exact FE.k
      have PL : Hid (wr.heap.size ≤ p) := FE.lt
      have OC : Hid (∃ Y, led Y = prL (S1 kk) rr qq ∧ Oc V1 wr.heap.size ya ym yc Y) := FE.oc
      have NP : Hid (p ≠ gs ∧ p ≠ g11) := by
        have h1 := HAS.out.vlt gs (.inr (.inl rfl))
        have h2 := HAS.out.vlt g11 (.inr (.inr rfl))
        have := PL.out
        exact ⟨by omega, by omega⟩
      rw [Hx1.out, Hx2.out]
      clear FE HD HAS K6r
      by_cases hk : prk (S1 kk) rr qq = 0
      · have HK : Hid (prk (S1 kk) rr qq = 0) := hk
        have EV : Hid (errv E (prk (S1 kk) rr qq) = .nilIface) := by show _ = _; rw [hk]; rfl
        clear hk
        rw [EV.out]
        by_cases hsn : f kk = true
        · have y0 : V1.cell? ⟨gs, kk, none⟩ = some (.bool true) := by rw [sn_cell A1.out.sn hkk, hsn]
          clear hsn
          go_wp2
          go_roundw
          case rel => exact ⟨i + 1, pk, la, lm, lc, by omega, by go_num, rfl, rfl, K61.out, _, f, nb, lv, HPK.out, A1.out⟩
          case measure => simp [intOf]; omega
        · have hsf : f kk = false := by simpa using hsn
          have HSF : Hid (f kk = false) := hsf
          have y0 : V1.cell? ⟨gs, kk, none⟩ = some (.bool false) := by rw [sn_cell A1.out.sn hkk, hsf]
          have y1 : V1.frozen? ⟨gs, kk, none⟩ = false := sn_fz A1.out.sn kk
          clear hsn hsf
          obtain ⟨w6, Hw6⟩ : ∃ w6, Hid (V1.setCell ⟨gs, kk, none⟩ (.bool true) = w6) := ⟨_, rfl⟩
          have C6 : Hid (Ch V1 w6 (fun q => q = gs)) := by rw [← Hw6.out]; exact Ch.set V1 gs kk _
          have s6 : Hid (w6.heap[gs]? = some (.cells (sn n (upB f kk true)) 4 (0, 0))) := by rw [← Hw6.out]; exact sn_set A1.out.sn hkk
          have p6 : w6.heap[p]? = some (.cells #[.int .i64 x1, .int .i64 x2] 34 (0, 0)) := (C6.out.block p (Array.getElem?_eq_some_iff.1 KP.out).1 NP.out.1).trans KP.out
          have q6 : Hid (w6.heap[g11]? = some (.cells #[.int .i64 nb.1, .int .i64 nb.2] 34 (0, 0))) := chT C6.out A1.out.sn A1.out.k11 (by decide)
          have r0 : w6.cell? ⟨p, 0, none⟩ = some (.int .i64 x1) := by simp [World.cell?, p6]
          have r1 : w6.cell? ⟨p, 1, none⟩ = some (.int .i64 x2) := by simp [World.cell?, p6]
          have r2 : w6.cell? ⟨g11, 0, none⟩ = some (.int .i64 nb.1) := by simp [World.cell?, q6.out]
          have r3 : w6.cell? ⟨g11, 1, none⟩ = some (.int .i64 nb.2) := by simp [World.cell?, q6.out]
          have K66 : Hid (w6.heap[g6]? = some (.cells #[.int .i64 0, .int .i64 0, .slice none 0 0, .slice none 0 0] 68 (0, 0))) := chT C6.out A1.out.sn K61.out (by decide)
          have HP : Hid (prB (upB S1 kk (prS (S1 kk) rr qq) kk) = (rr, qq) ∧ acB (upB S1 kk (prS (S1 kk) rr qq) kk) = (x1, x2) ∧ (upB S1 kk (prS (S1 kk) rr qq) kk).L = prL (S1 kk) rr qq) := by
            rw [upB_same, prS_ok HK.out, ← Hx1.out, ← Hx2.out]
            unfold prA prL
            rw [if_pos HK.out, if_pos HK.out]
            exact ⟨rfl, rfl, rfl⟩
          have CN : Hid (pk + 1 = cnt n (upB f kk true)) := by
            have h := cnt_set (n := n) (P := f) hkk HSF.out
            rw [← HPK.out] at h
            exact h.symm
          clear p6
          go_upto_region 14 with (fail)
          rw [Hw6.out]
          clear y0 y1
          by_cases hab : ab (x1, x2) nb
          · have D : Hid (abv x1 x2 nb.1 nb.2 = true) := (ab_abv (x1, x2) nb).2 hab
            have HAB : Hid (ab (x1, x2) nb) := hab
            clear hab
            go_upto_region 15 with (go_at_call 12; refine (refAbove_n _ _ _ _ _).mono ?_; rintro e w7 ⟨rfl, H7⟩; rw [D.out])
            have a0 : w7.cell? ⟨p, 0, none⟩ = some (.int .i64 x1) := (H7.out.cell (p := ⟨p, 0, none⟩) (cell_lt r0)).trans r0
            have a1' : w7.cell? ⟨p, 1, none⟩ = some (.int .i64 x2) := (H7.out.cell (p := ⟨p, 1, none⟩) (cell_lt r1)).trans r1
            have q7 : w7.heap[g11]? = some (.cells #[.int .i64 nb.1, .int .i64 nb.2] 34 (0, 0)) := (H7.out.block g11 (Array.getElem?_eq_some_iff.1 q6.out).1).trans q6.out
            have a2 : w7.cell? ⟨g11, 0, none⟩ = some (.int .i64 nb.1) := by simp [World.cell?, q7]
            have a3 : w7.cell? ⟨g11, 1, none⟩ = some (.int .i64 nb.2) := by simp [World.cell?, q7]
            have a4 : ∀ i, w7.frozen? ⟨g11, i, none⟩ = false := fun i => by simp [World.frozen?, q7]
            obtain ⟨w8, Hw8⟩ : ∃ w8, Hid ((w7.setCell ⟨g11, 0, none⟩ (.int .i64 x1)).setCell ⟨g11, 1, none⟩ (.int .i64 x2) = w8) := ⟨_, rfl⟩
            have k8 : Hid (w8.heap[g11]? = some (.cells #[.int .i64 x1, .int .i64 x2] 34 (0, 0))) := by rw [← Hw8.out]; exact set2_k q7
            have C8 : Hid (Ch w7 w8 (fun q => q = g11)) := by rw [← Hw8.out]; exact set2_ch w7 g11 _ _
            have s7 : Hid (w7.heap[gs]? = some (.cells (sn n (upB f kk true)) 4 (0, 0))) := (H7.out.block gs (Array.getElem?_eq_some_iff.1 s6.out).1).trans s6.out
            have q7' : Hid (w7.heap[g11]? = some (.cells #[.int .i64 nb.1, .int .i64 nb.2] 34 (0, 0))) := q7
            clear q7 r0 r1 r2 r3
            go_wp2
            rw [Hw8.out]
            go_roundw
            case rel =>
              obtain ⟨Y, z1, z2⟩ := OC.out
              have zl : ∃ X, led X = prL (S1 kk) rr qq ∧ Lg V1 ya ym yc X := ⟨Y, z1, z2.lg (fun x hx => by
                rw [z1] at hx
                unfold prL at hx
                rw [if_pos HK.out] at hx
                rcases A1.out.gh.inv.a3 kk hkk with ⟨_, h⟩ | h
                · have h2 : (upB S1 kk (prS (S1 kk) rr qq) kk).L = [] := h
                  rw [HP.out.2.2] at h2
                  unfold prL at h2
                  rw [if_pos HK.out] at h2
                  rw [h2] at hx
                  cases hx
                · have h2 : (acB (upB S1 kk (prS (S1 kk) rr qq) kk), (upB S1 kk (prS (S1 kk) rr qq) kk).L) ∈ Ps := h
                  rw [HP.out.2.2] at h2
                  unfold prL at h2
                  rw [if_pos HK.out] at h2
                  exact (hNP.out _ _ h2).1 x hx)⟩
              have h := A1.out.mark (nb' := (x1, x2)) (lv' := prL (S1 kk) rr qq) (W := w8) hkk HP.out.1 (nab_prk HK.out).1 (((C6.out.weak (fun q _ e => .inl e)).trans (Ch.below H7.out)).trans (C8.out.weak (fun q _ e => .inr e))) (chT C8.out q7'.out s7.out (by decide)) k8.out zl (.inr ⟨HP.out.2.1.symm, HP.out.2.2.symm, by rw [HP.out.2.1]; exact HAB.out⟩)
              exact ⟨i + 1, pk + 1, ya, ym, yc, by omega, by go_num, by go_num, rfl, (C8.out.block g6 (Nat.lt_of_lt_of_le (Array.getElem?_eq_some_iff.1 K66.out).1 H7.out.size) DG.out.2).trans ((H7.out.block g6 (Array.getElem?_eq_some_iff.1 K66.out).1).trans K66.out), _, upB f kk true, (x1, x2), _, CN.out, h⟩
            case measure => simp [intOf]; omega
          · have D : Hid (abv x1 x2 nb.1 nb.2 = false) := Bool.eq_false_iff.2 (fun h => hab ((ab_abv (x1, x2) nb).1 h))
            have HAB : Hid (¬ ab (x1, x2) nb) := hab
            clear hab
            go_wp2_with (go_at_call 12; refine (refAbove_n _ _ _ _ _).mono ?_; rintro e w7 ⟨rfl, H7⟩; rw [D.out])
            go_roundw
            case rel =>
              have h := A1.out.mark (nb' := nb) (lv' := lv) (W := w7) (la' := la) (lm' := lm) (lc' := lc) hkk HP.out.1 (nab_prk HK.out).1 ((C6.out.weak (fun q _ e => .inl e)).trans (Ch.below H7.out)) ((H7.out.block gs (Array.getElem?_eq_some_iff.1 s6.out).1).trans s6.out) ((H7.out.block g11 (Array.getElem?_eq_some_iff.1 q6.out).1).trans q6.out) A1.out.lg (.inl ⟨rfl, rfl, by rw [HP.out.2.1]; exact HAB.out⟩)
              exact ⟨i + 1, pk + 1, la, lm, lc, by omega, by go_num, by go_num, rfl, (H7.out.block g6 (Array.getElem?_eq_some_iff.1 K66.out).1).trans K66.out, _, upB f kk true, nb, lv, CN.out, h⟩
            case measure => simp [intOf]; omega
      · obtain ⟨ad, ev⟩ := errv_ne (E := E) hk
        have EV : Hid (errv E (prk (S1 kk) rr qq) = er ad) := ev
        clear hk ev
        rw [EV.out]
        go_wp2
        go_roundw
        case rel => exact ⟨i + 1, pk, la, lm, lc, by omega, by go_num, rfl, rfl, K61.out, _, f, nb, lv, HPK.out, A1.out⟩
        case measure => simp [intOf]; omega
    · obtain ⟨X, X1, X2⟩ : ∃ X, Hid (led X = lv) ∧ Hid (Lg wr la lm lc X) := by
        obtain ⟨X, h1, h2⟩ := HAS.out.lg
        exact ⟨X, h1, h2⟩
      have LV : Hid ((∀ x ∈ lv, x.ps = []) ∧ lv.length ≤ K) := by
        rcases HAS.out.nw with ⟨_, h⟩ | h
        · rw [h]; exact ⟨(fun x hx => by cases hx), Nat.zero_le _⟩
        · exact hNP.out _ _ h
      have XC : Hid (Cms wr 0 la lm X) := X2.out.cms
      have XZ : Hid (la = none → lc = 0) := X2.out.z
      have lm9 : lm ≤ 900 := by
        have h1 := X2.out.cms.len
        have h2 := LV.out.2
        have h3 : (led X).length = X.length := by simp [led]
        rw [X1.out] at h3
        omega
      have XN : Hid (∀ x ∈ led X, x.ps = []) := by rw [X1.out]; exact LV.out.1
      have BZ : Bz wr g4 rr qq tag := ⟨by simp [World.cell?, HAS.out.bx], by simp [World.cell?, HAS.out.bx], by simp [World.cell?, HAS.out.bx]⟩
      go_upto_region 17 with (fail)
      refine reg17 XC XZ BZ XN (by omega) (fun _ _ _ _ _ h => h) ?_
      intro V1 p ya yc a' c' FE
      obtain ⟨X', FX, FL, FB⟩ : ∃ X', Hid (led X' = lv ++ [(cxT rr qq tag).cm]) ∧ Hid (Lg V1 a' (lm + 1) c' X') ∧ Hid (Below wr.heap.size wr V1) := by
        obtain ⟨X', h1, h2, h3⟩ := FE
        rw [X1.out] at h1
        exact ⟨X', h1, h2, (Below.refl wr.heap.size wr).drew.trans h3⟩
      clear FE BZ
      obtain ⟨m', Hm'⟩ : ∃ m', Hid (lm + 1 = m') := ⟨_, rfl⟩
      rw [Hm'.out] at FL ⊢
      have A1 : Hid (Ask w2 V1 H abk ao n hf g4 g11 gs G (fun q => VS q ∨ q = g6) Ps rr qq #[.int .i64 rr, .int .i64 qq, .slice aa an ac2, .slice ta tn tc, .int .i64 tag, .bool late] V L S1 f nb la lm lc lv) := HAS.out.below FB.out
      have d0 : V1.cell? ⟨g4, 0, none⟩ = some (.int .i64 rr) := by simp [World.cell?, A1.out.bx]
      have d1 : V1.cell? ⟨g4, 1, none⟩ = some (.int .i64 qq) := by simp [World.cell?, A1.out.bx]
      have d3 : V1.cell? ⟨g4, 3, none⟩ = some (.slice ta tn tc) := by simp [World.cell?, A1.out.bx]
      have k6 : V1.heap[g6]? = some (.cells #[.int .i64 0, .int .i64 0, .slice none 0 0, .slice none 0 0] 68 (0, 0)) := (FB.out.block g6 (Array.getElem?_eq_some_iff.1 K6r.out).1).trans K6r.out
      have h0 : V1.cell? ⟨g6, 0, none⟩ = some (.int .i64 0) := by simp [World.cell?, k6]
      have h1 : V1.cell? ⟨g6, 1, none⟩ = some (.int .i64 0) := by simp [World.cell?, k6]
      have h2 : V1.cell? ⟨g6, 2, none⟩ = some (.slice none 0 0) := by simp [World.cell?, k6]
      have h3 : V1.cell? ⟨g6, 3, none⟩ = some (.slice none 0 0) := by simp [World.cell?, k6]
      have hz : ∀ i, V1.frozen? ⟨g6, i, none⟩ = false := fun i => by simp [World.frozen?, k6]
      obtain ⟨w9, Hw9⟩ : ∃ w9, Hid ((((V1.setCell ⟨g6, 0, none⟩ (.int .i64 rr)).setCell ⟨g6, 1, none⟩ (.int .i64 qq)).setCell ⟨g6, 2, none⟩ (.slice a' m' c')).setCell ⟨g6, 3, none⟩ (.slice ta tn tc) = w9) := ⟨_, rfl⟩
      have k9 : w9.heap[g6]? = some (.cells #[.int .i64 rr, .int .i64 qq, .slice a' m' c', .slice ta tn tc] 68 (0, 0)) := by rw [← Hw9.out, set_blk (set_blk (set_blk (set_blk k6 0 _) 1 _) 2 _) 3 _]; rfl
      have C9 : Hid (Ch V1 w9 (fun q => q = g6)) := by rw [← Hw9.out]; exact (((Ch.set V1 g6 0 _).trans (Ch.set _ g6 1 _)).trans (Ch.set _ g6 2 _)).trans (Ch.set _ g6 3 _)
      have FIN : ∀ ok : Bool, (ok = true → hf ≤ cnt n f) → Hid (AskR w w9 H abk ao n hf K G VS Ps (rr, qq) V L ok a' m' c') := fun ok hok => by
        obtain ⟨cs, fr, e⟩ := A1.out.at_
        refine ⟨S1, X', A1.out.gh, ?_, FL.out.keep (K81.one C9.out k6 (by decide)), ((Ch.below B2.out).trans A1.out.ch).then C9.out (fun q _ e => e) (fun q hq e => ?_), ⟨cs, fr, chT C9.out k6 e (by decide)⟩, ?_, ?_, fun e => A1.out.propose hh (hok e) hfr.out (by rw [FX.out]; exact List.prefix_append _ _)⟩
        · refine A1.out.sys.ch C9.out (fun q _ e => .inl (.inr e)) (fun e2 => ?_) (fun j hj e2 => ?_) (fun q e => .inl (.inl (.inl e)))
          · have e3 : abk = g6 := e2
            rw [e3, k6] at e
            cases e
          · have e3 : G j = g6 := e2
            obtain ⟨cs2, fr2, e4⟩ := A1.out.ug j hj
            rw [e3, k6] at e4
            cases e4
        · have := Hg6.out
          have e2 : q = g6 := e
          omega
        · rw [FX.out]
          intro x hx
          rcases List.mem_append.1 hx with h | h
          · exact LV.out.1 x h
          · obtain rfl := List.mem_singleton.1 h
            rfl
        · rw [FX.out, List.length_append]
          have := LV.out.2
          simp
          omega
      have v0 : w9.cell? ⟨g6, 0, none⟩ = some (.int .i64 rr) := by simp [World.cell?, k9]
      have v1 : w9.cell? ⟨g6, 1, none⟩ = some (.int .i64 qq) := by simp [World.cell?, k9]
      have v2 : w9.cell? ⟨g6, 2, none⟩ = some (.slice a' m' c') := by simp [World.cell?, k9]
      have v3 : w9.cell? ⟨g6, 3, none⟩ = some (.slice ta tn tc) := by simp [World.cell?, k9]
      have HFIN : Hid (∀ ok : Bool, (ok = true → hf ≤ cnt n f) → Hid (AskR w w9 H abk ao n hf K G VS Ps (rr, qq) V L ok a' m' c')) := FIN
      clear k6 k9 FIN
      by_cases hge : (hf : Int) ≤ (pk : Int)
      · have OK : Hid (hf ≤ cnt n f) := by rw [← HPK.out]; show hf ≤ pk; omega
        go_wp2
        rw [Hw9.out]
        refine bodyPost_ret (v := .tuple #[.agg #[.int .i64 rr, .int .i64 qq, .slice a' m' c', .slice ta tn tc], .bool true]) (by simp [results, Tryd.results19, go_sem, v0, v1, v2, v3]) rfl ?_
        first
          | exact ⟨a', m', c', true, rfl, (HFIN.out true (fun _ => OK.out)).out⟩
          | exact ⟨a', m', c', .inl ⟨rfl, (HFIN.out true (fun _ => OK.out)).out⟩⟩
          | exact ⟨a', m', c', .inr ⟨rfl, (HFIN.out true (fun _ => OK.out)).out⟩⟩
      · go_wp2
        rw [Hw9.out]
        refine bodyPost_ret (v := .tuple #[.agg #[.int .i64 rr, .int .i64 qq, .slice a' m' c', .slice ta tn tc], .bool false]) (by simp [results, Tryd.results19, go_sem, v0, v1, v2, v3]) rfl ?_
        first
          | exact ⟨a', m', c', false, rfl, (HFIN.out false (fun e => by cases e)).out⟩
          | exact ⟨a', m', c', .inl ⟨rfl, (HFIN.out false (fun e => by cases e)).out⟩⟩
          | exact ⟨a', m', c', .inr ⟨rfl, (HFIN.out false (fun e => by cases e)).out⟩⟩
end Go.Proofs.YtdfnjcjpblkmcaaDoor
