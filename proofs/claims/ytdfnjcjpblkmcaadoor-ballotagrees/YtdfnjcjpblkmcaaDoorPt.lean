/- BallotAgrees: the walk. -/
import Derived.Test.YtdfnjcjpblkmcaaDoorPs
namespace Go.Proofs.YtdfnjcjpblkmcaaDoor
open Go.ChangeShapes Go.WideShapes Go.ChangeAt Go.RowKit
set_option maxRecDepth 20000
set_option linter.unusedVariables false
set_option linter.unusedSimpArgs false
theorem pick7 (x : Int) : ∃ (t : Int) (r : Nat), x.tmod 7 = t ∧ -7 < t ∧ t < 7 ∧ (t + 7).tmod 7 = (r : Int) ∧ r < 7 := by
  have h := pickn x 7 (by omega)
  simpa using h
theorem Rds.cut {w : World} {a : Option Addr} {n k : Nat} {L : List Rt} (h : Rds w a n L) (hk : k ≤ n) : Rds w a k (L.take k) := by
  have hl := h.len
  refine ⟨by rw [List.length_take]; omega, ?_⟩
  rcases h.row with h0 | ⟨b, o, h1, h2⟩
  · exact .inl (by omega)
  · refine .inr ⟨b, o, h1, fun i hi => ?_⟩
    have hi2 : i < L.length := by rw [List.length_take] at hi; omega
    rw [List.getElem_take]
    exact h2 i hi2
theorem Mk.zero {w w1 w2 : World} {B g0 : Nat} (hb : Below B w w1) (hB : B ≤ w1.heap.size) (hg : w1.heap.size = g0) (hw : w1.alloc (.cells #[] 25) = w2) : Mk w w2 B 0 (some ⟨g0, 0, none⟩) 0 (fun _ => 0) := by
  have k : w2.heap[g0]? = some (.cells #[] 25 (0, 0)) := by rw [← hw, ← hg]; exact heap_alloc_new w1 _
  have b : Below w1.heap.size w1 w2 := by rw [← hw]; exact alloc1 w1 _
  exact ⟨⟨rfl, .inr ⟨g0, 0, #[], rfl, by omega, k, Nat.le_refl _, Nat.zero_le _, rfl, rfl⟩⟩, (fun i hi => by omega), (fun i k hi => by omega), (fun i hi => by omega), hb.trans (b.mono hB)⟩
set_option maxHeartbeats 8000000 in
theorem agrees_n {M : Nat} {E : Nat → Addr} {w : World} (x : Int) {ra : Option Addr} {rn rc : Nat} {L : List Rt} (hE : Hid (Sent w M E)) (hM : 2 ≤ M) (hR : Hid (Rds w ra rn L)) (hrc : rn ≤ rc) (hrn : rn ≤ 140737488351232) :
    Calls Tryd.prog 6 #[.int .i64 x, .slice ra rn rc] w fun e w' => e = .returned (.bool true) ∧ Hid (Below w.heap.size w w') := by
  obtain ⟨t, kk, m1, t1, t2, m2, hkk⟩ := pick7 x
  obtain ⟨n, Hn, n0, n7⟩ : ∃ n : Nat, Hid ((kk : Int) + 1 = n) ∧ 0 < n ∧ n ≤ 7 := ⟨kk + 1, (by show (kk : Int) + 1 = ((kk + 1 : Nat) : Int); omega), by omega, by omega⟩
  go_enter Tryd.func6, Tryd.ntmps6
  go_upto_region 3 with (go_at_call 8; refine (alive_n hE hM).mono ?_; rintro e w1 ⟨rfl, H1⟩)
  go_upto_region 4 with (fail)
  rw [Hn.out]
  clear m1 m2 t1 t2 hkk Hn
  by_cases hc : rn ≤ 200
  case' pos =>
    have h3 : ¬ ((200 : Int) < (rn : Int)) := by omega
    go_upto_region 6 with (fail)
    obtain ⟨m, Hm⟩ : ∃ m : Nat, Hid (rn = m) := ⟨_, rfl⟩
    obtain ⟨LL, HL⟩ : ∃ LL, Hid (L = LL) := ⟨_, rfl⟩
    obtain ⟨rx, Hrx⟩ : ∃ rx, Hid (ra = rx) := ⟨_, rfl⟩
    have RD : Hid (Rds w rx m LL) := by rw [← Hm.out, ← HL.out, ← Hrx.out]; exact hR.out
    have m2 : m ≤ 200 := by rw [← Hm.out]; exact hc
    rw [Hm.out, Hrx.out]
    clear Hrx h3 hc hrc hrn hR Hm HL
  case' neg =>
    have h3 : (200 : Int) < (rn : Int) := by omega
    obtain ⟨rb, ro, rfl, hrow⟩ := hR.out.row.resolve_left (by omega)
    go_upto_region 6 with (fail)
    obtain ⟨m, Hm⟩ : ∃ m : Nat, Hid ((200 : Nat) = m) := ⟨_, rfl⟩
    obtain ⟨LL, HL⟩ : ∃ LL, Hid (L.take 200 = LL) := ⟨_, rfl⟩
    obtain ⟨rx, Hrx⟩ : ∃ rx, Hid (some (⟨rb, ro, none⟩ : Addr) = rx) := ⟨_, rfl⟩
    have RD : Hid (Rds w rx m LL) := by rw [← Hm.out, ← HL.out, ← Hrx.out]; exact hR.out.cut (by omega)
    have m2 : m ≤ 200 := by rw [← Hm.out]; omega
    rw [Hm.out, Hrx.out]
    clear Hrx h3 hc hrc hrn hR Hm HL hrow
  all_goals
    obtain ⟨B, HB⟩ : ∃ B, Hid (w.heap.size = B) := ⟨_, rfl⟩
    have HE : Hid (∀ w', Below B w w' → Sent w' M E) := fun w' hb => hE.out.below (by rw [HB.out]; exact hb)
    obtain ⟨g0, Hg0⟩ : ∃ g0, Hid (w1.heap.size = g0) := ⟨_, rfl⟩
    obtain ⟨w2, Hw2⟩ : ∃ w2, Hid (w1.alloc (.cells #[] 25) = w2) := ⟨_, rfl⟩
    have MK0 : Hid (Mk w w2 B 0 (some ⟨g0, 0, none⟩) 0 (fun _ => 0)) := Mk.zero (by rw [← HB.out]; exact H1.out) (by rw [← HB.out]; exact H1.out.size) Hg0.out Hw2.out
    have RB : Hid (∀ wr, Below B w wr → B ≤ wr.heap.size) := fun wr hb => by rw [← HB.out]; exact hb.size
    have RX : Hid (∀ (i : Nat), i < m → ∃ rb ro, rx = some ⟨rb, ro, none⟩ ∧ ∃ y : Rt, ∀ wr, Below B w wr → (wr.cell? ⟨rb, ro + i * 6, none⟩ = some (.int .i64 y.r) ∧ wr.cell? ⟨rb, ro + i * 6 + 1, none⟩ = some (.int .i64 y.n) ∧ wr.cell? ⟨rb, ro + i * 6 + 2, none⟩ = some (.slice y.aa y.an y.ac) ∧ wr.cell? ⟨rb, ro + i * 6 + 3, none⟩ = some (.slice y.ta y.tn y.tc) ∧ wr.cell? ⟨rb, ro + i * 6 + 4, none⟩ = some (.int .i64 y.tag) ∧ wr.cell? ⟨rb, ro + i * 6 + 5, none⟩ = some (.bool y.late)) ∧ Irow wr 0 y.aa y.an y.A ∧ Irow wr 0 y.ta y.tn y.T ∧ (∀ j, I64 (y.A.getD j 0)) ∧ (∀ j, I64 (y.T.getD j 0))) := fun i hi => by
      obtain ⟨rb, ro, e, hrow⟩ := RD.out.row.resolve_left (by omega)
      have iL : i < LL.length := by rw [← RD.out.len]; exact hi
      refine ⟨rb, ro, e, LL[i], fun wr hb => ?_⟩
      have h := hrow i iL
      have hb' : Below w.heap.size w wr := by rw [HB.out]; exact hb
      exact ⟨h.below hb', h.a.bel hb', h.t.bel hb', h.ai, h.ti⟩
    clear RD hE
    clear H1
    go_upto_region 7 with (fail)
    rw [Hw2.out, Hg0.out]
    go_wp2
    clear Hw2 Hg0
    go_loopw [5, 6] (fun t5 t6 wr => ∃ (j : Nat) (aa : Option Addr) (cp : Nat), j ≤ n ∧ t6 = .int .i64 j ∧ t5 = .slice aa j cp ∧ Hid (∃ G, Mk w wr B j aa cp G)) (fun _ t6 _ => n - (intOf t6).toNat)
    case atStart => exact ⟨0, _, 0, by omega, rfl, rfl, _, MK0.out⟩
    case round =>
      obtain ⟨j, aa, cp, hj, rfl, rfl, HM0⟩ := hrel
      obtain ⟨G, HM1⟩ := HM0.out
      have HMk : Hid (Mk w wr B j aa cp G) := HM1
      have BR : Hid (B ≤ wr.heap.size) := RB.out wr HM1.bel
      clear HM1 HM0 MK0
      by_cases hlt : j < n
      · have i3 : (j : Int) < (n : Int) := by omega
        have nd : nod (j : Int) = true := decide_eq_true (by omega)
        go_upto_region 11 with (go_at_call 9; refine (new_ok (j : Int) nd).mono ?_; rintro e w3 ⟨rfl, H3⟩)
        clear nd
        go_upto_region 13 with (fail)
        obtain ⟨g3, Hg3⟩ : ∃ g3, Hid (wr.heap.size = g3) := ⟨_, rfl⟩
        rw [Hg3.out]
        obtain ⟨w4, Hw4⟩ : ∃ w4, Hid (w3.alloc (.cells #[.pointer (some ⟨g3, 0, none⟩)] 25) = w4) := ⟨_, rfl⟩
        obtain ⟨g4, Hg4⟩ : ∃ g4, Hid (w3.heap.size = g4) := ⟨_, rfl⟩
        obtain ⟨a', c', w5, AP, MK1⟩ : ∃ a' c' w5, Hid ((Builtin.append_ #[57, 57] 57 #[.slice aa j cp, .slice (some ⟨g4, 0, none⟩) 1 1]).run Tryd.prog w4 = .ok (.slice a' (j + 1) c') w5) ∧ Hid (∃ G, Mk w w5 B (j + 1) a' c' G) := by
          have b3 : Below wr.heap.size wr w3 := by rw [H3.out]; exact alloc1 wr _
          have b4 : Below w3.heap.size w3 w4 := by rw [← Hw4.out]; exact alloc1 w3 _
          have k4 : w4.heap[g4]? = some (.cells #[.pointer (some ⟨g3, 0, none⟩)] 25 (0, 0)) := by rw [← Hw4.out, ← Hg4.out]; exact heap_alloc_new w3 _
          have m4 := HMk.out.below (b3.trans (b4.mono b3.size)) BR.out
          obtain ⟨a', c', w5, r1, r2, r3, r4⟩ := app_one (t := 57) Tryd.underlying57 info25 rfl (by decide) m4.own (p := g4) (cs := [.pointer (some ⟨g3, 0, none⟩)]) k4 rfl (fun u hu => by obtain rfl := List.mem_singleton.1 hu; rfl) (by omega) (by simp only [maxLen]; omega) (Nat.le_trans BR.out (Nat.le_trans b3.size b4.size))
          exact ⟨a', c', w5, r1, _, HMk.out.more (p := 0) BR.out H3.out b4 (by rw [Hg3.out]; exact r2) r3⟩
        go_wp2_with (at_builtin; rw [Hw4.out, Hg4.out]; refine wpList_app (by rfl) (.tmp 53) (.tmp 55) (by rfl) (by rfl) (by rfl) (by rfl) AP ?_)
        go_roundw
        case rel => exact ⟨j + 1, a', c', by omega, by go_num, rfl, MK1.out⟩
        case measure => simp [intOf]; omega
      · obtain rfl : j = n := by omega
        clear hlt hj
        obtain ⟨hf, Hhf, hf1, hf2, hf3⟩ : ∃ hf : Nat, Hid ((j : Int) / 2 + 1 = hf) ∧ j < hf + hf ∧ 0 < hf ∧ hf ≤ 100 := ⟨j / 2 + 1, (by show (j : Int) / 2 + 1 = ((j / 2 + 1 : Nat) : Int); omega), by omega, by omega, by omega⟩
        go_upto_region 15 with (go_at_call 13; refine (half_n (n := (j : Int)) (by omega) (by omega) _).mono ?_; rintro e w6 ⟨rfl, h0⟩; rw [h0]; clear h0)
        rw [Hhf.out]
        clear Hhf
        obtain ⟨gg, Hgg⟩ : ∃ gg, Hid (wr.heap.size = gg) := ⟨_, rfl⟩
        obtain ⟨gw, Hgw⟩ : ∃ gw, Hid (wr.heap.size + 1 = gw) := ⟨_, rfl⟩
        obtain ⟨gu, Hgu⟩ : ∃ gu, Hid (wr.heap.size + 2 = gu) := ⟨_, rfl⟩
        obtain ⟨w6, Hw6⟩ : ∃ w6, Hid (((wr.alloc (.cells #[.slice none 0 0, .slice none 0 0, .slice none 0 0] 63)).alloc (.cells #[] 68)).alloc (.cells #[] 34) = w6) := ⟨_, rfl⟩
        obtain ⟨ab, eab, MN0⟩ : ∃ ab, aa = some ⟨ab, 0, none⟩ ∧ Hid (St w w6 B gg ab j hf 0 0 G (some ⟨gu, 0, none⟩) 0 0 (some ⟨gw, 0, none⟩) 0) := by
          obtain ⟨ab, h1, h2⟩ := Mn.start (hf := hf) HMk.out n0 BR.out Hw6.out
          rw [Hgu.out, Hgg.out] at h2
          exact ⟨ab, h1, _, _, _, _, _, _, _, _, _, _, _, _, h2, .inl rfl⟩
        subst eab
        go_upto_region 18 with (fail)
        rw [Hw6.out, Hgu.out, Hgw.out, Hgg.out]
        clear Hw6 Hgu Hgw HMk BR
        go_wp2
        clear Hgg
        go_loopw [11, 12, 65] (fun t11 t12 t65 wr => ∃ (i : Nat) (wt : Option Addr) (wn wc : Nat) (ua : Option Addr) (un uc : Nat), i ≤ m ∧ t65 = .int .i64 i ∧ t11 = .slice wt wn wc ∧ t12 = .slice ua un uc ∧ un ≤ i ∧ Hid (St w wr B gg ab j hf i (i * 2) G ua un uc wt wn)) (fun _ _ t65 _ => m - (intOf t65).toNat)
        case atStart => exact ⟨0, _, _, _, _, _, _, by omega, rfl, rfl, rfl, Nat.le_refl _, MN0.out⟩
        case round =>
          obtain ⟨i, wt, wn, wc, ua, un, uc, hi, rfl, rfl, rfl, hun, HS0⟩ := hrel
          obtain ⟨Ps, U, S, V, L1, ba, la, ca, bc, lc, cc, N, HM0, HW0⟩ := HS0.out
          have HMn : Hid (Mn w wr B gg gg ab j hf i (i * 2) G Ps U ua un uc S V L1 ba la ca bc lc cc N) := HM0
          have HWn : Hid (Wn w wr B j Ps V wt wn) := HW0
          clear HM0 HW0 HS0 MN0
          by_cases hlt : i < m
          · have i3 : (i : Int) < (m : Int) := by omega
            obtain ⟨rb, ro, era, y, HY⟩ := RX.out i hlt
            subst era
            have HYr := HY wr HMn.out.bel
            obtain ⟨⟨q0, q1, q2, q3, q4, q5⟩, _, _, _, _⟩ := HYr
            have YA : Hid (∀ w', Below B w w' → Irow w' 0 y.aa y.an y.A) := fun w' hb => (HY w' hb).2.1
            have YT : Hid (∀ w', Below B w w' → Irow w' 0 y.ta y.tn y.T) := fun w' hb => (HY w' hb).2.2.1
            have YAI : Hid (∀ k, I64 (y.A.getD k 0)) := (HY wr HMn.out.bel).2.2.2.1
            have YTI : Hid (∀ k, I64 (y.T.getD k 0)) := (HY wr HMn.out.bel).2.2.2.2
            clear HY
            obtain ⟨yr, yn, yaa, yan, yac, yA, yta, ytn, ytc, yT, ytag, late⟩ := y
            simp only at q0 q1 q2 q3 q4 q5 YA YT YAI YTI
            obtain ⟨wo, Hwo⟩ : ∃ wo, Hid (wr.alloc (.cells #[.int .i64 yr, .int .i64 yn, .slice yaa yan yac, .slice yta ytn ytc, .int .i64 ytag, .bool late] 66) = wo) := ⟨_, rfl⟩
            obtain ⟨g14, Hg14⟩ : ∃ g14, Hid (wr.heap.size = g14) := ⟨_, rfl⟩
            have Bo : Hid (Below wr.heap.size wr wo) := by rw [← Hwo.out]; exact alloc1 wr _
            have ko : Hid (wo.heap[g14]? = some (.cells #[.int .i64 yr, .int .i64 yn, .slice yaa yan yac, .slice yta ytn ytc, .int .i64 ytag, .bool late] 66 (0, 0))) := by rw [← Hwo.out, ← Hg14.out]; exact heap_alloc_new wr _
            have MNo : Hid (Mn w wo B gg gg ab j hf i (i * 2) G Ps U ua un uc S V L1 ba la ca bc lc cc N) := HMn.out.below Bo.out
            have WNo : Hid (Wn w wo B j Ps V wt wn) := HWn.out.keep (Kp.below Bo.out) (fun p hp => hp) (fun _ _ _ => rfl)
            have UL : Hid (U.length = un) := HMn.out.ulen
            clear HMn HWn
            go_upto_region 21 with (fail)
            rw [Hwo.out, Hg14.out]
            clear q0 q1 q2 q3 q4 q5 Hwo
            go_wp2
            clear Hg14
            go_loopw [15, 71] (fun t15 t71 ws => ∃ (k : Nat), k ≤ un ∧ t71 = .int .i64 k ∧ t15 = .bool (agn U (yr, yn) k) ∧ Hid (Below wo.heap.size wo ws)) (fun _ t71 _ => un - (intOf t71).toNat)
            case atStart => exact ⟨0, by omega, rfl, by rw [agn_zero], Below.refl _ _⟩
            case round =>
              obtain ⟨k, hk, rfl, rfl, HBs⟩ := hrel
              have kos : Hid (wr.heap[g14]? = some (.cells #[.int .i64 yr, .int .i64 yn, .slice yaa yan yac, .slice yta ytn ytc, .int .i64 ytag, .bool late] 66 (0, 0))) := (HBs.out.block g14 (Array.getElem?_eq_some_iff.1 ko.out).1).trans ko.out
              have p0 : wr.cell? ⟨g14, 0, none⟩ = some (.int .i64 yr) := by simp [World.cell?, kos.out]
              have p1 : wr.cell? ⟨g14, 1, none⟩ = some (.int .i64 yn) := by simp [World.cell?, kos.out]
              by_cases hlk : k < un
              · have k3 : (k : Int) < (un : Int) := by omega
                have kU : k < U.length := by rw [UL.out]; exact hlk
                have AS : Hid (agn U (yr, yn) (k + 1) = (agn U (yr, yn) k || decide (U[k] = (yr, yn)))) := agn_succ kU
                obtain ⟨ub, uo, eua, _, c0, c1⟩ := MNo.out.uat kU
                have d0 := (World.cell?_of_block (w := wo) (w' := wr) (a := ⟨ub, uo + k * 2, none⟩) (HBs.out.block ub (cell_lt c0))).trans c0
                have d1 := (World.cell?_of_block (w := wo) (w' := wr) (a := ⟨ub, uo + k * 2 + 1, none⟩) (HBs.out.block ub (cell_lt c1))).trans c1
                obtain ⟨u1, u2, Hu⟩ : ∃ u1 u2, Hid (U[k] = (u1, u2)) := ⟨U[k].1, U[k].2, rfl⟩
                rw [Hu.out] at d0 d1 AS
                clear c0 c1
                subst eua
                obtain ⟨gs, Hgs⟩ : ∃ gs, Hid (wr.heap.size = gs) := ⟨_, rfl⟩
                obtain ⟨ws, Hws⟩ : ∃ ws, Hid (wr.alloc (.cells #[.int .i64 u1, .int .i64 u2] 34) = ws) := ⟨_, rfl⟩
                have Bs : Hid (Below wo.heap.size wo ws) := by rw [← Hws.out]; exact HBs.out.trans ((alloc1 wr _).mono HBs.out.size)
                have ks : ws.heap[gs]? = some (.cells #[.int .i64 u1, .int .i64 u2] 34 (0, 0)) := by rw [← Hws.out, ← Hgs.out]; exact heap_alloc_new wr _
                have s0' : ws.cell? ⟨gs, 0, none⟩ = some (.int .i64 u1) := by simp [World.cell?, ks]
                have s1' : ws.cell? ⟨gs, 1, none⟩ = some (.int .i64 u2) := by simp [World.cell?, ks]
                have kws : ws.heap[g14]? = some (.cells #[.int .i64 yr, .int .i64 yn, .slice yaa yan yac, .slice yta ytn ytc, .int .i64 ytag, .bool late] 66 (0, 0)) := (Bs.out.block g14 (Array.getElem?_eq_some_iff.1 ko.out).1).trans ko.out
                have v0 : ws.cell? ⟨g14, 0, none⟩ = some (.int .i64 yr) := by simp [World.cell?, kws]
                have v1 : ws.cell? ⟨g14, 1, none⟩ = some (.int .i64 yn) := by simp [World.cell?, kws]
                clear ks kws p0 p1
                go_upto_region 25 with (fail)
                rw [Hws.out, Hgs.out]
                clear d0 d1 Hws Hgs
                clear Hu
                rcases Bool.eq_false_or_eq_true (agn U (yr, yn) k) with hag | hag
                · have AG : Hid (agn U (yr, yn) k = true) := hag
                  clear hag
                  rw [AG.out]
                  go_wp2
                  go_roundw
                  case rel => exact ⟨k + 1, by omega, by go_num, by rw [AS.out, AG.out]; rfl, Bs.out⟩
                  case measure => simp [intOf]; omega
                · have AG : Hid (agn U (yr, yn) k = false) := hag
                  clear hag
                  rw [AG.out]
                  by_cases hq : u1 = yr ∧ u2 = yn
                  · have EQ : ∀ w, (Op.equalIn 10000 34 (bal u1 u2) (bal yr yn)).run Tryd.prog w = .ok true w := fun w => by rw [eqBal, decide_eq_true hq]
                    have AQ : Hid (agn U (yr, yn) (k + 1) = true) := by rw [AS.out, AG.out, hq.1, hq.2]; exact decide_eq_true rfl
                    clear hq
                    go_wp2
                    go_roundw
                    case rel => exact ⟨k + 1, by omega, by go_num, by rw [AQ.out], Bs.out⟩
                    case measure => simp [intOf]; omega
                  · have EQ : ∀ w, (Op.equalIn 10000 34 (bal u1 u2) (bal yr yn)).run Tryd.prog w = .ok false w := fun w => by rw [eqBal, decide_eq_false hq]
                    have AQ : Hid (agn U (yr, yn) (k + 1) = false) := by rw [AS.out, AG.out]; exact decide_eq_false (fun h => hq (by cases h; exact ⟨rfl, rfl⟩))
                    clear hq
                    go_wp2
                    go_roundw
                    case rel => exact ⟨k + 1, by omega, by go_num, by rw [AQ.out], Bs.out⟩
                    case measure => simp [intOf]; omega
              · obtain rfl : un = k := by omega
                have MNs : Hid (Mn w wr B gg gg ab j hf i (i * 2) G Ps U ua un uc S V L1 ba la ca bc lc cc N) := MNo.out.below HBs.out
                have WNs : Hid (Wn w wr B j Ps V wt wn) := WNo.out.keep (Kp.below HBs.out) (fun p hp => hp) (fun _ _ _ => rfl)
                clear hlk hk MNo WNo ko
                rcases Bool.eq_false_or_eq_true (agn U (yr, yn) un) with hag | hag
                · rw [hag]
                  clear hag
                  go_wp2
                  go_roundw
                  case rel => exact ⟨i + 1, wt, wn, wc, ua, un, uc, by omega, by go_num, rfl, rfl, by omega, _, _, _, _, _, _, _, _, _, _, _, _, MNs.out.mono (by omega) (by omega), WNs.out⟩
                  case measure => simp [intOf]; omega
                · have nU : Hid ((yr, yn) ∉ U) := fun h => by
                    unfold agn at hag
                    rw [List.take_of_length_le (by rw [UL.out]; exact Nat.le_refl _)] at hag
                    exact of_decide_eq_false hag h
                  have fr : Hid (∀ u, ((yr, yn), u) ∉ Ps) := fun u hu => nU.out (MNs.out.pu _ _ hu)
                  rw [hag]
                  clear hag
                  obtain ⟨g7, Hg7⟩ : ∃ g7, Hid (wr.heap.size = g7) := ⟨_, rfl⟩
                  obtain ⟨w7, Hw7⟩ : ∃ w7, Hid (wr.alloc (.cells #[.int .i64 yr, .int .i64 yn] 34) = w7) := ⟨_, rfl⟩
                  obtain ⟨a', c', w8, AP, MN8, KP8⟩ : ∃ a' c' w8, Hid ((Builtin.append_ #[59, 59] 59 #[.slice ua un uc, .slice (some ⟨g7, 0, none⟩) 1 1]).run Tryd.prog w7 = .ok (.slice a' (un + 1) c') w8) ∧ Hid (Mn w w8 B gg gg ab j hf i (i * 2) G Ps (U ++ [(yr, yn)]) a' (un + 1) c' S V L1 ba la ca bc lc cc N) ∧ Hid (Kp wr w8) := by
                    have b7 : Below wr.heap.size wr w7 := by rw [← Hw7.out]; exact alloc1 wr _
                    have k7 : w7.heap[g7]? = some (.cells #[.int .i64 yr, .int .i64 yn] 34 (0, 0)) := by rw [← Hw7.out, ← Hg7.out]; exact heap_alloc_new wr _
                    have m7 := MNs.out.below b7
                    obtain ⟨a', c', w8, r1, r2, r3, r4⟩ := app_one (t := 59) Tryd.underlying59 info34 rfl (by decide) m7.us (p := g7) (cs := [.int .i64 yr, .int .i64 yn]) k7 rfl (fun u hu => by rcases List.mem_cons.1 hu with rfl | hu; exact rfl; obtain rfl := List.mem_singleton.1 hu; rfl) (by omega) (by simp only [maxLen]; omega) m7.hB
                    obtain ⟨h1, h2⟩ := m7.used r2 r3 r4
                    exact ⟨a', c', w8, r1, h1, (Kp.below b7).trans h2⟩
                  have WN8 : Hid (Wn w w8 B j Ps V wt wn) := WNs.out.keep KP8.out (fun p hp => hp) (fun _ _ _ => rfl)
                  have ko8 : Hid (w8.heap[g14]? = some (.cells #[.int .i64 yr, .int .i64 yn, .slice yaa yan yac, .slice yta ytn ytc, .int .i64 ytag, .bool late] 66 (0, 0))) := KP8.out.k66 _ _ _ kos.out
                  clear MNs WNs KP8 kos HBs UL
                  go_upto_region 29 with (at_builtin; rw [Hw7.out, Hg7.out]; refine wpList_app (by rfl) (.tmp 84) (.tmp 87) (by rfl) (by rfl) (by rfl) (by rfl) AP ?_)
                  clear AP Hw7 Hg7 p0 p1
                  obtain ⟨un', Hun⟩ : ∃ un', Hid (un + 1 = un') := ⟨_, rfl⟩
                  rw [Hun.out] at MN8 ⊢
                  have hun' : un' ≤ i + 1 := by rw [← Hun.out]; omega
                  clear Hun hun
                  have z0 : w8.cell? ⟨g14, 0, none⟩ = some (.int .i64 yr) := by simp [World.cell?, ko8.out]
                  have z1 : w8.cell? ⟨g14, 1, none⟩ = some (.int .i64 yn) := by simp [World.cell?, ko8.out]
                  have z2 : w8.cell? ⟨g14, 2, none⟩ = some (.slice yaa yan yac) := by simp [World.cell?, ko8.out]
                  have z3 : w8.cell? ⟨g14, 3, none⟩ = some (.slice yta ytn ytc) := by simp [World.cell?, ko8.out]
                  have z4 : w8.cell? ⟨g14, 4, none⟩ = some (.int .i64 ytag) := by simp [World.cell?, ko8.out]
                  have z5 : w8.cell? ⟨g14, 5, none⟩ = some (.bool late) := by simp [World.cell?, ko8.out]
                  have inU : Hid ((yr, yn) ∈ U ++ [(yr, yn)]) := List.mem_append_right _ (List.mem_singleton.2 rfl)
                  go_upto_region 30 with (go_at_call 19; refine (Mn.ask MN8 inU fr YA YAI HE hM n0 n7 hf2 hf3 (by omega)).mono ?_; rintro e w9 ⟨a9, m9, c9, ok, rfl, H9⟩)
                  clear z0 z1 z2 z3 z4 z5 inU
                  obtain ⟨g18, Hg18⟩ : ∃ g18, Hid (w9.heap.size = g18) := ⟨_, rfl⟩
                  obtain ⟨w10, Hw10⟩ : ∃ w10, Hid (w9.alloc (.cells #[.int .i64 yr, .int .i64 yn, .slice a9 m9 c9, .slice yta ytn ytc] 68) = w10) := ⟨_, rfl⟩
                  obtain ⟨S9, X9, Ps9, PS9, LG10, OK9, VF, MN10, WN10, ko10, k18⟩ : ∃ S9 X9 Ps9, Hid (∀ p ∈ Ps, p ∈ Ps9) ∧ Hid (Lg w10 a9 m9 c9 X9) ∧ Hid (ok = true → ((yr, yn), led X9) ∈ Ps9) ∧ Hid (∀ z, z < j → V z (yr, yn) = false) ∧ Hid (Mn w w10 B gg gg ab j hf (i + 1) (i * 2) G Ps9 (U ++ [(yr, yn)]) a' un' c' S9 V L1 ba la ca bc lc cc N) ∧ Hid (Wn w w10 B j Ps V wt wn) ∧ Hid (w10.heap[g14]? = some (.cells #[.int .i64 yr, .int .i64 yn, .slice yaa yan yac, .slice yta ytn ytc, .int .i64 ytag, .bool late] 66 (0, 0))) ∧ Hid (w10.heap[g18]? = some (.cells #[.int .i64 yr, .int .i64 yn, .slice a9 m9 c9, .slice yta ytn ytc] 68 (0, 0))) := by
                    obtain ⟨k1, S9, X9, k2, Ps9, k3, k4, k5, k6⟩ := H9.out
                    have b10 : Below w9.heap.size w9 w10 := by rw [← Hw10.out]; exact alloc1 w9 _
                    have kk' := k1.trans (Kp.below b10)
                    exact ⟨S9, X9, Ps9, k3, k2.below b10, k4, k5, k6.below b10, WN8.out.keep kk' (fun p hp => hp) (fun _ _ _ => rfl), kk'.k66 _ _ _ ko8.out, by rw [← Hw10.out, ← Hg18.out]; exact heap_alloc_new w9 _⟩
                  rw [Hw10.out, Hg18.out]
                  clear H9 Hw10 Hg18 MN8 WN8 ko8 nU YA YAI
                  have e5 : w10.cell? ⟨g14, 5, none⟩ = some (.bool late) := by simp [World.cell?, ko10.out]
                  have p0 : w10.cell? ⟨g18, 0, none⟩ = some (.int .i64 yr) := by simp [World.cell?, k18.out]
                  have p1 : w10.cell? ⟨g18, 1, none⟩ = some (.int .i64 yn) := by simp [World.cell?, k18.out]
                  have p2 : w10.cell? ⟨g18, 2, none⟩ = some (.slice a9 m9 c9) := by simp [World.cell?, k18.out]
                  have p3 : w10.cell? ⟨g18, 3, none⟩ = some (.slice yta ytn ytc) := by simp [World.cell?, k18.out]
                  cases ok with
                  | false =>
                    go_upto_region 32 with (fail)
                    clear e5 p0 p1 p2 p3
                    obtain ⟨w11, Hw11⟩ : ∃ w11, Hid (w10 = w11) := ⟨_, rfl⟩
                    rw [Hw11.out] at MN10 WN10 ko10 k18 LG10 ⊢
                    obtain ⟨S1, V1, L2, ba1, la1, ca1, bc1, lc1, cc1, N1, MN11, WN11, VF1⟩ : ∃ S1 V1 L2 ba1 la1 ca1 bc1 lc1 cc1 N1, Hid (Mn w w11 B gg gg ab j hf (i + 1) (i * 2 + 1) G Ps9 (U ++ [(yr, yn)]) a' un' c' S1 V1 L2 ba1 la1 ca1 bc1 lc1 cc1 N1) ∧ Hid (Wn w w11 B j Ps V1 wt wn) ∧ Hid (∀ z, z < j → V1 z (yr, yn) = false) := ⟨S9, V, L1, ba, la, ca, bc, lc, cc, N, MN10.out.mono (Nat.le_refl _) (by omega), WN10.out, VF.out⟩
                    clear MN10 WN10 VF Hw11
                    have ko11 := ko10
                    have k18' := k18
                    clear ko10 k18
                    have HW : Hid (wn = 0 ∨ wn = 1) := WN11.out.imp id (fun h => h.1)
                    go_wp2
                    go_loopw [112] (fun t112 ws => ∃ (k : Nat), k ≤ wn ∧ t112 = .int .i64 k ∧ Hid (∃ S2 V2 L3 ba2 la2 ca2 bc2 lc2 cc2 N2, Mn w ws B gg gg ab j hf (i + 1) (i * 2 + 1 + k) G Ps9 (U ++ [(yr, yn)]) a' un' c' S2 V2 L3 ba2 la2 ca2 bc2 lc2 cc2 N2 ∧ Kp w11 ws ∧ (∀ z, V2 z (yr, yn) = V1 z (yr, yn)) ∧ (k = 0 → Wn w ws B j Ps V2 wt wn))) (fun t112 _ => wn - (intOf t112).toNat)
                    case atStart => exact ⟨0, by omega, rfl, S1, V1, L2, ba1, la1, ca1, bc1, lc1, cc1, N1, MN11.out, Kp.refl _, fun _ => rfl, fun _ => WN11.out⟩
                    case round =>
                      obtain ⟨k, hk, rfl, HS1⟩ := hrel
                      obtain ⟨S2, V2, L3, ba2, la2, ca2, bc2, lc2, cc2, N2, j1, j2, j3, j4⟩ := HS1.out
                      have MN2 : Hid (Mn w wr B gg gg ab j hf (i + 1) (i * 2 + 1 + k) G Ps9 (U ++ [(yr, yn)]) a' un' c' S2 V2 L3 ba2 la2 ca2 bc2 lc2 cc2 N2) := j1
                      have KP2 : Hid (Kp w11 wr) := j2
                      have VV2 : Hid (∀ z, V2 z (yr, yn) = V1 z (yr, yn)) := j3
                      have WN2 : Hid (k = 0 → Wn w wr B j Ps V2 wt wn) := j4
                      clear j1 j2 j3 j4 HS1 MN11 WN11
                      by_cases hlk : k < wn
                      · obtain ⟨wn1, wb, rr, qq, a5, m5, c5, ta5, tn5, tc5, X5, T5, ewt, PN0⟩ : wn = 1 ∧ ∃ wb rr qq a m c ta tn tc X T, wt = some ⟨wb, 0, none⟩ ∧ Pn w wr B j Ps V2 wb rr qq a m c ta tn tc X T := by
                          rcases HW.out with h | h
                          · omega
                          · have hk0 : k = 0 := by omega
                            rcases WN2.out hk0 with h2 | h2
                            · omega
                            · exact h2
                        have hk0 : Hid (k = 0) := (by omega : k = 0)
                        obtain ⟨wo5, Hwo5⟩ : ∃ wo5 : Nat, Hid ((0 : Nat) = wo5) := ⟨_, rfl⟩
                        rw [Hwo5.out] at ewt
                        have PNN : Hid (Pn w wr B j Ps V2 wb rr qq a5 m5 c5 ta5 tn5 tc5 X5 T5) := PN0
                        clear PN0
                        subst ewt
                        have k3 : (k : Int) < (wn : Int) := by omega
                        have d0 : wr.cell? ⟨wb, wo5 + k * 4, none⟩ = some (.int .i64 rr) := by rw [← Hwo5.out, hk0.out]; simp [World.cell?, PNN.out.blk]
                        have d1 : wr.cell? ⟨wb, wo5 + k * 4 + 1, none⟩ = some (.int .i64 qq) := by rw [← Hwo5.out, hk0.out]; simp [World.cell?, PNN.out.blk]
                        have d2 : wr.cell? ⟨wb, wo5 + k * 4 + 2, none⟩ = some (.slice a5 m5 c5) := by rw [← Hwo5.out, hk0.out]; simp [World.cell?, PNN.out.blk]
                        have d3 : wr.cell? ⟨wb, wo5 + k * 4 + 3, none⟩ = some (.slice ta5 tn5 tc5) := by rw [← Hwo5.out, hk0.out]; simp [World.cell?, PNN.out.blk]
                        obtain ⟨g21, Hg21⟩ : ∃ g21, Hid (wr.heap.size = g21) := ⟨_, rfl⟩
                        obtain ⟨w12, Hw12⟩ : ∃ w12, Hid (wr.alloc (.cells #[.int .i64 rr, .int .i64 qq, .slice a5 m5 c5, .slice ta5 tn5 tc5] 68) = w12) := ⟨_, rfl⟩
                        have b12 : Hid (Below wr.heap.size wr w12) := by rw [← Hw12.out]; exact alloc1 wr _
                        have k21 : w12.heap[g21]? = some (.cells #[.int .i64 rr, .int .i64 qq, .slice a5 m5 c5, .slice ta5 tn5 tc5] 68 (0, 0)) := by rw [← Hw12.out, ← Hg21.out]; exact heap_alloc_new wr _
                        have y0 : w12.cell? ⟨g21, 0, none⟩ = some (.int .i64 rr) := by simp [World.cell?, k21]
                        have y1 : w12.cell? ⟨g21, 1, none⟩ = some (.int .i64 qq) := by simp [World.cell?, k21]
                        have y2 : w12.cell? ⟨g21, 2, none⟩ = some (.slice a5 m5 c5) := by simp [World.cell?, k21]
                        have y3 : w12.cell? ⟨g21, 3, none⟩ = some (.slice ta5 tn5 tc5) := by simp [World.cell?, k21]
                        clear k21
                        have MN3 : Hid (Mn w w12 B gg gg ab j hf (i + 1) (i * 2 + 1 + k) G Ps9 (U ++ [(yr, yn)]) a' un' c' S2 V2 L3 ba2 la2 ca2 bc2 lc2 cc2 N2) := MN2.out.below b12.out
                        have LX : Hid (Lg w12 a5 m5 c5 X5) := PNN.out.lg.below b12.out
                        have PX : Hid (((rr, qq), led X5) ∈ Ps9) := PS9.out _ PNN.out.ps
                        have NX : Hid ((yr, yn) ≠ (rr, qq)) := fun e => fr.out (led X5) (by rw [e]; exact PNN.out.ps)
                        have VX : Hid (∀ z, z < j → V2 z (rr, qq) = false) := PNN.out.v
                        have TX : Hid (∀ w', Below B w w' → Irow w' 0 ta5 tn5 T5) := PNN.out.t
                        have TXI : Hid (∀ z, I64 (T5.getD z 0)) := PNN.out.ti
                        have lw : i * 2 + 1 + k ≤ 800 := by omega
                        clear MN2 PNN WN2 wn1
                        go_upto_region 35 with (fail)
                        rw [Hw12.out, Hg21.out]
                        clear d0 d1 d2 d3 Hw12 Hg21 Hwo5
                        go_wp2_with (go_at_call 20; refine (Mn.take MN3 LX PX VX TX TXI HE hM n0 n7 hf1 hf3 lw).mono ?_; rintro e w13 ⟨rfl, H13⟩)
                        go_roundw
                        case rel =>
                          obtain ⟨k1, S3, V3, L4, ba3, la3, ca3, bc3, lc3, cc3, N3, k2, k4⟩ := H13.out
                          exact ⟨k + 1, by omega, by go_num, S3, V3, L4, ba3, la3, ca3, bc3, lc3, cc3, N3, k4, (KP2.out.trans (Kp.below b12.out)).trans k1, fun z => (k2 z _ NX.out).trans (VV2.out z), fun h => by omega⟩
                        case measure => simp [intOf]; omega
                      · have kw : Hid (i * 2 + 1 + k ≤ (i + 1) * 2) := by
                          rcases HW.out with h | h <;> (show _ ≤ _; omega)
                        have e5 : wr.cell? ⟨g14, 5, none⟩ = some (.bool late) := by
                          have h := KP2.out.k66 _ _ _ ko11.out
                          simp [World.cell?, h]
                        have FIN : Hid (St w wr B gg ab j hf (i + 1) ((i + 1) * 2) G a' un' c' none 0) := ⟨_, _, _, _, _, _, _, _, _, _, _, _, MN2.out.mono (Nat.le_refl _) kw.out, .inl rfl⟩
                        go_wp2
                        go_roundw
                        case rel => exact ⟨i + 1, _, _, _, _, _, _, by omega, by go_num, rfl, rfl, by omega, FIN.out⟩
                        case measure => simp [intOf]; omega
                  | true =>
                    cases late with
                    | false =>
                      have hP : Hid (((yr, yn), led X9) ∈ Ps9) := OK9.out rfl
                      go_upto_region 32 with (go_at_call 20; refine (Mn.take MN10 LG10 hP VF YT YTI HE hM n0 n7 hf1 hf3 (by omega)).mono ?_; rintro e w11 ⟨rfl, H11⟩)
                      clear e5 p0 p1 p2 p3
                      obtain ⟨S1, V1, L2, ba1, la1, ca1, bc1, lc1, cc1, N1, MN11, WN11, ko11, k18'⟩ : ∃ S1 V1 L2 ba1 la1 ca1 bc1 lc1 cc1 N1, Hid (Mn w w11 B gg gg ab j hf (i + 1) (i * 2 + 1) G Ps9 (U ++ [(yr, yn)]) a' un' c' S1 V1 L2 ba1 la1 ca1 bc1 lc1 cc1 N1) ∧ Hid (Wn w w11 B j Ps V1 wt wn) ∧ Hid (w11.heap[g14]? = some (.cells #[.int .i64 yr, .int .i64 yn, .slice yaa yan yac, .slice yta ytn ytc, .int .i64 ytag, .bool false] 66 (0, 0))) ∧ Hid (w11.heap[g18]? = some (.cells #[.int .i64 yr, .int .i64 yn, .slice a9 m9 c9, .slice yta ytn ytc] 68 (0, 0))) := by
                        obtain ⟨k1, S1, V1, L2, ba1, la1, ca1, bc1, lc1, cc1, N1, k2, k3⟩ := H11.out
                        exact ⟨S1, V1, L2, ba1, la1, ca1, bc1, lc1, cc1, N1, k3, WN10.out.keep k1 (fun p hp => hp) (fun b ⟨v, hv⟩ z => k2 z b (fun e => fr.out v (e ▸ hv))), k1.k66 _ _ _ ko10.out, k1.k68 _ _ _ k18.out⟩
                      clear H11 hP
                      clear MN10 WN10 ko10 k18 LG10 VF
                      have HW : Hid (wn = 0 ∨ wn = 1) := WN11.out.imp id (fun h => h.1)
                      go_wp2
                      go_loopw [112] (fun t112 ws => ∃ (k : Nat), k ≤ wn ∧ t112 = .int .i64 k ∧ Hid (∃ S2 V2 L3 ba2 la2 ca2 bc2 lc2 cc2 N2, Mn w ws B gg gg ab j hf (i + 1) (i * 2 + 1 + k) G Ps9 (U ++ [(yr, yn)]) a' un' c' S2 V2 L3 ba2 la2 ca2 bc2 lc2 cc2 N2 ∧ Kp w11 ws ∧ (∀ z, V2 z (yr, yn) = V1 z (yr, yn)) ∧ (k = 0 → Wn w ws B j Ps V2 wt wn))) (fun t112 _ => wn - (intOf t112).toNat)
                      case atStart => exact ⟨0, by omega, rfl, S1, V1, L2, ba1, la1, ca1, bc1, lc1, cc1, N1, MN11.out, Kp.refl _, fun _ => rfl, fun _ => WN11.out⟩
                      case round =>
                        obtain ⟨k, hk, rfl, HS1⟩ := hrel
                        obtain ⟨S2, V2, L3, ba2, la2, ca2, bc2, lc2, cc2, N2, j1, j2, j3, j4⟩ := HS1.out
                        have MN2 : Hid (Mn w wr B gg gg ab j hf (i + 1) (i * 2 + 1 + k) G Ps9 (U ++ [(yr, yn)]) a' un' c' S2 V2 L3 ba2 la2 ca2 bc2 lc2 cc2 N2) := j1
                        have KP2 : Hid (Kp w11 wr) := j2
                        have VV2 : Hid (∀ z, V2 z (yr, yn) = V1 z (yr, yn)) := j3
                        have WN2 : Hid (k = 0 → Wn w wr B j Ps V2 wt wn) := j4
                        clear j1 j2 j3 j4 HS1 MN11 WN11
                        by_cases hlk : k < wn
                        · obtain ⟨wn1, wb, rr, qq, a5, m5, c5, ta5, tn5, tc5, X5, T5, ewt, PN0⟩ : wn = 1 ∧ ∃ wb rr qq a m c ta tn tc X T, wt = some ⟨wb, 0, none⟩ ∧ Pn w wr B j Ps V2 wb rr qq a m c ta tn tc X T := by
                            rcases HW.out with h | h
                            · omega
                            · have hk0 : k = 0 := by omega
                              rcases WN2.out hk0 with h2 | h2
                              · omega
                              · exact h2
                          have hk0 : Hid (k = 0) := (by omega : k = 0)
                          obtain ⟨wo5, Hwo5⟩ : ∃ wo5 : Nat, Hid ((0 : Nat) = wo5) := ⟨_, rfl⟩
                          rw [Hwo5.out] at ewt
                          have PNN : Hid (Pn w wr B j Ps V2 wb rr qq a5 m5 c5 ta5 tn5 tc5 X5 T5) := PN0
                          clear PN0
                          subst ewt
                          have k3 : (k : Int) < (wn : Int) := by omega
                          have d0 : wr.cell? ⟨wb, wo5 + k * 4, none⟩ = some (.int .i64 rr) := by rw [← Hwo5.out, hk0.out]; simp [World.cell?, PNN.out.blk]
                          have d1 : wr.cell? ⟨wb, wo5 + k * 4 + 1, none⟩ = some (.int .i64 qq) := by rw [← Hwo5.out, hk0.out]; simp [World.cell?, PNN.out.blk]
                          have d2 : wr.cell? ⟨wb, wo5 + k * 4 + 2, none⟩ = some (.slice a5 m5 c5) := by rw [← Hwo5.out, hk0.out]; simp [World.cell?, PNN.out.blk]
                          have d3 : wr.cell? ⟨wb, wo5 + k * 4 + 3, none⟩ = some (.slice ta5 tn5 tc5) := by rw [← Hwo5.out, hk0.out]; simp [World.cell?, PNN.out.blk]
                          obtain ⟨g21, Hg21⟩ : ∃ g21, Hid (wr.heap.size = g21) := ⟨_, rfl⟩
                          obtain ⟨w12, Hw12⟩ : ∃ w12, Hid (wr.alloc (.cells #[.int .i64 rr, .int .i64 qq, .slice a5 m5 c5, .slice ta5 tn5 tc5] 68) = w12) := ⟨_, rfl⟩
                          have b12 : Hid (Below wr.heap.size wr w12) := by rw [← Hw12.out]; exact alloc1 wr _
                          have k21 : w12.heap[g21]? = some (.cells #[.int .i64 rr, .int .i64 qq, .slice a5 m5 c5, .slice ta5 tn5 tc5] 68 (0, 0)) := by rw [← Hw12.out, ← Hg21.out]; exact heap_alloc_new wr _
                          have y0 : w12.cell? ⟨g21, 0, none⟩ = some (.int .i64 rr) := by simp [World.cell?, k21]
                          have y1 : w12.cell? ⟨g21, 1, none⟩ = some (.int .i64 qq) := by simp [World.cell?, k21]
                          have y2 : w12.cell? ⟨g21, 2, none⟩ = some (.slice a5 m5 c5) := by simp [World.cell?, k21]
                          have y3 : w12.cell? ⟨g21, 3, none⟩ = some (.slice ta5 tn5 tc5) := by simp [World.cell?, k21]
                          clear k21
                          have MN3 : Hid (Mn w w12 B gg gg ab j hf (i + 1) (i * 2 + 1 + k) G Ps9 (U ++ [(yr, yn)]) a' un' c' S2 V2 L3 ba2 la2 ca2 bc2 lc2 cc2 N2) := MN2.out.below b12.out
                          have LX : Hid (Lg w12 a5 m5 c5 X5) := PNN.out.lg.below b12.out
                          have PX : Hid (((rr, qq), led X5) ∈ Ps9) := PS9.out _ PNN.out.ps
                          have NX : Hid ((yr, yn) ≠ (rr, qq)) := fun e => fr.out (led X5) (by rw [e]; exact PNN.out.ps)
                          have VX : Hid (∀ z, z < j → V2 z (rr, qq) = false) := PNN.out.v
                          have TX : Hid (∀ w', Below B w w' → Irow w' 0 ta5 tn5 T5) := PNN.out.t
                          have TXI : Hid (∀ z, I64 (T5.getD z 0)) := PNN.out.ti
                          have lw : i * 2 + 1 + k ≤ 800 := by omega
                          clear MN2 PNN WN2 wn1
                          go_upto_region 35 with (fail)
                          rw [Hw12.out, Hg21.out]
                          clear d0 d1 d2 d3 Hw12 Hg21 Hwo5
                          go_wp2_with (go_at_call 20; refine (Mn.take MN3 LX PX VX TX TXI HE hM n0 n7 hf1 hf3 lw).mono ?_; rintro e w13 ⟨rfl, H13⟩)
                          go_roundw
                          case rel =>
                            obtain ⟨k1, S3, V3, L4, ba3, la3, ca3, bc3, lc3, cc3, N3, k2, k4⟩ := H13.out
                            exact ⟨k + 1, by omega, by go_num, S3, V3, L4, ba3, la3, ca3, bc3, lc3, cc3, N3, k4, (KP2.out.trans (Kp.below b12.out)).trans k1, fun z => (k2 z _ NX.out).trans (VV2.out z), fun h => by omega⟩
                          case measure => simp [intOf]; omega
                        · have kw : Hid (i * 2 + 1 + k ≤ (i + 1) * 2) := by
                            rcases HW.out with h | h <;> (show _ ≤ _; omega)
                          have e5 : wr.cell? ⟨g14, 5, none⟩ = some (.bool false) := by
                            have h := KP2.out.k66 _ _ _ ko11.out
                            simp [World.cell?, h]
                          have FIN : Hid (St w wr B gg ab j hf (i + 1) ((i + 1) * 2) G a' un' c' none 0) := ⟨_, _, _, _, _, _, _, _, _, _, _, _, MN2.out.mono (Nat.le_refl _) kw.out, .inl rfl⟩
                          go_wp2
                          go_roundw
                          case rel => exact ⟨i + 1, _, _, _, _, _, _, by omega, by go_num, rfl, rfl, by omega, FIN.out⟩
                          case measure => simp [intOf]; omega
                    | true =>
                      have hP : Hid (((yr, yn), led X9) ∈ Ps9) := OK9.out rfl
                      go_upto_region 32 with (fail)
                      clear e5 p0 p1 p2 p3
                      obtain ⟨w11, Hw11⟩ : ∃ w11, Hid (w10 = w11) := ⟨_, rfl⟩
                      rw [Hw11.out] at MN10 WN10 ko10 k18 LG10 ⊢
                      obtain ⟨S1, V1, L2, ba1, la1, ca1, bc1, lc1, cc1, N1, MN11, WN11, VF1⟩ : ∃ S1 V1 L2 ba1 la1 ca1 bc1 lc1 cc1 N1, Hid (Mn w w11 B gg gg ab j hf (i + 1) (i * 2 + 1) G Ps9 (U ++ [(yr, yn)]) a' un' c' S1 V1 L2 ba1 la1 ca1 bc1 lc1 cc1 N1) ∧ Hid (Wn w w11 B j Ps V1 wt wn) ∧ Hid (∀ z, z < j → V1 z (yr, yn) = false) := ⟨S9, V, L1, ba, la, ca, bc, lc, cc, N, MN10.out.mono (Nat.le_refl _) (by omega), WN10.out, VF.out⟩
                      clear MN10 WN10 VF Hw11
                      have ko11 := ko10
                      have k18' := k18
                      clear ko10 k18
                      have HW : Hid (wn = 0 ∨ wn = 1) := WN11.out.imp id (fun h => h.1)
                      go_wp2
                      go_loopw [112] (fun t112 ws => ∃ (k : Nat), k ≤ wn ∧ t112 = .int .i64 k ∧ Hid (∃ S2 V2 L3 ba2 la2 ca2 bc2 lc2 cc2 N2, Mn w ws B gg gg ab j hf (i + 1) (i * 2 + 1 + k) G Ps9 (U ++ [(yr, yn)]) a' un' c' S2 V2 L3 ba2 la2 ca2 bc2 lc2 cc2 N2 ∧ Kp w11 ws ∧ (∀ z, V2 z (yr, yn) = V1 z (yr, yn)) ∧ (k = 0 → Wn w ws B j Ps V2 wt wn))) (fun t112 _ => wn - (intOf t112).toNat)
                      case atStart => exact ⟨0, by omega, rfl, S1, V1, L2, ba1, la1, ca1, bc1, lc1, cc1, N1, MN11.out, Kp.refl _, fun _ => rfl, fun _ => WN11.out⟩
                      case round =>
                        obtain ⟨k, hk, rfl, HS1⟩ := hrel
                        obtain ⟨S2, V2, L3, ba2, la2, ca2, bc2, lc2, cc2, N2, j1, j2, j3, j4⟩ := HS1.out
                        have MN2 : Hid (Mn w wr B gg gg ab j hf (i + 1) (i * 2 + 1 + k) G Ps9 (U ++ [(yr, yn)]) a' un' c' S2 V2 L3 ba2 la2 ca2 bc2 lc2 cc2 N2) := j1
                        have KP2 : Hid (Kp w11 wr) := j2
                        have VV2 : Hid (∀ z, V2 z (yr, yn) = V1 z (yr, yn)) := j3
                        have WN2 : Hid (k = 0 → Wn w wr B j Ps V2 wt wn) := j4
                        clear j1 j2 j3 j4 HS1 MN11 WN11
                        by_cases hlk : k < wn
                        · obtain ⟨wn1, wb, rr, qq, a5, m5, c5, ta5, tn5, tc5, X5, T5, ewt, PN0⟩ : wn = 1 ∧ ∃ wb rr qq a m c ta tn tc X T, wt = some ⟨wb, 0, none⟩ ∧ Pn w wr B j Ps V2 wb rr qq a m c ta tn tc X T := by
                            rcases HW.out with h | h
                            · omega
                            · have hk0 : k = 0 := by omega
                              rcases WN2.out hk0 with h2 | h2
                              · omega
                              · exact h2
                          have hk0 : Hid (k = 0) := (by omega : k = 0)
                          obtain ⟨wo5, Hwo5⟩ : ∃ wo5 : Nat, Hid ((0 : Nat) = wo5) := ⟨_, rfl⟩
                          rw [Hwo5.out] at ewt
                          have PNN : Hid (Pn w wr B j Ps V2 wb rr qq a5 m5 c5 ta5 tn5 tc5 X5 T5) := PN0
                          clear PN0
                          subst ewt
                          have k3 : (k : Int) < (wn : Int) := by omega
                          have d0 : wr.cell? ⟨wb, wo5 + k * 4, none⟩ = some (.int .i64 rr) := by rw [← Hwo5.out, hk0.out]; simp [World.cell?, PNN.out.blk]
                          have d1 : wr.cell? ⟨wb, wo5 + k * 4 + 1, none⟩ = some (.int .i64 qq) := by rw [← Hwo5.out, hk0.out]; simp [World.cell?, PNN.out.blk]
                          have d2 : wr.cell? ⟨wb, wo5 + k * 4 + 2, none⟩ = some (.slice a5 m5 c5) := by rw [← Hwo5.out, hk0.out]; simp [World.cell?, PNN.out.blk]
                          have d3 : wr.cell? ⟨wb, wo5 + k * 4 + 3, none⟩ = some (.slice ta5 tn5 tc5) := by rw [← Hwo5.out, hk0.out]; simp [World.cell?, PNN.out.blk]
                          obtain ⟨g21, Hg21⟩ : ∃ g21, Hid (wr.heap.size = g21) := ⟨_, rfl⟩
                          obtain ⟨w12, Hw12⟩ : ∃ w12, Hid (wr.alloc (.cells #[.int .i64 rr, .int .i64 qq, .slice a5 m5 c5, .slice ta5 tn5 tc5] 68) = w12) := ⟨_, rfl⟩
                          have b12 : Hid (Below wr.heap.size wr w12) := by rw [← Hw12.out]; exact alloc1 wr _
                          have k21 : w12.heap[g21]? = some (.cells #[.int .i64 rr, .int .i64 qq, .slice a5 m5 c5, .slice ta5 tn5 tc5] 68 (0, 0)) := by rw [← Hw12.out, ← Hg21.out]; exact heap_alloc_new wr _
                          have y0 : w12.cell? ⟨g21, 0, none⟩ = some (.int .i64 rr) := by simp [World.cell?, k21]
                          have y1 : w12.cell? ⟨g21, 1, none⟩ = some (.int .i64 qq) := by simp [World.cell?, k21]
                          have y2 : w12.cell? ⟨g21, 2, none⟩ = some (.slice a5 m5 c5) := by simp [World.cell?, k21]
                          have y3 : w12.cell? ⟨g21, 3, none⟩ = some (.slice ta5 tn5 tc5) := by simp [World.cell?, k21]
                          clear k21
                          have MN3 : Hid (Mn w w12 B gg gg ab j hf (i + 1) (i * 2 + 1 + k) G Ps9 (U ++ [(yr, yn)]) a' un' c' S2 V2 L3 ba2 la2 ca2 bc2 lc2 cc2 N2) := MN2.out.below b12.out
                          have LX : Hid (Lg w12 a5 m5 c5 X5) := PNN.out.lg.below b12.out
                          have PX : Hid (((rr, qq), led X5) ∈ Ps9) := PS9.out _ PNN.out.ps
                          have NX : Hid ((yr, yn) ≠ (rr, qq)) := fun e => fr.out (led X5) (by rw [e]; exact PNN.out.ps)
                          have VX : Hid (∀ z, z < j → V2 z (rr, qq) = false) := PNN.out.v
                          have TX : Hid (∀ w', Below B w w' → Irow w' 0 ta5 tn5 T5) := PNN.out.t
                          have TXI : Hid (∀ z, I64 (T5.getD z 0)) := PNN.out.ti
                          have lw : i * 2 + 1 + k ≤ 800 := by omega
                          clear MN2 PNN WN2 wn1
                          go_upto_region 35 with (fail)
                          rw [Hw12.out, Hg21.out]
                          clear d0 d1 d2 d3 Hw12 Hg21 Hwo5
                          go_wp2_with (go_at_call 20; refine (Mn.take MN3 LX PX VX TX TXI HE hM n0 n7 hf1 hf3 lw).mono ?_; rintro e w13 ⟨rfl, H13⟩)
                          go_roundw
                          case rel =>
                            obtain ⟨k1, S3, V3, L4, ba3, la3, ca3, bc3, lc3, cc3, N3, k2, k4⟩ := H13.out
                            exact ⟨k + 1, by omega, by go_num, S3, V3, L4, ba3, la3, ca3, bc3, lc3, cc3, N3, k4, (KP2.out.trans (Kp.below b12.out)).trans k1, fun z => (k2 z _ NX.out).trans (VV2.out z), fun h => by omega⟩
                          case measure => simp [intOf]; omega
                        · have kw : Hid (i * 2 + 1 + k ≤ (i + 1) * 2) := by
                            rcases HW.out with h | h <;> (show _ ≤ _; omega)
                          have e5 : wr.cell? ⟨g14, 5, none⟩ = some (.bool true) := by
                            have h := KP2.out.k66 _ _ _ ko11.out
                            simp [World.cell?, h]
                          have h18 := KP2.out.k68 _ _ _ k18'.out
                          have p0 : wr.cell? ⟨g18, 0, none⟩ = some (.int .i64 yr) := by simp [World.cell?, h18]
                          have p1 : wr.cell? ⟨g18, 1, none⟩ = some (.int .i64 yn) := by simp [World.cell?, h18]
                          have p2 : wr.cell? ⟨g18, 2, none⟩ = some (.slice a9 m9 c9) := by simp [World.cell?, h18]
                          have p3 : wr.cell? ⟨g18, 3, none⟩ = some (.slice yta ytn ytc) := by simp [World.cell?, h18]
                          clear h18
                          obtain ⟨gz, Hgz⟩ : ∃ gz, Hid (wr.heap.size = gz) := ⟨_, rfl⟩
                          obtain ⟨wz, Hwz⟩ : ∃ wz, Hid (wr.alloc (.cells #[.int .i64 yr, .int .i64 yn, .slice a9 m9 c9, .slice yta ytn ytc] 68) = wz) := ⟨_, rfl⟩
                          have FIN : Hid (St w wz B gg ab j hf (i + 1) ((i + 1) * 2) G a' un' c' (some ⟨gz, 0, none⟩) 1) := by
                            have bz : Below wr.heap.size wr wz := by rw [← Hwz.out]; exact alloc1 wr _
                            have kz : wz.heap[gz]? = some (.cells #[.int .i64 yr, .int .i64 yn, .slice a9 m9 c9, .slice yta ytn ytc] 68 (0, 0)) := by rw [← Hwz.out, ← Hgz.out]; exact heap_alloc_new wr _
                            exact ⟨_, _, _, _, _, _, _, _, _, _, _, _, (MN2.out.below bz).mono (Nat.le_refl _) kw.out, .inr ⟨rfl, gz, yr, yn, a9, m9, c9, yta, ytn, ytc, X9, _, rfl, ⟨kz, (LG10.out.keep KP2.out.k81).below bz, hP.out, fun z hz => (VV2.out z).trans (VF1.out z hz), YT.out, YTI.out⟩⟩⟩
                          go_wp2
                          rw [Hwz.out, Hgz.out]
                          go_roundw
                          case rel => exact ⟨i + 1, _, _, _, _, _, _, by omega, by go_num, rfl, rfl, by omega, FIN.out⟩
                          case measure => simp [intOf]; omega
          · obtain rfl : i = m := by omega
            have HW : Hid (wn = 0 ∨ wn = 1) := HWn.out.imp id (fun h => h.1)
            go_upto_region 42 with (fail)
            go_wp2
            go_loopw [133] (fun t133 ws => ∃ (k : Nat), k ≤ wn ∧ t133 = .int .i64 k ∧ Hid (∃ S2 V2 L3 ba2 la2 ca2 bc2 lc2 cc2 N2, Mn w ws B gg gg ab j hf i (i * 2 + k) G Ps U ua un uc S2 V2 L3 ba2 la2 ca2 bc2 lc2 cc2 N2 ∧ (k = 0 → Wn w ws B j Ps V2 wt wn))) (fun t133 _ => wn - (intOf t133).toNat)
            case atStart => exact ⟨0, by omega, rfl, _, _, _, _, _, _, _, _, _, _, HMn.out, fun _ => HWn.out⟩
            case round =>
              obtain ⟨k, hk, rfl, HS1⟩ := hrel
              obtain ⟨S2, V2, L3, ba2, la2, ca2, bc2, lc2, cc2, N2, j1, j4⟩ := HS1.out
              have MN2 : Hid (Mn w wr B gg gg ab j hf i (i * 2 + k) G Ps U ua un uc S2 V2 L3 ba2 la2 ca2 bc2 lc2 cc2 N2) := j1
              have WN2 : Hid (k = 0 → Wn w wr B j Ps V2 wt wn) := j4
              clear j1 j4 HS1 HMn HWn
              by_cases hlk : k < wn
              · obtain ⟨wn1, wb, rr, qq, a5, m5, c5, ta5, tn5, tc5, X5, T5, ewt, PN0⟩ : wn = 1 ∧ ∃ wb rr qq a m c ta tn tc X T, wt = some ⟨wb, 0, none⟩ ∧ Pn w wr B j Ps V2 wb rr qq a m c ta tn tc X T := by
                  rcases HW.out with h | h
                  · omega
                  · have hk0 : k = 0 := by omega
                    rcases WN2.out hk0 with h2 | h2
                    · omega
                    · exact h2
                have hk0 : Hid (k = 0) := (by omega : k = 0)
                obtain ⟨wo5, Hwo5⟩ : ∃ wo5 : Nat, Hid ((0 : Nat) = wo5) := ⟨_, rfl⟩
                rw [Hwo5.out] at ewt
                have PNN : Hid (Pn w wr B j Ps V2 wb rr qq a5 m5 c5 ta5 tn5 tc5 X5 T5) := PN0
                clear PN0
                subst ewt
                have k3 : (k : Int) < (wn : Int) := by omega
                have d0 : wr.cell? ⟨wb, wo5 + k * 4, none⟩ = some (.int .i64 rr) := by rw [← Hwo5.out, hk0.out]; simp [World.cell?, PNN.out.blk]
                have d1 : wr.cell? ⟨wb, wo5 + k * 4 + 1, none⟩ = some (.int .i64 qq) := by rw [← Hwo5.out, hk0.out]; simp [World.cell?, PNN.out.blk]
                have d2 : wr.cell? ⟨wb, wo5 + k * 4 + 2, none⟩ = some (.slice a5 m5 c5) := by rw [← Hwo5.out, hk0.out]; simp [World.cell?, PNN.out.blk]
                have d3 : wr.cell? ⟨wb, wo5 + k * 4 + 3, none⟩ = some (.slice ta5 tn5 tc5) := by rw [← Hwo5.out, hk0.out]; simp [World.cell?, PNN.out.blk]
                obtain ⟨g21, Hg21⟩ : ∃ g21, Hid (wr.heap.size = g21) := ⟨_, rfl⟩
                obtain ⟨w12, Hw12⟩ : ∃ w12, Hid (wr.alloc (.cells #[.int .i64 rr, .int .i64 qq, .slice a5 m5 c5, .slice ta5 tn5 tc5] 68) = w12) := ⟨_, rfl⟩
                have b12 : Hid (Below wr.heap.size wr w12) := by rw [← Hw12.out]; exact alloc1 wr _
                have k21 : w12.heap[g21]? = some (.cells #[.int .i64 rr, .int .i64 qq, .slice a5 m5 c5, .slice ta5 tn5 tc5] 68 (0, 0)) := by rw [← Hw12.out, ← Hg21.out]; exact heap_alloc_new wr _
                have y0 : w12.cell? ⟨g21, 0, none⟩ = some (.int .i64 rr) := by simp [World.cell?, k21]
                have y1 : w12.cell? ⟨g21, 1, none⟩ = some (.int .i64 qq) := by simp [World.cell?, k21]
                have y2 : w12.cell? ⟨g21, 2, none⟩ = some (.slice a5 m5 c5) := by simp [World.cell?, k21]
                have y3 : w12.cell? ⟨g21, 3, none⟩ = some (.slice ta5 tn5 tc5) := by simp [World.cell?, k21]
                clear k21
                have MN3 : Hid (Mn w w12 B gg gg ab j hf i (i * 2 + k) G Ps U ua un uc S2 V2 L3 ba2 la2 ca2 bc2 lc2 cc2 N2) := MN2.out.below b12.out
                have LX : Hid (Lg w12 a5 m5 c5 X5) := PNN.out.lg.below b12.out
                have PX : Hid (((rr, qq), led X5) ∈ Ps) := PNN.out.ps
                have VX : Hid (∀ z, z < j → V2 z (rr, qq) = false) := PNN.out.v
                have TX : Hid (∀ w', Below B w w' → Irow w' 0 ta5 tn5 T5) := PNN.out.t
                have TXI : Hid (∀ z, I64 (T5.getD z 0)) := PNN.out.ti
                have lw : i * 2 + k ≤ 800 := by omega
                clear MN2 PNN WN2 wn1
                go_upto_region 45 with (fail)
                rw [Hw12.out, Hg21.out]
                clear d0 d1 d2 d3 Hw12 Hg21 Hwo5
                go_wp2_with (go_at_call 20; refine (Mn.take MN3 LX PX VX TX TXI HE hM n0 n7 hf1 hf3 lw).mono ?_; rintro e w13 ⟨rfl, H13⟩)
                go_roundw
                case rel =>
                  obtain ⟨k1, S3, V3, L4, ba3, la3, ca3, bc3, lc3, cc3, N3, k2, k4⟩ := H13.out
                  exact ⟨k + 1, by omega, by go_num, S3, V3, L4, ba3, la3, ca3, bc3, lc3, cc3, N3, k4, fun h => by omega⟩
                case measure => simp [intOf]; omega
              · go_wp2
                go_ret
                exact ⟨rfl, by rw [HB.out]; exact MN2.out.bel⟩
end Go.Proofs.YtdfnjcjpblkmcaaDoor
