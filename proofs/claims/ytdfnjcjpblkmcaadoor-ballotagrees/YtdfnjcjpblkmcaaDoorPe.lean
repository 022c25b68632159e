/- count: a vote is counted, and what more than half accepted is held against it. -/
import Derived.Test.YtdfnjcjpblkmcaaDoorPc
import Derived.Test.YtdfnjcjpblkmcaaDoorPf
namespace Go.Proofs.YtdfnjcjpblkmcaaDoor
open Go.ChangeShapes Go.WideShapes Go.ChangeAt Go.RowKit
set_option maxRecDepth 20000
set_option linter.unusedVariables false
set_option linter.unusedSimpArgs false
/- behind count -/
def Cnt (w w' : World) (B gg : Nat) (ba la ca : Option Addr) (L2 : List Ct) : Prop :=
  ∃ ba1 la1 ca1 bc1 lc1 cc1 N1, Ag w' B gg ba1 la1 ca1 bc1 lc1 cc1 N1 L2 ∧ Ch w w' (fun q => q = gg ∨ rws ba la ca q) ∧ (∀ q, rws ba1 la1 ca1 q → rws ba la ca q ∨ w.heap.size ≤ q)
theorem Cnt.below {w w' w'' : World} {B gg : Nat} {ba la ca : Option Addr} {L2 : List Ct} (h : Cnt w w' B gg ba la ca L2) (hb : Below w'.heap.size w' w'') : Cnt w w'' B gg ba la ca L2 := by
  obtain ⟨ba1, la1, ca1, bc1, lc1, cc1, N1, h1, h2, h3⟩ := h
  exact ⟨ba1, la1, ca1, bc1, lc1, cc1, N1, h1.below hb, h2.trans (Ch.below hb), h3⟩
set_option maxHeartbeats 4000000 in
theorem count_n {w : World} {B gg N : Nat} {ba la ca a : Option Addr} {bc lc cc m c hf : Nat} {L : List Ct} {X : List Cx} {r n : Int} (hG : Hid (Ag w B gg ba la ca bc lc cc N L)) (hLG : Hid (∀ t ∈ L, Lg w t.a t.m t.c t.X)) (hLL : Hid (Lg w a m c X)) (hN : N ≤ 900) (hK : Hid (∀ t ∈ L, t.k ≤ 900)) (hB : Hid (B ≤ w.heap.size)) (hh : hf ≤ 100)
    (HCM : Hid (∀ u ∈ bump (r, n) a m c X L, u.b = (r, n) → hf ≤ u.k → ∀ t ∈ bump (r, n) a m c X L, hf ≤ t.k → led t.X <+: led X ∨ led X <+: led t.X)) :
    Calls Tryd.prog 32 #[.pointer (some ⟨gg, 0, none⟩), bal r n, .slice a m c, .int .i64 hf] w fun e w' => e = .returned (.bool true) ∧ Hid (Cnt w w' B gg ba la ca (bump (r, n) a m c X L)) := by
  obtain ⟨gb, Hgb⟩ : ∃ gb, Hid (w.heap.size = gb) := ⟨_, rfl⟩
  obtain ⟨w1, Hw1⟩ : ∃ w1, Hid (w.alloc (.cells #[.int .i64 r, .int .i64 n] 34) = w1) := ⟨_, rfl⟩
  have L1' : Hid (Below w.heap.size w w1) := by rw [← Hw1.out]; exact alloc1 w _
  have kb : Hid (w1.heap[gb]? = some (.cells #[.int .i64 r, .int .i64 n] 34 (0, 0))) := by rw [← Hw1.out, ← Hgb.out]; exact heap_alloc_new w _
  have G1 : Hid (Ag w1 B gg ba la ca bc lc cc N L) := hG.out.below L1'.out
  have c0 : w1.cell? ⟨gg, 0, none⟩ = some (.slice ba N bc) := by simp [World.cell?, G1.out.k]
  have LN : Hid (L.length = N) := hG.out.len
  go_enter Tryd.func32, Tryd.ntmps32
  go_upto_region 1 with (fail)
  rw [Hw1.out, Hgb.out]
  go_wp2
  clear c0
  go_loopw [9, 19] (fun t9 t19 wr => ∃ i : Nat, i ≤ N ∧ t19 = .int .i64 i ∧ t9 = .int .i64 (af (r, n) L i) ∧ Hid (Below w1.heap.size w1 wr)) (fun _ t19 _ => N - (intOf t19).toNat)
  case atStart => exact ⟨0, by omega, rfl, rfl, Below.refl _ _⟩
  case round =>
    obtain ⟨i, hi, rfl, rfl, HB⟩ := hrel
    by_cases hin : i < N
    · have i3 : (i : Int) < (N : Int) := by omega
      have iL : i < L.length := by rw [LN.out]; exact hin
      obtain ⟨b, o, rfl, _, e0, e1⟩ := (G1.out.below HB.out).bat iL
      obtain ⟨y1, Hy1⟩ : ∃ y1, Hid ((L[i]'iL).b.1 = y1) := ⟨_, rfl⟩
      obtain ⟨y2, Hy2⟩ : ∃ y2, Hid ((L[i]'iL).b.2 = y2) := ⟨_, rfl⟩
      rw [Hy1.out] at e0
      rw [Hy2.out] at e1
      obtain ⟨wo, Hwo⟩ : ∃ wo, Hid (wr.alloc (.cells #[.int .i64 y1, .int .i64 y2] 34) = wo) := ⟨_, rfl⟩
      obtain ⟨g11, Hg11⟩ : ∃ g11, Hid (wr.heap.size = g11) := ⟨_, rfl⟩
      have Bo : Hid (Below w1.heap.size w1 wo) := by rw [← Hwo.out]; exact HB.out.trans ((alloc1 wr _).mono HB.out.size)
      have ko : wo.heap[g11]? = some (.cells #[.int .i64 y1, .int .i64 y2] 34 (0, 0)) := by rw [← Hwo.out, ← Hg11.out]; exact heap_alloc_new wr _
      have kg : wo.heap[gb]? = some (.cells #[.int .i64 r, .int .i64 n] 34 (0, 0)) := (Bo.out.block gb (Array.getElem?_eq_some_iff.1 kb.out).1).trans kb.out
      have o0 : wo.cell? ⟨g11, 0, none⟩ = some (.int .i64 y1) := by simp [World.cell?, ko]
      have o1 : wo.cell? ⟨g11, 1, none⟩ = some (.int .i64 y2) := by simp [World.cell?, ko]
      have o2 : wo.cell? ⟨gb, 0, none⟩ = some (.int .i64 r) := by simp [World.cell?, kg]
      have o3 : wo.cell? ⟨gb, 1, none⟩ = some (.int .i64 n) := by simp [World.cell?, kg]
      clear ko kg
      obtain ⟨at0, Hat⟩ : ∃ at0, Hid (af (r, n) L i = at0) := ⟨_, rfl⟩
      have NX : Hid (af (r, n) L (i + 1) = if y1 = r ∧ y2 = n then (i : Int) else at0) := by
        show _ = _
        rw [af_succ iL, Hat.out, ← Hy1.out, ← Hy2.out]
        by_cases h : (L[i]'iL).b = (r, n)
        · rw [if_pos h, if_pos (by rw [h]; exact ⟨rfl, rfl⟩)]
        · rw [if_neg h, if_neg (fun h2 => h (Prod.ext h2.1 h2.2))]
      rw [Hat.out]
      go_upto_region 5 with (fail)
      rw [Hwo.out, Hg11.out]
      clear e0 e1
      by_cases hb : y1 = r ∧ y2 = n
      · have N2 : Hid (af (r, n) L (i + 1) = (i : Int)) := by show _ = _; rw [NX.out, if_pos hb]
        have EQ : ∀ w, (Op.equalIn 10000 34 (bal y1 y2) (bal r n)).run Tryd.prog w = .ok true w := fun w => by rw [eqBal, decide_eq_true hb]
        clear hb
        go_wp2
        go_roundw
        case rel => exact ⟨i + 1, by omega, by go_num, by rw [N2.out], Bo.out⟩
        case measure => simp [intOf]; omega
      · have N2 : Hid (af (r, n) L (i + 1) = at0) := by show _ = _; rw [NX.out, if_neg hb]
        have EQ : ∀ w, (Op.equalIn 10000 34 (bal y1 y2) (bal r n)).run Tryd.prog w = .ok false w := fun w => by rw [eqBal, decide_eq_false hb]
        clear hb
        go_wp2
        go_roundw
        case rel => exact ⟨i + 1, by omega, by go_num, by rw [N2.out], Bo.out⟩
        case measure => simp [intOf]; omega
    · have hiN : i = N := by omega
      subst hiN
      have BW : Hid (Below w.heap.size w wr) := L1'.out.trans (HB.out.mono L1'.out.size)
      have GW : Hid (Ag wr B gg ba la ca bc lc cc i L) := G1.out.below HB.out
      rcases af_cases (r, n) L i (by rw [LN.out]; exact Nat.le_refl _) with haf | ⟨z, hz1, hz2, hz3⟩
      · rw [haf]
        have CG : Cg wr gg gb ba la ca i bc lc cc r n := ⟨GW.out.k, (HB.out.block gb (Array.getElem?_eq_some_iff.1 kb.out).1).trans kb.out⟩
        have BN : ∀ q, blkOf ba = some q → q ≠ gb := fun q hq e => by
          have := (hG.out.ob.lt q (by rw [ownBlock_slice]; exact hq)).2
          have := Hgb.out
          omega
        have HBU : Hid (bump (r, n) a m c X L = upk (L ++ [⟨(r, n), a, m, c, X, 0⟩]) i) := by
          show _ = _
          unfold bump
          rw [LN.out, haf, if_pos (by decide)]
        go_upto_region 9 with (fail)
        refine reg9 (B := B) CG GW.out.ob GW.out.ol GW.out.oc (Nat.le_trans hB.out BW.out.size) BN (by omega) (fun _ _ _ _ _ h => h) ?_
        intro V ba1 bc1 la1 lc1 ca1 cc1 p8 p15 p21 FE
        obtain ⟨L1, HL1⟩ : ∃ L1, Hid (L ++ [(⟨(r, n), a, m, c, X, 0⟩ : Ct)] = L1) := ⟨_, rfl⟩
        obtain ⟨N1, HN1⟩ : ∃ N1, Hid (i + 1 = N1) := ⟨_, rfl⟩
        obtain ⟨z, Hz⟩ : ∃ z, Hid (i = z) := ⟨_, rfl⟩
        have AG : Hid (Ag V B gg ba1 la1 ca1 bc1 lc1 cc1 N1 L1) := by
          rw [← HL1.out, ← HN1.out]
          exact ⟨FE.k, by rw [xbs_app]; exact FE.ob, by unfold xls; rw [List.map_append]; exact FE.ol, by unfold xcs; rw [List.map_append]; exact FE.oc⟩
        have CV : Hid (Ch w V (fun q => q = gg ∨ rws ba la ca q)) := (Ch.below BW.out).trans ((Ch.drew wr _).trans FE.ch)
        have NW : Hid (∀ q, rws ba1 la1 ca1 q → rws ba la ca q ∨ w.heap.size ≤ q) := fun q h => by
          have hs : w.heap.size ≤ wr.drew.heap.size := BW.out.size
          rcases h with h | h | h
          · exact (FE.nb q h).imp .inl (fun h => Nat.le_trans hs h)
          · exact (FE.nl q h).imp (fun h => .inr (.inl h)) (fun h => Nat.le_trans hs h)
          · exact (FE.nc q h).imp (fun h => .inr (.inr h)) (fun h => Nat.le_trans hs h)
        have T81 : Hid (K81 w V) := K81.ch CV.out (fun q cs fr h e => by
          rcases e with e | e | e | e
          · rw [e, hG.out.k] at h; cases h
          · have := own_blk_ty hG.out.ob h e; omega
          · have := own_blk_ty hG.out.ol h e; omega
          · have := own_blk_ty hG.out.oc h e; omega)
        have LL1 : Hid (Lg V a m c X) := hLL.out.keep T81.out
        have LG1 : Hid (∀ t ∈ L1, Lg V t.a t.m t.c t.X) := fun t ht => by
          rw [← HL1.out] at ht
          rcases List.mem_append.1 ht with h | h
          · exact (hLG.out t h).keep T81.out
          · obtain rfl := List.mem_singleton.1 h
            exact LL1.out
        have HKB : Hid (∀ t ∈ L1, t.k ≤ 900) := fun t ht => by
          rw [← HL1.out] at ht
          rcases List.mem_append.1 ht with h | h
          · exact hK.out t h
          · obtain rfl := List.mem_singleton.1 h
            exact Nat.zero_le _
        rw [HL1.out, Hz.out] at HBU
        have ZL : Hid (z < L1.length) := by show z < _; rw [← HL1.out, List.length_append, LN.out, ← Hz.out]; simp
        have ZB : Hid ((L1[z]'ZL.out).b = (r, n)) := by
          have h2 : L1[z]? = some (⟨(r, n), a, m, c, X, 0⟩ : Ct) := by rw [← HL1.out, ← Hz.out, ← LN.out]; simp
          have h3 := (List.getElem?_eq_some_iff.1 h2).2
          rw [h3]
          rfl
        have zz : ((N1 : Int) - 1) = (z : Int) := by have := HN1.out; have := Hz.out; omega
        have nb1 : N1 ≤ 901 := by have := HN1.out; omega
        have c0 : V.cell? ⟨gg, 0, none⟩ = some (.slice ba1 N1 bc1) := by simp [World.cell?, AG.out.k]
        rw [HN1.out]
        clear FE CG BN haf
        go_upto_region 11 with (fail)
        try rw [zz]
        clear zz c0
        obtain ⟨cb, co, rfl, HO, e1, f1⟩ := AG.out.cat ZL.out
        obtain ⟨k0, Hk0⟩ : ∃ k0 : Nat, Hid ((L1[z]'ZL.out).k = k0) := ⟨_, rfl⟩
        rw [Hk0.out] at e1
        have e0 : V.cell? ⟨gg, 2, none⟩ = some (.slice (some ⟨cb, co, none⟩) N1 cc1) := by simp [World.cell?, AG.out.k]
        have KB : k0 ≤ 900 := by rw [← Hk0.out]; exact HKB.out _ (List.getElem_mem ZL.out)
        have zi : (z : Int) < (N1 : Int) := by have := ZL.out; have := AG.out.len; omega
        obtain ⟨V1, HV1⟩ : ∃ V1, Hid (V.setCell ⟨cb, co + z, none⟩ (.int .i64 ((k0 : Int) + 1)) = V1) := ⟨_, rfl⟩
        obtain ⟨L2, HL2⟩ : ∃ L2, Hid (upk L1 z = L2) := ⟨_, rfl⟩
        have A1 : Hid (Ag V1 B gg ba1 la1 (some ⟨cb, co, none⟩) bc1 lc1 cc1 N1 L2) := by
          have h := AG.out
          rw [HO.out] at h ⊢
          have h2 := h.up ZL.out
          rw [Hk0.out, HL2.out] at h2
          rw [← HV1.out, HO.out, Nat.zero_add]
          exact h2
        have C1 : Hid (Ch V V1 (fun q => q = cb)) := by rw [← HV1.out]; exact Ch.set V cb _ _
        have Z2 : Hid (z < L2.length) := by rw [← HL2.out, upk_len]; exact ZL.out
        have K2 : Hid ((L2[z]'Z2.out).k = k0 + 1) := by
          have h : upk L1 z = L1.set z { L1[z]'ZL.out with k := (L1[z]'ZL.out).k + 1 } := upk_at ZL.out
          have h2 : L2[z]? = some { L1[z]'ZL.out with k := (L1[z]'ZL.out).k + 1 } := by rw [← HL2.out, h]; simp [ZL.out]
          have h3 := (List.getElem?_eq_some_iff.1 h2).2
          rw [h3]
          show (L1[z]'ZL.out).k + 1 = k0 + 1
          rw [Hk0.out]
        have B2 : Hid ((L2[z]'Z2.out).b = (L1[z]'ZL.out).b) := by
          have h : upk L1 z = L1.set z { L1[z]'ZL.out with k := (L1[z]'ZL.out).k + 1 } := upk_at ZL.out
          have h2 : L2[z]? = some { L1[z]'ZL.out with k := (L1[z]'ZL.out).k + 1 } := by rw [← HL2.out, h]; simp [ZL.out]
          have h3 := (List.getElem?_eq_some_iff.1 h2).2
          rw [h3]
          rfl
        have d0 : V1.cell? ⟨gg, 2, none⟩ = some (.slice (some ⟨cb, co, none⟩) N1 cc1) := by simp [World.cell?, A1.out.k]
        have d1 : V1.cell? ⟨cb, co + z, none⟩ = some (.int .i64 ((k0 : Int) + 1)) := by
          obtain ⟨b', o', hb', _, h, _⟩ := A1.out.cat Z2.out
          cases hb'
          rw [h, K2.out]
          rfl
        have CB3 : Hid (∀ (q : Nat) (cs : Array Value) (fr : Nat × Nat), V.heap[q]? = some (.cells cs 81 fr) → ¬ q = cb) := fun q cs fr h e => by
          have := own_blk_ty AG.out.oc h (by rw [e]; rfl)
          omega
        have FIN : Hid (Cnt w V1 B gg ba la ca (bump (r, n) a m c X L)) := by
          refine ⟨ba1, la1, some ⟨cb, co, none⟩, bc1, lc1, cc1, N1, by rw [HBU.out, HL2.out]; exact A1.out, ?_, NW.out⟩
          refine CV.out.then C1.out (fun q _ h => h) (fun q hq e => ?_)
          rcases NW.out q (by rw [e]; exact .inr (.inr rfl)) with h | h
          · exact .inr h
          · omega
        have LGV : Hid (∀ t ∈ L2, Lg V1 t.a t.m t.c t.X) := fun t ht => by
          rw [← HL2.out] at ht
          obtain ⟨u, hu, u1, u2, u3, u4, _⟩ := upk_mem ht
          rw [← u1, ← u2, ← u3, ← u4]
          exact (LG1.out u hu).keep (K81.ch C1.out CB3.out)
        have LLV : Hid (Lg V1 a m c X) := LL1.out.keep (K81.ch C1.out CB3.out)
        clear Hk0 AG
        go_upto_region 12 with (fail)
        rw [HV1.out]
        clear e0 e1 f1
        by_cases hlt : (k0 : Int) + 1 < (hf : Int)
        · go_wp2
          go_ret
          exact ⟨rfl, FIN.out⟩
        · have UK : Hid (∀ t ∈ bump (r, n) a m c X L, hf ≤ t.k → led t.X <+: led X ∨ led X <+: led t.X) := by
            refine HCM.out (L2[z]'Z2.out) (by rw [HBU.out, HL2.out]; exact List.getElem_mem Z2.out) ?_ (by rw [K2.out]; omega)
            rw [B2.out]
            exact ZB.out
          have cl2 : V1.cell? ⟨gg, 2, none⟩ = some (.slice (some ⟨cb, co, none⟩) N1 cc1) := d0
          go_wp2
          go_loopw [89] (fun ti wr => ∃ i : Nat, i ≤ N1 ∧ ti = .int .i64 i ∧ Hid (Below V1.heap.size V1 wr)) (fun ti _ => N1 - (intOf ti).toNat)
          case atStart => exact ⟨0, by omega, rfl, Below.refl _ _⟩
          case round =>
            obtain ⟨i, hi, rfl, HB⟩ := hrel
            clear d0 d1 cl2
            by_cases hin : i < N1
            · have i3 : (i : Int) < (N1 : Int) := by omega
              have iL : i < L2.length := by rw [A1.out.len]; exact hin
              have AR := A1.out.below HB.out
              obtain ⟨b', o', hb', _, h1, _⟩ := AR.cat iL
              cases hb'
              obtain ⟨lb, lo, Hla, _, h2⟩ := AR.lat iL
              obtain ⟨t, Ht⟩ : ∃ t, Hid (L2[i] = t) := ⟨L2[i], (rfl : L2[i] = L2[i])⟩
              rw [Ht.out] at h1 h2
              have g1 : wr.cell? ⟨gg, 1, none⟩ = some (.slice la1 N1 lc1) := by simp [World.cell?, AR.k]
              rw [Hla] at g1
              clear Hla
              have TM : t ∈ L2 := by rw [← Ht.out]; exact List.getElem_mem iL
              have LT : Hid (Lg wr t.a t.m t.c t.X) := (LGV.out t TM).below HB.out
              have LW : Hid (Lg wr a m c X) := LLV.out.below HB.out
              have CT : Hid (Cms wr 0 t.a t.m t.X) := LT.out.cms
              have CL : Hid (Cms wr 0 a m X) := LW.out.cms
              have AW : Hid (Ag wr B gg ba1 la1 (some ⟨cb, co, none⟩) bc1 lc1 cc1 N1 L2) := AR
              have HC2 : Hid (hf ≤ t.k → led t.X <+: led X ∨ led X <+: led t.X) := UK.out t (by rw [HBU.out, HL2.out]; exact TM)
              clear AR TM
              by_cases hk : (hf : Int) ≤ (t.k : Int)
              · by_cases hp : led t.X <+: led X
                · have D : Hid (decide (led t.X <+: led X) = true) := decide_eq_true hp
                  go_wp2_with (go_at_call 36; refine (begins_n CT CL LW.out.cap LW.out.z).mono ?_; rintro e w5 ⟨rfl, H5⟩; rw [D.out])
                  go_roundw
                  case rel => exact ⟨i + 1, by omega, by go_num, HB.out.trans (H5.out.mono HB.out.size)⟩
                  case measure => simp [intOf]; omega
                · have D : Hid (decide (led t.X <+: led X) = false) := decide_eq_false hp
                  have D2 : Hid (decide (led X <+: led t.X) = true) := decide_eq_true ((HC2.out (by omega)).resolve_left hp)
                  go_wp2_with (first
                    | (go_at_call 36; refine (begins_n CL5 CT5 LT.out.cap LT.out.z).mono ?_; rintro e w6 ⟨rfl, H6⟩; rw [D2.out])
                    | (go_at_call 36; refine (begins_n CT CL LW.out.cap LW.out.z).mono ?_; rintro e w5 ⟨rfl, H5⟩; rw [D.out]
                       have g5 : w5.cell? ⟨gg, 1, none⟩ = some (.slice (some ⟨lb, lo, none⟩) N1 lc1) := (H5.out.cell (p := ⟨gg, 1, none⟩) (cell_lt g1)).trans g1
                       have h5 : w5.cell? ⟨lb, lo + i, none⟩ = some (.slice t.a t.m t.c) := (H5.out.cell (p := ⟨lb, lo + i, none⟩) (cell_lt h2)).trans h2
                       have CT5 : Hid (Cms w5 0 t.a t.m t.X) := CT.out.below H5.out
                       have CL5 : Hid (Cms w5 0 a m X) := CL.out.below H5.out))
                  go_roundw
                  case rel => exact ⟨i + 1, by omega, by go_num, (HB.out.trans (H5.out.mono HB.out.size)).trans (H6.out.mono (Nat.le_trans HB.out.size H5.out.size))⟩
                  case measure => simp [intOf]; omega
              · have hk2 : (t.k : Int) < (hf : Int) := by omega
                go_wp2
                go_roundw
                case rel => exact ⟨i + 1, by omega, by go_num, HB.out⟩
                case measure => simp [intOf]; omega
            · go_wp2
              go_ret
              exact ⟨rfl, FIN.out.below HB.out⟩
      · have HBU : Hid (bump (r, n) a m c X L = upk L z) := by
          show _ = _
          unfold bump
          rw [LN.out, hz2, if_neg (by omega)]
          rfl
        rw [hz2]
        have nz : ¬ ((z : Int) < 0) := by omega
        obtain ⟨N1, HN1⟩ : ∃ N1, Hid (i = N1) := ⟨_, rfl⟩
        obtain ⟨V, HV⟩ : ∃ V, Hid (wr = V) := ⟨_, rfl⟩
        obtain ⟨L1, HL1⟩ : ∃ L1, Hid (L = L1) := ⟨_, rfl⟩
        obtain ⟨ba1, Hba1⟩ : ∃ ba1, Hid (ba = ba1) := ⟨_, rfl⟩
        obtain ⟨la1, Hla1⟩ : ∃ la1, Hid (la = la1) := ⟨_, rfl⟩
        obtain ⟨ca1, Hca1⟩ : ∃ ca1, Hid (ca = ca1) := ⟨_, rfl⟩
        obtain ⟨bc1, Hbc1⟩ : ∃ bc1, Hid (bc = bc1) := ⟨_, rfl⟩
        obtain ⟨lc1, Hlc1⟩ : ∃ lc1, Hid (lc = lc1) := ⟨_, rfl⟩
        obtain ⟨cc1, Hcc1⟩ : ∃ cc1, Hid (cc = cc1) := ⟨_, rfl⟩
        have AG : Hid (Ag V B gg ba1 la1 ca1 bc1 lc1 cc1 N1 L1) := by rw [← HV.out, ← HN1.out, ← HL1.out, ← Hba1.out, ← Hla1.out, ← Hca1.out, ← Hbc1.out, ← Hlc1.out, ← Hcc1.out]; exact GW.out
        have CV : Hid (Ch w V (fun q => q = gg ∨ rws ba la ca q)) := by rw [← HV.out]; exact Ch.below BW.out
        have NW : Hid (∀ q, rws ba1 la1 ca1 q → rws ba la ca q ∨ w.heap.size ≤ q) := by rw [← Hba1.out, ← Hla1.out, ← Hca1.out]; exact fun q h => .inl h
        have LL1 : Hid (Lg V a m c X) := by rw [← HV.out]; exact hLL.out.below BW.out
        have LG1 : Hid (∀ t ∈ L1, Lg V t.a t.m t.c t.X) := by rw [← HV.out, ← HL1.out]; exact fun t ht => (hLG.out t ht).below BW.out
        have HKB : Hid (∀ t ∈ L1, t.k ≤ 900) := by rw [← HL1.out]; exact hK.out
        have ZL : Hid (z < L1.length) := by show z < _; rw [← HL1.out, LN.out]; exact hz1
        have ZB : Hid ((L1[z]'ZL.out).b = (r, n)) := by
          have h2 : L1[z]? = some (L[z]'(by rw [LN.out]; exact hz1)) := by rw [← HL1.out]; exact List.getElem?_eq_getElem _
          have h3 := (List.getElem?_eq_some_iff.1 h2).2
          rw [h3]
          exact hz3 _
        have nb1 : N1 ≤ 901 := by have := HN1.out; omega
        rw [HV.out]
        have HBU : Hid (bump (r, n) a m c X L = upk L1 z) := by rw [← HL1.out]; exact HBU.out
        go_upto_region 11 with (fail)
        clear nz hz1 hz2 hz3
        obtain ⟨cb, co, rfl, HO, e1, f1⟩ := AG.out.cat ZL.out
        obtain ⟨k0, Hk0⟩ : ∃ k0 : Nat, Hid ((L1[z]'ZL.out).k = k0) := ⟨_, rfl⟩
        rw [Hk0.out] at e1
        have e0 : V.cell? ⟨gg, 2, none⟩ = some (.slice (some ⟨cb, co, none⟩) N1 cc1) := by simp [World.cell?, AG.out.k]
        have KB : k0 ≤ 900 := by rw [← Hk0.out]; exact HKB.out _ (List.getElem_mem ZL.out)
        have zi : (z : Int) < (N1 : Int) := by have := ZL.out; have := AG.out.len; omega
        obtain ⟨V1, HV1⟩ : ∃ V1, Hid (V.setCell ⟨cb, co + z, none⟩ (.int .i64 ((k0 : Int) + 1)) = V1) := ⟨_, rfl⟩
        obtain ⟨L2, HL2⟩ : ∃ L2, Hid (upk L1 z = L2) := ⟨_, rfl⟩
        have A1 : Hid (Ag V1 B gg ba1 la1 (some ⟨cb, co, none⟩) bc1 lc1 cc1 N1 L2) := by
          have h := AG.out
          rw [HO.out] at h ⊢
          have h2 := h.up ZL.out
          rw [Hk0.out, HL2.out] at h2
          rw [← HV1.out, HO.out, Nat.zero_add]
          exact h2
        have C1 : Hid (Ch V V1 (fun q => q = cb)) := by rw [← HV1.out]; exact Ch.set V cb _ _
        have Z2 : Hid (z < L2.length) := by rw [← HL2.out, upk_len]; exact ZL.out
        have K2 : Hid ((L2[z]'Z2.out).k = k0 + 1) := by
          have h : upk L1 z = L1.set z { L1[z]'ZL.out with k := (L1[z]'ZL.out).k + 1 } := upk_at ZL.out
          have h2 : L2[z]? = some { L1[z]'ZL.out with k := (L1[z]'ZL.out).k + 1 } := by rw [← HL2.out, h]; simp [ZL.out]
          have h3 := (List.getElem?_eq_some_iff.1 h2).2
          rw [h3]
          show (L1[z]'ZL.out).k + 1 = k0 + 1
          rw [Hk0.out]
        have B2 : Hid ((L2[z]'Z2.out).b = (L1[z]'ZL.out).b) := by
          have h : upk L1 z = L1.set z { L1[z]'ZL.out with k := (L1[z]'ZL.out).k + 1 } := upk_at ZL.out
          have h2 : L2[z]? = some { L1[z]'ZL.out with k := (L1[z]'ZL.out).k + 1 } := by rw [← HL2.out, h]; simp [ZL.out]
          have h3 := (List.getElem?_eq_some_iff.1 h2).2
          rw [h3]
          rfl
        have d0 : V1.cell? ⟨gg, 2, none⟩ = some (.slice (some ⟨cb, co, none⟩) N1 cc1) := by simp [World.cell?, A1.out.k]
        have d1 : V1.cell? ⟨cb, co + z, none⟩ = some (.int .i64 ((k0 : Int) + 1)) := by
          obtain ⟨b', o', hb', _, h, _⟩ := A1.out.cat Z2.out
          cases hb'
          rw [h, K2.out]
          rfl
        have CB3 : Hid (∀ (q : Nat) (cs : Array Value) (fr : Nat × Nat), V.heap[q]? = some (.cells cs 81 fr) → ¬ q = cb) := fun q cs fr h e => by
          have := own_blk_ty AG.out.oc h (by rw [e]; rfl)
          omega
        have FIN : Hid (Cnt w V1 B gg ba la ca (bump (r, n) a m c X L)) := by
          refine ⟨ba1, la1, some ⟨cb, co, none⟩, bc1, lc1, cc1, N1, by rw [HBU.out, HL2.out]; exact A1.out, ?_, NW.out⟩
          refine CV.out.then C1.out (fun q _ h => h) (fun q hq e => ?_)
          rcases NW.out q (by rw [e]; exact .inr (.inr rfl)) with h | h
          · exact .inr h
          · omega
        have LGV : Hid (∀ t ∈ L2, Lg V1 t.a t.m t.c t.X) := fun t ht => by
          rw [← HL2.out] at ht
          obtain ⟨u, hu, u1, u2, u3, u4, _⟩ := upk_mem ht
          rw [← u1, ← u2, ← u3, ← u4]
          exact (LG1.out u hu).keep (K81.ch C1.out CB3.out)
        have LLV : Hid (Lg V1 a m c X) := LL1.out.keep (K81.ch C1.out CB3.out)
        clear Hk0 AG
        go_upto_region 12 with (fail)
        rw [HV1.out]
        clear e0 e1 f1
        by_cases hlt : (k0 : Int) + 1 < (hf : Int)
        · go_wp2
          go_ret
          exact ⟨rfl, FIN.out⟩
        · have UK : Hid (∀ t ∈ bump (r, n) a m c X L, hf ≤ t.k → led t.X <+: led X ∨ led X <+: led t.X) := by
            refine HCM.out (L2[z]'Z2.out) (by rw [HBU.out, HL2.out]; exact List.getElem_mem Z2.out) ?_ (by rw [K2.out]; omega)
            rw [B2.out]
            exact ZB.out
          have cl2 : V1.cell? ⟨gg, 2, none⟩ = some (.slice (some ⟨cb, co, none⟩) N1 cc1) := d0
          go_wp2
          go_loopw [89] (fun ti wr => ∃ i : Nat, i ≤ N1 ∧ ti = .int .i64 i ∧ Hid (Below V1.heap.size V1 wr)) (fun ti _ => N1 - (intOf ti).toNat)
          case atStart => exact ⟨0, by omega, rfl, Below.refl _ _⟩
          case round =>
            obtain ⟨i, hi, rfl, HB⟩ := hrel
            clear d0 d1 cl2
            by_cases hin : i < N1
            · have i3 : (i : Int) < (N1 : Int) := by omega
              have iL : i < L2.length := by rw [A1.out.len]; exact hin
              have AR := A1.out.below HB.out
              obtain ⟨b', o', hb', _, h1, _⟩ := AR.cat iL
              cases hb'
              obtain ⟨lb, lo, Hla, _, h2⟩ := AR.lat iL
              obtain ⟨t, Ht⟩ : ∃ t, Hid (L2[i] = t) := ⟨L2[i], (rfl : L2[i] = L2[i])⟩
              rw [Ht.out] at h1 h2
              have g1 : wr.cell? ⟨gg, 1, none⟩ = some (.slice la1 N1 lc1) := by simp [World.cell?, AR.k]
              rw [Hla] at g1
              clear Hla
              have TM : t ∈ L2 := by rw [← Ht.out]; exact List.getElem_mem iL
              have LT : Hid (Lg wr t.a t.m t.c t.X) := (LGV.out t TM).below HB.out
              have LW : Hid (Lg wr a m c X) := LLV.out.below HB.out
              have CT : Hid (Cms wr 0 t.a t.m t.X) := LT.out.cms
              have CL : Hid (Cms wr 0 a m X) := LW.out.cms
              have AW : Hid (Ag wr B gg ba1 la1 (some ⟨cb, co, none⟩) bc1 lc1 cc1 N1 L2) := AR
              have HC2 : Hid (hf ≤ t.k → led t.X <+: led X ∨ led X <+: led t.X) := UK.out t (by rw [HBU.out, HL2.out]; exact TM)
              clear AR TM
              by_cases hk : (hf : Int) ≤ (t.k : Int)
              · by_cases hp : led t.X <+: led X
                · have D : Hid (decide (led t.X <+: led X) = true) := decide_eq_true hp
                  go_wp2_with (go_at_call 36; refine (begins_n CT CL LW.out.cap LW.out.z).mono ?_; rintro e w5 ⟨rfl, H5⟩; rw [D.out])
                  go_roundw
                  case rel => exact ⟨i + 1, by omega, by go_num, HB.out.trans (H5.out.mono HB.out.size)⟩
                  case measure => simp [intOf]; omega
                · have D : Hid (decide (led t.X <+: led X) = false) := decide_eq_false hp
                  have D2 : Hid (decide (led X <+: led t.X) = true) := decide_eq_true ((HC2.out (by omega)).resolve_left hp)
                  go_wp2_with (first
                    | (go_at_call 36; refine (begins_n CL5 CT5 LT.out.cap LT.out.z).mono ?_; rintro e w6 ⟨rfl, H6⟩; rw [D2.out])
                    | (go_at_call 36; refine (begins_n CT CL LW.out.cap LW.out.z).mono ?_; rintro e w5 ⟨rfl, H5⟩; rw [D.out]
                       have g5 : w5.cell? ⟨gg, 1, none⟩ = some (.slice (some ⟨lb, lo, none⟩) N1 lc1) := (H5.out.cell (p := ⟨gg, 1, none⟩) (cell_lt g1)).trans g1
                       have h5 : w5.cell? ⟨lb, lo + i, none⟩ = some (.slice t.a t.m t.c) := (H5.out.cell (p := ⟨lb, lo + i, none⟩) (cell_lt h2)).trans h2
                       have CT5 : Hid (Cms w5 0 t.a t.m t.X) := CT.out.below H5.out
                       have CL5 : Hid (Cms w5 0 a m X) := CL.out.below H5.out))
                  go_roundw
                  case rel => exact ⟨i + 1, by omega, by go_num, (HB.out.trans (H5.out.mono HB.out.size)).trans (H6.out.mono (Nat.le_trans HB.out.size H5.out.size))⟩
                  case measure => simp [intOf]; omega
              · have hk2 : (t.k : Int) < (hf : Int) := by omega
                go_wp2
                go_roundw
                case rel => exact ⟨i + 1, by omega, by go_num, HB.out⟩
                case measure => simp [intOf]; omega
            · go_wp2
              go_ret
              exact ⟨rfl, FIN.out.below HB.out⟩
end Go.Proofs.YtdfnjcjpblkmcaaDoor
