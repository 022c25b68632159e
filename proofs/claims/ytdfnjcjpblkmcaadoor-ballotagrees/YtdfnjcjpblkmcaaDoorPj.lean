/- take: the walk. -/
import Derived.Test.YtdfnjcjpblkmcaaDoorPi
import Derived.Test.YtdfnjcjpblkmcaaDoorAo
namespace Go.Proofs.YtdfnjcjpblkmcaaDoor
open Go.ChangeShapes Go.WideShapes Go.ChangeAt Go.RowKit
set_option maxRecDepth 20000
set_option linter.unusedVariables false
set_option linter.unusedSimpArgs false
structure Tq (W : World) (gs kk : Nat) (fb : Bool) (ab o gk g6 : Nat) (rr qq : Int) (a : Option Addr) (m c : Nat) : Prop where
  s : W.cell? ⟨gs, kk, none⟩ = some (.bool fb)
  p : W.cell? ⟨ab, o, none⟩ = some (.pointer (some ⟨gk, 0, none⟩))
  b0 : W.cell? ⟨g6, 0, none⟩ = some (.int .i64 rr)
  b1 : W.cell? ⟨g6, 1, none⟩ = some (.int .i64 qq)
  l : W.cell? ⟨g6, 2, none⟩ = some (.slice a m c)
theorem Lg.fp {w : World} {a : Option Addr} {m c : Nat} {X : List Cx} (h : Lg w a m c X) {q : Nat} (hq : fpc a m X q) : ∃ cs fr, w.heap[q]? = some (.cells cs 81 fr) := by
  rcases hq with ⟨_, hq⟩ | ⟨x, hx, h1, _⟩
  · exact h.ty q hq
  · have := h.np x hx; omega
theorem info4 : (Tryd.prog.info? 4).map (fun i => (i.zero, i.size, i.bytes)) = some (some (.bool false), 1, 1) := by kernel_rfl
theorem make_bools (n : Nat) (h : n ≤ 1000) (w : World) : (Instr.makeSlice 93 (.int .i64 (n : Int)) (.int .i64 (n : Int))).run Tryd.prog w = .ok (.slice (some ⟨w.heap.size, 0, none⟩) n n) (w.alloc (.cells (madeCells #[.bool false] n) 4)) := by
  obtain ⟨i, hi, hz0, hz1, hz2⟩ := info_parts info4
  have hr := run_make (P := Tryd.prog) w 93 4 i (.bool false) Tryd.underlying93 hi hz0 .i64 .i64 n n (by omega) (by omega) (by rw [hz2]; omega) (by omega)
  simpa [hz1, Value.cells] using hr
/- what take leaves -/
def TkR (w w' : World) (B H gg ab ao n hf : Nat) (G : Nat → Nat) (U R : Nat → Prop) (Ps : List (Bal × List Cm)) (b : Bal) (l0 : Nat) (V0 : Nat → Bal → Bool) : Prop :=
  ∃ S V L ba la ca bc lc cc N, Gh n hf S V Ps L ∧ Sys w' H ab ao n G S (fun q => q = gg ∨ rws ba la ca q ∨ U q) ∧ Ag w' B gg ba la ca bc lc cc N L ∧ (∀ t ∈ L, Lg w' t.a t.m t.c t.X) ∧ Ch w w' (fun q => (∃ i, i < n ∧ q = G i) ∨ q = gg ∨ R q) ∧ (∀ q, rws ba la ca q → R q ∨ w.heap.size ≤ q) ∧ L.length ≤ l0 + 1 ∧ (∀ j x, x ≠ b → V j x = V0 j x) ∧ (∃ cs fr, w'.heap[ab]? = some (.cells cs 25 fr))
set_option maxHeartbeats 4000000 in
theorem take_n {M : Nat} {E : Nat → Addr} {w : World} {B H gg ab ao n hf acp : Nat} {G : Nat → Nat} {S : Nat → As} {V : Nat → Bal → Bool} {U : Nat → Prop} {Ps : List (Bal × List Cm)} {L : List Ct} {ba la ca : Option Addr} {bc lc cc N : Nat} {a : Option Addr} {m c : Nat} {X : List Cx} {rr qq : Int} {ta : Option Addr} {tn tc : Nat} {T : List Int}
    (hGh : Hid (Gh n hf S V Ps L)) (hSy : Hid (Sys w H ab ao n G S (fun q => q = gg ∨ rws ba la ca q ∨ U q))) (hAg : Hid (Ag w B gg ba la ca bc lc cc N L)) (hLg : Hid (∀ t ∈ L, Lg w t.a t.m t.c t.X)) (hAt : Hid (∃ cs fr, w.heap[ab]? = some (.cells cs 25 fr))) (hLL : Hid (Lg w a m c X)) (hP : Hid (((rr, qq), led X) ∈ Ps)) (hV : Hid (∀ j, j < n → V j (rr, qq) = false))
    (hE : Hid (∀ w', Below B w w' → Sent w' M E)) (hM : 2 ≤ M) (hT : Hid (∀ w', Below B w w' → Irow w' 0 ta tn T)) (hTI : Hid (∀ j, I64 (T.getD j 0))) (hn : 0 < n) (hn7 : n ≤ 7) (hh : Hid (n < hf + hf)) (hh2 : hf ≤ 100) (hl : Hid (L.length ≤ 800)) (hB : Hid (B ≤ w.heap.size)) (hGB : Hid (∀ i, i < n → B ≤ G i)) (hgB : Hid (B ≤ gg)) (hH : Hid (H ≤ w.heap.size)) (hU : Hid (∀ q, U q → q < w.heap.size)) :
    Calls Tryd.prog 20 #[.slice (some ⟨ab, ao, none⟩) n acp, .pointer (some ⟨gg, 0, none⟩), .agg #[.int .i64 rr, .int .i64 qq, .slice a m c, .slice ta tn tc], .int .i64 hf] w fun e w' => e = .returned (.bool true) ∧ Hid (TkR w w' B H gg ab ao n hf G U (rws ba la ca) Ps (rr, qq) L.length V) := by
  obtain ⟨g6, Hg6⟩ : ∃ g6, Hid (w.heap.size = g6) := ⟨_, rfl⟩
  obtain ⟨gs, Hgs⟩ : ∃ gs, Hid (w.heap.size + 1 = gs) := ⟨_, rfl⟩
  obtain ⟨w2, Hw2⟩ : ∃ w2, Hid ((w.alloc (.cells #[.int .i64 rr, .int .i64 qq, .slice a m c, .slice ta tn tc] 68)).alloc (.cells (madeCells #[.bool false] n) 4) = w2) := ⟨_, rfl⟩
  have B2 : Hid (Below w.heap.size w w2) := by rw [← Hw2.out]; exact alloc2 w _ _
  have k6 : Hid (w2.heap[g6]? = some (.cells #[.int .i64 rr, .int .i64 qq, .slice a m c, .slice ta tn tc] 68 (0, 0))) := by
    rw [← Hw2.out, ← Hg6.out]
    exact ((alloc1 (w.alloc (.cells #[.int .i64 rr, .int .i64 qq, .slice a m c, .slice ta tn tc] 68)) (.cells (madeCells #[.bool false] n) 4)).block w.heap.size (by simp)).trans (heap_alloc_new w _)
  have ks : Hid (w2.heap[gs]? = some (.cells (sn n (fun _ => false)) 4 (0, 0))) := by
    rw [← Hw2.out, ← Hgs.out, sn_made]
    have h := heap_alloc_new (w.alloc (.cells #[.int .i64 rr, .int .i64 qq, .slice a m c, .slice ta tn tc] 68)) (.cells (sn n (fun _ => false)) 4)
    show _ = _
    simpa using h
  have TK0 : Hid (Tk w w2 B H gg g6 gs ab ao n hf G U (rws ba la ca) Ps (rr, qq) L.length #[.int .i64 rr, .int .i64 qq, .slice a m c, .slice ta tn tc] S V L (fun _ => false) ba la ca bc lc cc N) := by
    obtain ⟨cs, fr, e⟩ := hAt.out
    have k : ∀ {q : Nat} {o : Obj}, w.heap[q]? = some o → w2.heap[q]? = some o := fun {q o} e => (B2.out.block q (Array.getElem?_eq_some_iff.1 e).1).trans e
    refine ⟨hGh.out, hSy.out.ch (T := fun _ => False) (Ch.below B2.out) (fun _ _ e => e.elim) (fun e => e) (fun _ _ e => e) (fun q e => ?_), hAg.out.below B2.out, fun t ht => (hLg.out t ht).below B2.out, Ch.below B2.out, fun q e => .inl e, ks.out, fun j hj _ => hV.out j hj, k6.out, ⟨cs, fr, k e⟩, .inl (Nat.le_refl _), hU.out, fun i hi => ?_⟩
    · rcases e with e | e | e | e
      · exact .inl (.inl e)
      · exact .inl (.inr (.inl e))
      · exact .inl (.inr (.inr e))
      · exact .inr (by have := Hgs.out; omega)
    · obtain ⟨a1, m1, c1, X1, h1, _⟩ := hSy.out.acc i hi
      exact ⟨_, _, k h1.blk⟩
  have GS : Hid (w.heap.size ≤ gs) := by have := Hgs.out; show w.heap.size ≤ gs; omega
  have RB : Hid (∀ q, ((∃ i, i < n ∧ q = G i) ∨ q = gg ∨ rws ba la ca q) → B ≤ q) := by
    rintro q (⟨i, hi, e⟩ | e | e | e | e)
    · rw [e]; exact hGB.out i hi
    · rw [e]; exact hgB.out
    · exact (hAg.out.ob.lt q (by rw [ownBlock_slice]; exact e)).1
    · exact (hAg.out.ol.lt q (by rw [ownBlock_slice]; exact e)).1
    · exact (hAg.out.oc.lt q (by rw [ownBlock_slice]; exact e)).1
  have bel : Hid (∀ {wr : World}, Ch w wr (fun q => (∃ i, i < n ∧ q = G i) ∨ q = gg ∨ rws ba la ca q) → Below B w wr) := fun {wr} h => h.toBelow hB.out (fun q hq e => by have := RB.out q e; omega)
  have ni : (0 : Int) < (n : Int) := by omega
  have nne : ¬ ((n : Int) = 0) := by omega
  have sz : tn ≤ 17592186043904 := (hT.out w (Below.refl _ _)).sz
  have x3 : w2.cell? ⟨g6, 3, none⟩ = some (.slice ta tn tc) := by simp [World.cell?, k6.out]
  have MK := make_bools n (by omega)
  go_enter Tryd.func20, Tryd.ntmps20
  go_upto_region 3 with (fail)
  rw [Hw2.out, Hgs.out, Hg6.out]
  go_wp2
  clear x3
  go_loopw [21] (fun ti wr => ∃ i : Nat, i ≤ tn ∧ ti = .int .i64 i ∧ Hid (∃ S1 V1 L1 f ba1 la1 ca1 bc1 lc1 cc1 N1, Tk w wr B H gg g6 gs ab ao n hf G U (rws ba la ca) Ps (rr, qq) L.length #[.int .i64 rr, .int .i64 qq, .slice a m c, .slice ta tn tc] S1 V1 L1 f ba1 la1 ca1 bc1 lc1 cc1 N1 ∧ ∀ j x, x ≠ (rr, qq) → V1 j x = V j x)) (fun ti _ => tn - (intOf ti).toNat)
  case atStart => exact ⟨0, by omega, rfl, _, _, _, _, _, _, _, _, _, _, _, TK0.out, fun _ _ _ => rfl⟩
  case round =>
    obtain ⟨i, hi, rfl, HT0⟩ := hrel
    obtain ⟨S1, V1, L1, f, ba1, la1, ca1, bc1, lc1, cc1, N1, HTK0, HVV0⟩ := HT0.out
    have HTK : Hid (Tk w wr B H gg g6 gs ab ao n hf G U (rws ba la ca) Ps (rr, qq) L.length #[.int .i64 rr, .int .i64 qq, .slice a m c, .slice ta tn tc] S1 V1 L1 f ba1 la1 ca1 bc1 lc1 cc1 N1) := HTK0
    have HVV : Hid (∀ j x, x ≠ (rr, qq) → V1 j x = V j x) := HVV0
    clear HTK0 HVV0 HT0
    by_cases hin : i < tn
    · have i3 : (i : Int) < (tn : Int) := by omega
      obtain ⟨tb, tO, rfl, e1⟩ := (hT.out wr (bel.out HTK.out.ch)).at_ hin
      obtain ⟨x, Hx⟩ : ∃ x, Hid (T.getD i 0 = x) := ⟨_, rfl⟩
      rw [Hx.out] at e1
      have xI : I64 x := by rw [← Hx.out]; exact hTI.out i
      unfold I64 at xI
      obtain ⟨t, kk, m1, t1, t2, m2, hkk⟩ := pickn x n hn
      go_upto_region 6 with (fail)
      clear e1
      go_upto_region 7 with (fail)
      clear m1 m2 t1 t2 xI
      have hk3 : (kk : Int) < (n : Int) := by omega
      obtain ⟨wd, Hwd⟩ : ∃ wd, Hid (wr.drew = wd) := ⟨_, rfl⟩
      have TD : Hid (Tk w wd B H gg g6 gs ab ao n hf G U (rws ba la ca) Ps (rr, qq) L.length #[.int .i64 rr, .int .i64 qq, .slice a m c, .slice (some ⟨tb, tO, none⟩) tn tc] S1 V1 L1 f ba1 la1 ca1 bc1 lc1 cc1 N1) := by rw [← Hwd.out]; exact HTK.out.below (Below.refl _ _).drew
      clear HTK
      obtain ⟨a1, m1, c1, X1, HA0, HF0⟩ := TD.out.sys.acc kk hkk
      have HA : Hid (Acc wd 84 H (G kk) (S1 kk) a1 m1 c1 X1) := HA0
      have HF : Hid (∀ q, fpc a1 m1 X1 q → ¬ (q = gg ∨ rws ba1 la1 ca1 q ∨ U q ∨ q = gs)) := HF0
      clear HA0 HF0
      have HE : Hid (Sent wd M E) := hE.out wd (bel.out TD.out.ch)
      have LD : Hid (Lg wd a m c X) := hLL.out.keep (K81.ch TD.out.ch (fun q cs fr hq e => by
        rcases e with ⟨j, hj, e⟩ | e
        · obtain ⟨a9, m9, c9, X9, h9, _⟩ := hSy.out.acc j hj
          rw [e, h9.blk] at hq
          cases hq
        · exact hAg.out.off hq (by decide) (by decide) (by decide) (by decide) e))
      have HLL : Hid (Cms wd 0 a m X) := LD.out.cms
      have HLZ : Hid (a = none → c = 0) := LD.out.z
      have HH : Hid (H ≤ wd.heap.size) := Nat.le_trans hH.out TD.out.ch.size
      have HLO : Hid (∀ q, fpc a m X q → q ≠ G kk) := fun q hq e => by
        obtain ⟨cs, fr, h⟩ := LD.out.fp hq
        rw [e, HA.out.blk] at h
        cases h
      by_cases hsn : f kk = true
      · have Q0 : Tq wd gs kk true ab (ao + kk) (G kk) g6 rr qq a m c := ⟨by rw [sn_cell TD.out.sn hkk, hsn], TD.out.sys.row kk hkk, by simp [World.cell?, TD.out.bx], by simp [World.cell?, TD.out.bx], by simp [World.cell?, TD.out.bx]⟩
        refine wp_region_till (S := tillP 13 (fun W => Tq W gs kk true ab (ao + kk) (G kk) g6 rr qq a m c)) (by kernel_rfl) (.inr (by rw [Hwd.out]; exact Q0)) (fun hS => ?_)
        rw [Hwd.out] at hS ⊢
        clear Q0
        refine till_take (i := 0) (v := .slice (some ⟨gs, 0, none⟩) n n) rfl (by kernel_rfl) (by kernel_rfl) (by kernel_rfl) (fun _ _ _ h => h) (fun L w => tillP_set (by decide)) (Or.inl ⟨by rfl, fun w => by go_simp⟩) hS (fun hSb => ?_)
        simp only [List.getElem_toArray, List.getElem_cons_zero, List.getElem_cons_succ, Act.put, List.setIfInBounds_toArray, List.set_cons_zero, List.set_cons_succ]
        clear hS
        refine till_take (i := 1) (v := .int .i64 (kk : Int)) rfl (by kernel_rfl) (by kernel_rfl) (by kernel_rfl) (fun _ _ _ h => h) (fun L w => tillP_set (by decide)) (Or.inl ⟨by rfl, fun w => by go_simp⟩) hSb (fun hS => ?_)
        simp only [List.getElem_toArray, List.getElem_cons_zero, List.getElem_cons_succ, Act.put, List.setIfInBounds_toArray, List.set_cons_zero, List.set_cons_succ]
        clear hSb
        refine till_take (i := 2) (v := .pointer (some ⟨gs, kk, none⟩)) rfl (by kernel_rfl) (by kernel_rfl) (by kernel_rfl) (fun _ _ _ h => h) (fun L w => tillP_set (by decide)) (Or.inl ⟨by rfl, fun w => by go_simp⟩) hS (fun hSb => ?_)
        simp only [List.getElem_toArray, List.getElem_cons_zero, List.getElem_cons_succ, Act.put, List.setIfInBounds_toArray, List.set_cons_zero, List.set_cons_succ]
        clear hS
        refine till_readc (i := 3) (cs := [4, 13]) (v := .bool true) (T := fun W => Tq W gs kk true ab (ao + kk) (G kk) g6 rr qq a m c) rfl (by kernel_rfl) (by kernel_rfl) (by kernel_rfl) (by kernel_rfl) (by kernel_rfl) (fun _ _ _ h => h) (fun L w => tillP_set (by decide)) (fun L w h1 h2 => tillP_out (h1 13 (by simp)) h2) (Or.inl ⟨by rfl, fun w h => by have q0 := h.s; go_simp⟩) hSb (fun hS => ?_)
        simp only [List.getElem_toArray, List.getElem_cons_zero, List.getElem_cons_succ, Act.put, List.setIfInBounds_toArray, List.set_cons_zero, List.set_cons_succ]
        clear hSb
        refine till_take (i := 4) (v := .bool true) rfl (by kernel_rfl) (by kernel_rfl) (by kernel_rfl) (fun _ _ _ h => h) (fun L w => tillP_set (by decide)) (Or.inl ⟨by rfl, fun w => by go_simp⟩) hS (fun hSb => ?_)
        simp only [List.getElem_toArray, List.getElem_cons_zero, List.getElem_cons_succ, Act.put, List.setIfInBounds_toArray, List.set_cons_zero, List.set_cons_succ]
        clear hS
        refine till_take (i := 5) (v := undef) rfl (by kernel_rfl) (by kernel_rfl) (by kernel_rfl) (fun _ _ _ h => h) (fun L w => tillP_set (by decide)) (Or.inr ⟨by rfl, rfl⟩) hSb (fun hS => ?_)
        simp only [List.getElem_toArray, List.getElem_cons_zero, List.getElem_cons_succ, Act.put, List.setIfInBounds_toArray, List.set_cons_zero, List.set_cons_succ]
        clear hSb
        refine till_take (i := 6) (v := undef) rfl (by kernel_rfl) (by kernel_rfl) (by kernel_rfl) (fun _ _ _ h => h) (fun L w => tillP_set (by decide)) (Or.inr ⟨by rfl, rfl⟩) hS (fun hSb => ?_)
        simp only [List.getElem_toArray, List.getElem_cons_zero, List.getElem_cons_succ, Act.put, List.setIfInBounds_toArray, List.set_cons_zero, List.set_cons_succ]
        clear hS
        refine till_take (i := 7) (v := undef) rfl (by kernel_rfl) (by kernel_rfl) (by kernel_rfl) (fun _ _ _ h => h) (fun L w => tillP_set (by decide)) (Or.inr ⟨by rfl, rfl⟩) hSb (fun hS => ?_)
        simp only [List.getElem_toArray, List.getElem_cons_zero, List.getElem_cons_succ, Act.put, List.setIfInBounds_toArray, List.set_cons_zero, List.set_cons_succ]
        clear hSb
        refine till_take (i := 8) (v := undef) rfl (by kernel_rfl) (by kernel_rfl) (by kernel_rfl) (fun _ _ _ h => h) (fun L w => tillP_set (by decide)) (Or.inr ⟨by rfl, rfl⟩) hS (fun hSb => ?_)
        simp only [List.getElem_toArray, List.getElem_cons_zero, List.getElem_cons_succ, Act.put, List.setIfInBounds_toArray, List.set_cons_zero, List.set_cons_succ]
        clear hS
        refine till_take (i := 9) (v := undef) rfl (by kernel_rfl) (by kernel_rfl) (by kernel_rfl) (fun _ _ _ h => h) (fun L w => tillP_set (by decide)) (Or.inr ⟨by rfl, rfl⟩) hSb (fun hS => ?_)
        simp only [List.getElem_toArray, List.getElem_cons_zero, List.getElem_cons_succ, Act.put, List.setIfInBounds_toArray, List.set_cons_zero, List.set_cons_succ]
        clear hSb
        refine till_take (i := 10) (v := undef) rfl (by kernel_rfl) (by kernel_rfl) (by kernel_rfl) (fun _ _ _ h => h) (fun L w => tillP_set (by decide)) (Or.inr ⟨by rfl, rfl⟩) hS (fun hSb => ?_)
        simp only [List.getElem_toArray, List.getElem_cons_zero, List.getElem_cons_succ, Act.put, List.setIfInBounds_toArray, List.set_cons_zero, List.set_cons_succ]
        clear hS
        refine till_take (i := 11) (v := undef) rfl (by kernel_rfl) (by kernel_rfl) (by kernel_rfl) (fun _ _ _ h => h) (fun L w => tillP_set (by decide)) (Or.inr ⟨by rfl, rfl⟩) hSb (fun hS => ?_)
        simp only [List.getElem_toArray, List.getElem_cons_zero, List.getElem_cons_succ, Act.put, List.setIfInBounds_toArray, List.set_cons_zero, List.set_cons_succ]
        clear hSb
        refine till_take (i := 12) (v := undef) rfl (by kernel_rfl) (by kernel_rfl) (by kernel_rfl) (fun _ _ _ h => h) (fun L w => tillP_set (by decide)) (Or.inr ⟨by rfl, rfl⟩) hS (fun hSb => ?_)
        simp only [List.getElem_toArray, List.getElem_cons_zero, List.getElem_cons_succ, Act.put, List.setIfInBounds_toArray, List.set_cons_zero, List.set_cons_succ]
        clear hS
        refine till_one (i := 13) (by kernel_rfl) rfl (fun K hK => ?_)
        simp only [List.getElem_toArray, List.getElem_cons_zero, List.getElem_cons_succ]
        rw [if_neg (by intro h; have h2 : false = true := h; cases h2)]
        refine hK.out _ _ (.inl (by rfl)) (fun hS => ?_)
        clear hK K
        try simp only [List.getElem_toArray, List.getElem_cons_zero, List.getElem_cons_succ, Act.put, List.setIfInBounds_toArray, List.set_cons_zero, List.set_cons_succ]
        clear hSb
        refine till_take (i := 14) (v := undef) rfl (by kernel_rfl) (by kernel_rfl) (by kernel_rfl) (fun _ _ _ h => h) (fun L w => tillP_set (by decide)) (Or.inr ⟨by rfl, rfl⟩) hS (fun hSb => ?_)
        simp only [List.getElem_toArray, List.getElem_cons_zero, List.getElem_cons_succ, Act.put, List.setIfInBounds_toArray, List.set_cons_zero, List.set_cons_succ]
        clear hS
        refine till_take (i := 15) (v := .bool true) rfl (by kernel_rfl) (by kernel_rfl) (by kernel_rfl) (fun _ _ _ h => h) (fun L w => tillP_set (by decide)) (Or.inl ⟨by rfl, fun w => by go_simp⟩) hSb (fun hS => ?_)
        simp only [List.getElem_toArray, List.getElem_cons_zero, List.getElem_cons_succ, Act.put, List.setIfInBounds_toArray, List.set_cons_zero, List.set_cons_succ]
        clear hSb
        refine till_done (by kernel_rfl) ?_ _
        clear hS
        go_wp2
        go_roundw
        case rel => exact ⟨i + 1, by omega, by go_num, S1, V1, L1, f, ba1, la1, ca1, bc1, lc1, cc1, N1, TD.out, HVV.out⟩
        case measure => simp [intOf]; omega
      · have hsf : f kk = false := by simpa using hsn
        have HSF : Hid (f kk = false) := hsf
        have Q0 : Tq wd gs kk false ab (ao + kk) (G kk) g6 rr qq a m c := ⟨by rw [sn_cell TD.out.sn hkk, hsf], TD.out.sys.row kk hkk, by simp [World.cell?, TD.out.bx], by simp [World.cell?, TD.out.bx], by simp [World.cell?, TD.out.bx]⟩
        clear hsn hsf
        by_cases hk : prk (S1 kk) rr qq = 0
        · have HK : Hid (prk (S1 kk) rr qq = 0) := hk
          have EV : Hid (errv E (prk (S1 kk) rr qq) = .nilIface) := by show _ = _; rw [hk]; rfl
          clear hk
          refine wp_region_till (S := tillP 13 (fun W => Tq W gs kk false ab (ao + kk) (G kk) g6 rr qq a m c)) (by kernel_rfl) (.inr (by rw [Hwd.out]; exact Q0)) (fun hS => ?_)
          rw [Hwd.out] at hS ⊢
          clear Q0
          refine till_take (i := 0) (v := .slice (some ⟨gs, 0, none⟩) n n) rfl (by kernel_rfl) (by kernel_rfl) (by kernel_rfl) (fun _ _ _ h => h) (fun L w => tillP_set (by decide)) (Or.inl ⟨by rfl, fun w => by go_simp⟩) hS (fun hSb => ?_)
          simp only [List.getElem_toArray, List.getElem_cons_zero, List.getElem_cons_succ, Act.put, List.setIfInBounds_toArray, List.set_cons_zero, List.set_cons_succ]
          clear hS
          refine till_take (i := 1) (v := .int .i64 (kk : Int)) rfl (by kernel_rfl) (by kernel_rfl) (by kernel_rfl) (fun _ _ _ h => h) (fun L w => tillP_set (by decide)) (Or.inl ⟨by rfl, fun w => by go_simp⟩) hSb (fun hS => ?_)
          simp only [List.getElem_toArray, List.getElem_cons_zero, List.getElem_cons_succ, Act.put, List.setIfInBounds_toArray, List.set_cons_zero, List.set_cons_succ]
          clear hSb
          refine till_take (i := 2) (v := .pointer (some ⟨gs, kk, none⟩)) rfl (by kernel_rfl) (by kernel_rfl) (by kernel_rfl) (fun _ _ _ h => h) (fun L w => tillP_set (by decide)) (Or.inl ⟨by rfl, fun w => by go_simp⟩) hS (fun hSb => ?_)
          simp only [List.getElem_toArray, List.getElem_cons_zero, List.getElem_cons_succ, Act.put, List.setIfInBounds_toArray, List.set_cons_zero, List.set_cons_succ]
          clear hS
          refine till_readc (i := 3) (cs := [4, 13]) (v := .bool false) (T := fun W => Tq W gs kk false ab (ao + kk) (G kk) g6 rr qq a m c) rfl (by kernel_rfl) (by kernel_rfl) (by kernel_rfl) (by kernel_rfl) (by kernel_rfl) (fun _ _ _ h => h) (fun L w => tillP_set (by decide)) (fun L w h1 h2 => tillP_out (h1 13 (by simp)) h2) (Or.inl ⟨by rfl, fun w h => by have q0 := h.s; go_simp⟩) hSb (fun hS => ?_)
          simp only [List.getElem_toArray, List.getElem_cons_zero, List.getElem_cons_succ, Act.put, List.setIfInBounds_toArray, List.set_cons_zero, List.set_cons_succ]
          clear hSb
          refine till_take (i := 4) (v := .bool false) rfl (by kernel_rfl) (by kernel_rfl) (by kernel_rfl) (fun _ _ _ h => h) (fun L w => tillP_set (by decide)) (Or.inl ⟨by rfl, fun w => by go_simp⟩) hS (fun hSb => ?_)
          simp only [List.getElem_toArray, List.getElem_cons_zero, List.getElem_cons_succ, Act.put, List.setIfInBounds_toArray, List.set_cons_zero, List.set_cons_succ]
          clear hS
          refine till_take (i := 5) (v := .slice (some ⟨ab, ao, none⟩) n acp) rfl (by kernel_rfl) (by kernel_rfl) (by kernel_rfl) (fun _ _ _ h => h) (fun L w => tillP_set (by decide)) (Or.inl ⟨by rfl, fun w => by go_simp⟩) hSb (fun hS => ?_)
          simp only [List.getElem_toArray, List.getElem_cons_zero, List.getElem_cons_succ, Act.put, List.setIfInBounds_toArray, List.set_cons_zero, List.set_cons_succ]
          clear hSb
          refine till_take (i := 6) (v := .int .i64 (kk : Int)) rfl (by kernel_rfl) (by kernel_rfl) (by kernel_rfl) (fun _ _ _ h => h) (fun L w => tillP_set (by decide)) (Or.inl ⟨by rfl, fun w => by go_simp⟩) hS (fun hSb => ?_)
          simp only [List.getElem_toArray, List.getElem_cons_zero, List.getElem_cons_succ, Act.put, List.setIfInBounds_toArray, List.set_cons_zero, List.set_cons_succ]
          clear hS
          refine till_take (i := 7) (v := .pointer (some ⟨ab, ao + kk, none⟩)) rfl (by kernel_rfl) (by kernel_rfl) (by kernel_rfl) (fun _ _ _ h => h) (fun L w => tillP_set (by decide)) (Or.inl ⟨by rfl, fun w => by go_simp⟩) hSb (fun hS => ?_)
          simp only [List.getElem_toArray, List.getElem_cons_zero, List.getElem_cons_succ, Act.put, List.setIfInBounds_toArray, List.set_cons_zero, List.set_cons_succ]
          clear hSb
          refine till_readc (i := 8) (cs := [13]) (v := .pointer (some ⟨G kk, 0, none⟩)) (T := fun W => Tq W gs kk false ab (ao + kk) (G kk) g6 rr qq a m c) rfl (by kernel_rfl) (by kernel_rfl) (by kernel_rfl) (by kernel_rfl) (by kernel_rfl) (fun _ _ _ h => h) (fun L w => tillP_set (by decide)) (fun L w h1 h2 => tillP_out (h1 13 (by simp)) h2) (Or.inl ⟨by rfl, fun w h => by have q0 := h.p; go_simp⟩) hS (fun hSb => ?_)
          simp only [List.getElem_toArray, List.getElem_cons_zero, List.getElem_cons_succ, Act.put, List.setIfInBounds_toArray, List.set_cons_zero, List.set_cons_succ]
          clear hS
          refine till_take (i := 9) (v := .pointer (some ⟨g6, 0, none⟩)) rfl (by kernel_rfl) (by kernel_rfl) (by kernel_rfl) (fun _ _ _ h => h) (fun L w => tillP_set (by decide)) (Or.inl ⟨by rfl, fun w => by go_simp⟩) hSb (fun hS => ?_)
          simp only [List.getElem_toArray, List.getElem_cons_zero, List.getElem_cons_succ, Act.put, List.setIfInBounds_toArray, List.set_cons_zero, List.set_cons_succ]
          clear hSb
          refine till_readc (i := 10) (cs := [13]) (v := bal rr qq) (T := fun W => Tq W gs kk false ab (ao + kk) (G kk) g6 rr qq a m c) rfl (by kernel_rfl) (by kernel_rfl) (by kernel_rfl) (by kernel_rfl) (by kernel_rfl) (fun _ _ _ h => h) (fun L w => tillP_set (by decide)) (fun L w h1 h2 => tillP_out (h1 13 (by simp)) h2) (Or.inl ⟨by rfl, fun w h => by have q0 := h.b0; have q1 := h.b1; go_simp⟩) hS (fun hSb => ?_)
          simp only [List.getElem_toArray, List.getElem_cons_zero, List.getElem_cons_succ, Act.put, List.setIfInBounds_toArray, List.set_cons_zero, List.set_cons_succ]
          clear hS
          refine till_take (i := 11) (v := .pointer (some ⟨g6, 2, none⟩)) rfl (by kernel_rfl) (by kernel_rfl) (by kernel_rfl) (fun _ _ _ h => h) (fun L w => tillP_set (by decide)) (Or.inl ⟨by rfl, fun w => by go_simp⟩) hSb (fun hS => ?_)
          simp only [List.getElem_toArray, List.getElem_cons_zero, List.getElem_cons_succ, Act.put, List.setIfInBounds_toArray, List.set_cons_zero, List.set_cons_succ]
          clear hSb
          refine till_readc (i := 12) (cs := [13]) (v := .slice a m c) (T := fun W => Tq W gs kk false ab (ao + kk) (G kk) g6 rr qq a m c) rfl (by kernel_rfl) (by kernel_rfl) (by kernel_rfl) (by kernel_rfl) (by kernel_rfl) (fun _ _ _ h => h) (fun L w => tillP_set (by decide)) (fun L w h1 h2 => tillP_out (h1 13 (by simp)) h2) (Or.inl ⟨by rfl, fun w h => by have q0 := h.l; go_simp⟩) hS (fun hSb => ?_)
          simp only [List.getElem_toArray, List.getElem_cons_zero, List.getElem_cons_succ, Act.put, List.setIfInBounds_toArray, List.set_cons_zero, List.set_cons_succ]
          clear hS
          refine till_one (i := 13) (by kernel_rfl) rfl (fun K hK => ?_)
          simp only [List.getElem_toArray, List.getElem_cons_zero, List.getElem_cons_succ]
          rw [if_pos (by rfl)]
          go_simp
          go_wp2_with (go_at_call 16; refine (accept_n HA HE (by omega) rr qq HLL HLZ HH HLO).mono ?_; rintro e w5 ⟨rfl, H5⟩; rw [EV.out])
          refine hK.out _ _ (.inl (by rfl)) (fun hS => ?_)
          clear hK K
          try simp only [List.getElem_toArray, List.getElem_cons_zero, List.getElem_cons_succ, Act.put, List.setIfInBounds_toArray, List.set_cons_zero, List.set_cons_succ]
          clear hSb
          refine till_take (i := 14) (v := .bool false) rfl (by kernel_rfl) (by kernel_rfl) (by kernel_rfl) (fun _ _ _ h => h) (fun L w => tillP_set (by decide)) (Or.inl ⟨by rfl, fun w => by go_simp⟩) hS (fun hSb => ?_)
          simp only [List.getElem_toArray, List.getElem_cons_zero, List.getElem_cons_succ, Act.put, List.setIfInBounds_toArray, List.set_cons_zero, List.set_cons_succ]
          clear hS
          refine till_take (i := 15) (v := .bool false) rfl (by kernel_rfl) (by kernel_rfl) (by kernel_rfl) (fun _ _ _ h => h) (fun L w => tillP_set (by decide)) (Or.inl ⟨by rfl, fun w => by go_simp⟩) hSb (fun hS => ?_)
          simp only [List.getElem_toArray, List.getElem_cons_zero, List.getElem_cons_succ, Act.put, List.setIfInBounds_toArray, List.set_cons_zero, List.set_cons_succ]
          clear hSb
          refine till_done (by kernel_rfl) ?_ _
          clear hS
          obtain ⟨a5, m5, c5, X5, K1, K2, K3⟩ := H5.out
          have s5 : w5.heap[gs]? = some (.cells (sn n f) 4 (0, 0)) := chT K3 HA.out.blk TD.out.sn (by decide)
          have y0 : w5.cell? ⟨gs, kk, none⟩ = some (.bool false) := by rw [sn_cell s5 hkk, HSF.out]
          have y1 : w5.frozen? ⟨gs, kk, none⟩ = false := sn_fz s5 kk
          obtain ⟨w6, Hw6⟩ : ∃ w6, Hid (w5.setCell ⟨gs, kk, none⟩ (.bool true) = w6) := ⟨_, rfl⟩
          have TV : Hid (Tv w w6 B H gg g6 gs ab ao n hf G U (rws ba la ca) Ps (rr, qq) L.length #[.int .i64 rr, .int .i64 qq, .slice a m c, .slice (some ⟨tb, tO, none⟩) tn tc] (upB S1 kk (acS (S1 kk) rr qq (led X))) (upV V1 kk (rr, qq)) L1 (bump (rr, qq) a m c X L1) (upB f kk true) ba1 la1 ca1 bc1 lc1 cc1 N1) := by
            rw [← Hw6.out]
            exact TD.out.voted hkk HSF.out GS.out hP.out HK.out HA.out HF.out K1 K2 K3
          have C6 := Ch.set w5 gs kk (.bool true)
          rw [Hw6.out] at C6
          have L6 : Hid (Lg w6 a m c X) := (LD.out.keep (K81.one K3 HA.out.blk (by decide))).keep (K81.one C6 s5 (by decide))
          have LN : Hid (L1.length ≤ L.length ∨ (L1.length ≤ L.length + 1 ∧ ∃ t ∈ L1, t.b = (rr, qq))) := TD.out.ln
          have AG6 : Hid (Ag w6 B gg ba1 la1 ca1 bc1 lc1 cc1 N1 L1) := TV.out.ag
          have LG6 : Hid (∀ t ∈ L1, Lg w6 t.a t.m t.c t.X) := TV.out.lg
          have NB : N1 ≤ 900 := by
            have h1 := AG6.out.len
            have h2 := hl.out
            rcases LN.out with h3 | ⟨h3, _⟩ <;> omega
          have KB : Hid (∀ t ∈ L1, t.k ≤ 900) := fun t ht => by
            have h1 := (TD.out.gh.ct t ht).2
            have h2 := cnt_le n (fun j => V1 j t.b)
            omega
          have B6 : Hid (B ≤ w6.heap.size) := Nat.le_trans hB.out TV.out.ch.size
          have CM : Hid (∀ u ∈ bump (rr, qq) a m c X L1, u.b = (rr, qq) → hf ≤ u.k → ∀ t ∈ bump (rr, qq) a m c X L1, hf ≤ t.k → led t.X <+: led X ∨ led X <+: led t.X) := TV.out.gh.cmp hh.out hP.out
          have z0 : w6.cell? ⟨g6, 0, none⟩ = some (.int .i64 rr) := by simp [World.cell?, TV.out.bx]
          have z1 : w6.cell? ⟨g6, 1, none⟩ = some (.int .i64 qq) := by simp [World.cell?, TV.out.bx]
          have z2 : w6.cell? ⟨g6, 2, none⟩ = some (.slice a m c) := by simp [World.cell?, TV.out.bx]
          have HV1 : Hid (∀ j x, x ≠ (rr, qq) → upV V1 kk (rr, qq) j x = V j x) := fun j x hx => by
            unfold upV
            rw [if_neg (fun h => hx h.2)]
            exact HVV.out j x hx
          clear K1 K2 K3 C6 s5 TD H5
          go_upto_region 9 with (fail)
          rw [Hw6.out]
          clear y0 y1
          go_wp2_with (go_at_call 32; refine (count_n AG6 LG6 L6 NB KB B6 hh2 CM).mono ?_; rintro e w7 ⟨rfl, H7⟩)
          go_roundw
          case rel =>
            obtain ⟨b1, l1, c1', d1, d2, d3, N2, h⟩ := TV.out.counted LN.out L6.out H7.out
            exact ⟨i + 1, by omega, by go_num, _, _, _, _, b1, l1, c1', d1, d2, d3, N2, h, HV1.out⟩
          case measure => simp [intOf]; omega
        · obtain ⟨ad, ev⟩ := errv_ne (E := E) hk
          have HK : Hid (prk (S1 kk) rr qq ≠ 0) := hk
          have EV : Hid (errv E (prk (S1 kk) rr qq) = er ad) := ev
          clear hk ev
          refine wp_region_till (S := tillP 13 (fun W => Tq W gs kk false ab (ao + kk) (G kk) g6 rr qq a m c)) (by kernel_rfl) (.inr (by rw [Hwd.out]; exact Q0)) (fun hS => ?_)
          rw [Hwd.out] at hS ⊢
          clear Q0
          refine till_take (i := 0) (v := .slice (some ⟨gs, 0, none⟩) n n) rfl (by kernel_rfl) (by kernel_rfl) (by kernel_rfl) (fun _ _ _ h => h) (fun L w => tillP_set (by decide)) (Or.inl ⟨by rfl, fun w => by go_simp⟩) hS (fun hSb => ?_)
          simp only [List.getElem_toArray, List.getElem_cons_zero, List.getElem_cons_succ, Act.put, List.setIfInBounds_toArray, List.set_cons_zero, List.set_cons_succ]
          clear hS
          refine till_take (i := 1) (v := .int .i64 (kk : Int)) rfl (by kernel_rfl) (by kernel_rfl) (by kernel_rfl) (fun _ _ _ h => h) (fun L w => tillP_set (by decide)) (Or.inl ⟨by rfl, fun w => by go_simp⟩) hSb (fun hS => ?_)
          simp only [List.getElem_toArray, List.getElem_cons_zero, List.getElem_cons_succ, Act.put, List.setIfInBounds_toArray, List.set_cons_zero, List.set_cons_succ]
          clear hSb
          refine till_take (i := 2) (v := .pointer (some ⟨gs, kk, none⟩)) rfl (by kernel_rfl) (by kernel_rfl) (by kernel_rfl) (fun _ _ _ h => h) (fun L w => tillP_set (by decide)) (Or.inl ⟨by rfl, fun w => by go_simp⟩) hS (fun hSb => ?_)
          simp only [List.getElem_toArray, List.getElem_cons_zero, List.getElem_cons_succ, Act.put, List.setIfInBounds_toArray, List.set_cons_zero, List.set_cons_succ]
          clear hS
          refine till_readc (i := 3) (cs := [4, 13]) (v := .bool false) (T := fun W => Tq W gs kk false ab (ao + kk) (G kk) g6 rr qq a m c) rfl (by kernel_rfl) (by kernel_rfl) (by kernel_rfl) (by kernel_rfl) (by kernel_rfl) (fun _ _ _ h => h) (fun L w => tillP_set (by decide)) (fun L w h1 h2 => tillP_out (h1 13 (by simp)) h2) (Or.inl ⟨by rfl, fun w h => by have q0 := h.s; go_simp⟩) hSb (fun hS => ?_)
          simp only [List.getElem_toArray, List.getElem_cons_zero, List.getElem_cons_succ, Act.put, List.setIfInBounds_toArray, List.set_cons_zero, List.set_cons_succ]
          clear hSb
          refine till_take (i := 4) (v := .bool false) rfl (by kernel_rfl) (by kernel_rfl) (by kernel_rfl) (fun _ _ _ h => h) (fun L w => tillP_set (by decide)) (Or.inl ⟨by rfl, fun w => by go_simp⟩) hS (fun hSb => ?_)
          simp only [List.getElem_toArray, List.getElem_cons_zero, List.getElem_cons_succ, Act.put, List.setIfInBounds_toArray, List.set_cons_zero, List.set_cons_succ]
          clear hS
          refine till_take (i := 5) (v := .slice (some ⟨ab, ao, none⟩) n acp) rfl (by kernel_rfl) (by kernel_rfl) (by kernel_rfl) (fun _ _ _ h => h) (fun L w => tillP_set (by decide)) (Or.inl ⟨by rfl, fun w => by go_simp⟩) hSb (fun hS => ?_)
          simp only [List.getElem_toArray, List.getElem_cons_zero, List.getElem_cons_succ, Act.put, List.setIfInBounds_toArray, List.set_cons_zero, List.set_cons_succ]
          clear hSb
          refine till_take (i := 6) (v := .int .i64 (kk : Int)) rfl (by kernel_rfl) (by kernel_rfl) (by kernel_rfl) (fun _ _ _ h => h) (fun L w => tillP_set (by decide)) (Or.inl ⟨by rfl, fun w => by go_simp⟩) hS (fun hSb => ?_)
          simp only [List.getElem_toArray, List.getElem_cons_zero, List.getElem_cons_succ, Act.put, List.setIfInBounds_toArray, List.set_cons_zero, List.set_cons_succ]
          clear hS
          refine till_take (i := 7) (v := .pointer (some ⟨ab, ao + kk, none⟩)) rfl (by kernel_rfl) (by kernel_rfl) (by kernel_rfl) (fun _ _ _ h => h) (fun L w => tillP_set (by decide)) (Or.inl ⟨by rfl, fun w => by go_simp⟩) hSb (fun hS => ?_)
          simp only [List.getElem_toArray, List.getElem_cons_zero, List.getElem_cons_succ, Act.put, List.setIfInBounds_toArray, List.set_cons_zero, List.set_cons_succ]
          clear hSb
          refine till_readc (i := 8) (cs := [13]) (v := .pointer (some ⟨G kk, 0, none⟩)) (T := fun W => Tq W gs kk false ab (ao + kk) (G kk) g6 rr qq a m c) rfl (by kernel_rfl) (by kernel_rfl) (by kernel_rfl) (by kernel_rfl) (by kernel_rfl) (fun _ _ _ h => h) (fun L w => tillP_set (by decide)) (fun L w h1 h2 => tillP_out (h1 13 (by simp)) h2) (Or.inl ⟨by rfl, fun w h => by have q0 := h.p; go_simp⟩) hS (fun hSb => ?_)
          simp only [List.getElem_toArray, List.getElem_cons_zero, List.getElem_cons_succ, Act.put, List.setIfInBounds_toArray, List.set_cons_zero, List.set_cons_succ]
          clear hS
          refine till_take (i := 9) (v := .pointer (some ⟨g6, 0, none⟩)) rfl (by kernel_rfl) (by kernel_rfl) (by kernel_rfl) (fun _ _ _ h => h) (fun L w => tillP_set (by decide)) (Or.inl ⟨by rfl, fun w => by go_simp⟩) hSb (fun hS => ?_)
          simp only [List.getElem_toArray, List.getElem_cons_zero, List.getElem_cons_succ, Act.put, List.setIfInBounds_toArray, List.set_cons_zero, List.set_cons_succ]
          clear hSb
          refine till_readc (i := 10) (cs := [13]) (v := bal rr qq) (T := fun W => Tq W gs kk false ab (ao + kk) (G kk) g6 rr qq a m c) rfl (by kernel_rfl) (by kernel_rfl) (by kernel_rfl) (by kernel_rfl) (by kernel_rfl) (fun _ _ _ h => h) (fun L w => tillP_set (by decide)) (fun L w h1 h2 => tillP_out (h1 13 (by simp)) h2) (Or.inl ⟨by rfl, fun w h => by have q0 := h.b0; have q1 := h.b1; go_simp⟩) hS (fun hSb => ?_)
          simp only [List.getElem_toArray, List.getElem_cons_zero, List.getElem_cons_succ, Act.put, List.setIfInBounds_toArray, List.set_cons_zero, List.set_cons_succ]
          clear hS
          refine till_take (i := 11) (v := .pointer (some ⟨g6, 2, none⟩)) rfl (by kernel_rfl) (by kernel_rfl) (by kernel_rfl) (fun _ _ _ h => h) (fun L w => tillP_set (by decide)) (Or.inl ⟨by rfl, fun w => by go_simp⟩) hSb (fun hS => ?_)
          simp only [List.getElem_toArray, List.getElem_cons_zero, List.getElem_cons_succ, Act.put, List.setIfInBounds_toArray, List.set_cons_zero, List.set_cons_succ]
          clear hSb
          refine till_readc (i := 12) (cs := [13]) (v := .slice a m c) (T := fun W => Tq W gs kk false ab (ao + kk) (G kk) g6 rr qq a m c) rfl (by kernel_rfl) (by kernel_rfl) (by kernel_rfl) (by kernel_rfl) (by kernel_rfl) (fun _ _ _ h => h) (fun L w => tillP_set (by decide)) (fun L w h1 h2 => tillP_out (h1 13 (by simp)) h2) (Or.inl ⟨by rfl, fun w h => by have q0 := h.l; go_simp⟩) hS (fun hSb => ?_)
          simp only [List.getElem_toArray, List.getElem_cons_zero, List.getElem_cons_succ, Act.put, List.setIfInBounds_toArray, List.set_cons_zero, List.set_cons_succ]
          clear hS
          refine till_one (i := 13) (by kernel_rfl) rfl (fun K hK => ?_)
          simp only [List.getElem_toArray, List.getElem_cons_zero, List.getElem_cons_succ]
          rw [if_pos (by rfl)]
          go_simp
          go_wp2_with (go_at_call 16; refine (accept_n HA HE (by omega) rr qq HLL HLZ HH HLO).mono ?_; rintro e w5 ⟨rfl, H5⟩; rw [EV.out])
          refine hK.out _ _ (.inl (by rfl)) (fun hS => ?_)
          clear hK K
          try simp only [List.getElem_toArray, List.getElem_cons_zero, List.getElem_cons_succ, Act.put, List.setIfInBounds_toArray, List.set_cons_zero, List.set_cons_succ]
          clear hSb
          refine till_take (i := 14) (v := .bool true) rfl (by kernel_rfl) (by kernel_rfl) (by kernel_rfl) (fun _ _ _ h => h) (fun L w => tillP_set (by decide)) (Or.inl ⟨by rfl, fun w => by go_simp⟩) hS (fun hSb => ?_)
          simp only [List.getElem_toArray, List.getElem_cons_zero, List.getElem_cons_succ, Act.put, List.setIfInBounds_toArray, List.set_cons_zero, List.set_cons_succ]
          clear hS
          refine till_take (i := 15) (v := .bool true) rfl (by kernel_rfl) (by kernel_rfl) (by kernel_rfl) (fun _ _ _ h => h) (fun L w => tillP_set (by decide)) (Or.inl ⟨by rfl, fun w => by go_simp⟩) hSb (fun hS => ?_)
          simp only [List.getElem_toArray, List.getElem_cons_zero, List.getElem_cons_succ, Act.put, List.setIfInBounds_toArray, List.set_cons_zero, List.set_cons_succ]
          clear hSb
          refine till_done (by kernel_rfl) ?_ _
          clear hS
          go_wp2
          go_roundw
          case rel =>
            obtain ⟨a5, m5, c5, X5, K1, K2, K3⟩ := H5.out
            exact ⟨i + 1, by omega, by go_num, S1, V1, L1, f, ba1, la1, ca1, bc1, lc1, cc1, N1, TD.out.refused hkk HK.out HA.out HF.out K1 K2 K3, HVV.out⟩
          case measure => simp [intOf]; omega
    · go_wp2
      go_ret
      refine ⟨rfl, S1, V1, L1, ba1, la1, ca1, bc1, lc1, cc1, N1, HTK.out.gh, ?_, HTK.out.ag, HTK.out.lg, HTK.out.ch, HTK.out.nr, ?_, HVV.out, HTK.out.at_⟩
      · refine HTK.out.sys.ch (T := fun _ => False) (Ch.refl _ _) (fun _ _ e => e.elim) (fun e => e) (fun _ _ e => e) (fun q e => .inl ?_)
        rcases e with e | e | e
        · exact .inl e
        · exact .inr (.inl e)
        · exact .inr (.inr (.inl e))
      · rcases HTK.out.ln with h | ⟨h, _⟩ <;> omega
end Go.Proofs.YtdfnjcjpblkmcaaDoor
