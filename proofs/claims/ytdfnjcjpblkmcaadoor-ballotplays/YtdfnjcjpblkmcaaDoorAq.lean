/- BallotKeeps' walk. -/
import Derived.Test.YtdfnjcjpblkmcaaDoorAp
import Derived.Test.YtdfnjcjpblkmcaaDoorEm
namespace Go.Proofs.YtdfnjcjpblkmcaaDoor
open Go.ChangeShapes Go.WideShapes Go.ChangeAt Go.RowKit
set_option maxRecDepth 20000
set_option linter.unusedVariables false
set_option linter.unusedSimpArgs false
theorem num_v {E : Nat → Addr} {w : World} (k : Nat) (hk : k = 0 ∨ k = 2 ∨ k = 12 ∨ k = 10) (hS : Hid (Sent w 18 E)) : Calls Tryd.prog 21 #[errv E k] w fun e w' => e = .returned (.int .i64 (k : Int)) ∧ Hid (Below w.heap.size w w') := by
  rcases hk with rfl | rfl | rfl | rfl
  · refine (bnum_nil w).mono ?_
    rintro e w1 ⟨rfl, rfl⟩
    exact ⟨rfl, Below.refl _ _⟩
  · exact bnum_err 0 1 E w (by decide) (by decide) (by decide) hS
  · exact bnum_err 1 11 E w (by decide) (by decide) (by decide) hS
  · exact bnum_err 2 9 E w (by decide) (by decide) (by decide) hS
theorem prk_two {s : As} {r n : Int} (h : prk s r n = 2) : lgl r n = false := by
  unfold prk at h
  by_cases h1 : lgl r n = false
  · exact h1
  · rw [if_neg h1] at h
    split at h <;> cases h
theorem prk_twelve {s : As} {r n : Int} (h : prk s r n = 12) : lgl r n = true ∧ abv s.pR s.pN r n = true := by
  unfold prk at h
  by_cases h1 : lgl r n = false
  · rw [if_pos h1] at h; cases h
  · rw [if_neg h1] at h
    by_cases h2 : abv s.pR s.pN r n = true
    · exact ⟨by simpa using h1, h2⟩
    · rw [if_neg h2] at h; cases h
/- asked again -/
theorem pr_twice {s : As} (h : Okk s) (r n : Int) : prk (prS s r n) r n = prk s r n ∧ prA (prS s r n) r n = prA s r n ∧ prL (prS s r n) r n = prL s r n ∧ prS (prS s r n) r n = prS s r n ∧ Okk (prS s r n) ∧ (prS s r n).aR = s.aR ∧ (prS s r n).aN = s.aN ∧ (prS s r n).L = s.L := by
  by_cases hk : prk s r n = 0
  · obtain ⟨h1, h2⟩ := prk_zero hk
    have e := prS_ok hk
    have k2 : prk (prS s r n) r n = 0 := by rw [e]; exact prk_ok h1 (abv_refl r n)
    refine ⟨k2.trans hk.symm, ?_, ?_, ?_, (okk_pr h r n).1, ?_, ?_, ?_⟩
    · rw [prA, prA, if_pos k2, if_pos hk, e]
    · rw [prL, prL, if_pos k2, if_pos hk, e]
    · rw [prS_ok k2, e]
    · rw [e]
    · rw [e]
    · rw [e]
  · have e := prS_no hk
    rw [e]
    exact ⟨rfl, rfl, rfl, e, h, rfl, rfl, rfl⟩
/- the law's own state -/
structure KS (w wr : World) (G g g7 : Nat) (s : As) (a : Option Addr) (m c : Nat) (X : List Cx) (ka : Option Addr) (kn : Nat) (KX : List Cx) : Prop where
  bel : Below w.heap.size w wr
  acc : Acc wr 84 G g s a m c X
  k7 : wr.heap[g7]? = some (.cells #[.int .i64 s.aR, .int .i64 s.aN] 34 (0, 0))
  kc : Cms w 0 ka kn KX
  ek : led KX = s.L
  ok : Okk s
theorem KS.step {w wr v : World} {G g g7 : Nat} {s : As} {a : Option Addr} {m c : Nat} {X : List Cx} {ka : Option Addr} {kn : Nat} {KX : List Cx} (h : KS w wr G g g7 s a m c X ka kn KX) (C : Ch wr v (fun q => q = g)) (GE : w.heap.size ≤ g ∧ g < g7 ∧ G = g7 + 1) : v.heap[g7]? = some (.cells #[.int .i64 s.aR, .int .i64 s.aN] 34 (0, 0)) ∧ Below w.heap.size w v :=
  ⟨(C.block g7 (Array.getElem?_eq_some_iff.1 h.k7).1 (by omega)).trans h.k7, h.bel.trans (C.toBelow h.bel.size (fun k hk e => by omega))⟩
/- behind the two Prepares -/
structure Kp (w W : World) (G g g7 g10 g11 g14 : Nat) (s1 : As) (a : Option Addr) (m c : Nat) (X : List Cx) (x : Opt) (p q : Int) (ya : Option Addr) (ym : Nat) (Y1 : List Cx) (za : Option Addr) (zm : Nat) (Y2 : List Cx) (ka : Option Addr) (kn : Nat) (KX : List Cx) (s : As) : Prop where
  bel : Below w.heap.size w W
  acc : Acc W 84 G g s1 a m c X
  k7 : W.heap[g7]? = some (.cells #[.int .i64 s.aR, .int .i64 s.aN] 34 (0, 0))
  o2 : W.cell? ⟨g10, 2, none⟩ = some (.int .i64 x.r)
  o3 : W.cell? ⟨g10, 3, none⟩ = some (.int .i64 x.n)
  k11 : W.heap[g11]? = some (.cells #[.int .i64 p, .int .i64 q] 34 (0, 0))
  k14 : W.heap[g14]? = some (.cells #[.int .i64 p, .int .i64 q] 34 (0, 0))
  yl : Cms W 0 ya ym Y1
  zl : Cms W 0 za zm Y2
  kl : Cms W 0 ka kn KX
section
variable {w W W' : World} {G g g7 g10 g11 g14 : Nat} {s1 : As} {a : Option Addr} {m c : Nat} {X : List Cx} {x : Opt} {p q : Int} {ya : Option Addr} {ym : Nat} {Y1 : List Cx} {za : Option Addr} {zm : Nat} {Y2 : List Cx} {ka : Option Addr} {kn : Nat} {KX : List Cx} {s : As}
theorem Kp.b0 (h : Kp w W G g g7 g10 g11 g14 s1 a m c X x p q ya ym Y1 za zm Y2 ka kn KX s) : W.cell? ⟨g11, 0, none⟩ = some (.int .i64 p) := by simp [World.cell?, h.k11]
theorem Kp.b1 (h : Kp w W G g g7 g10 g11 g14 s1 a m c X x p q ya ym Y1 za zm Y2 ka kn KX s) : W.cell? ⟨g11, 1, none⟩ = some (.int .i64 q) := by simp [World.cell?, h.k11]
theorem Kp.c0 (h : Kp w W G g g7 g10 g11 g14 s1 a m c X x p q ya ym Y1 za zm Y2 ka kn KX s) : W.cell? ⟨g14, 0, none⟩ = some (.int .i64 p) := by simp [World.cell?, h.k14]
theorem Kp.c1 (h : Kp w W G g g7 g10 g11 g14 s1 a m c X x p q ya ym Y1 za zm Y2 ka kn KX s) : W.cell? ⟨g14, 1, none⟩ = some (.int .i64 q) := by simp [World.cell?, h.k14]
theorem Kp.l0 (h : Kp w W G g g7 g10 g11 g14 s1 a m c X x p q ya ym Y1 za zm Y2 ka kn KX s) : W.cell? ⟨g7, 0, none⟩ = some (.int .i64 s.aR) := by simp [World.cell?, h.k7]
theorem Kp.l1 (h : Kp w W G g g7 g10 g11 g14 s1 a m c X x p q ya ym Y1 za zm Y2 ka kn KX s) : W.cell? ⟨g7, 1, none⟩ = some (.int .i64 s.aN) := by simp [World.cell?, h.k7]
theorem Kp.below (h : Kp w W G g g7 g10 g11 g14 s1 a m c X x p q ya ym Y1 za zm Y2 ka kn KX s) (hb : Below W.heap.size W W') : Kp w W' G g g7 g10 g11 g14 s1 a m c X x p q ya ym Y1 za zm Y2 ka kn KX s :=
  ⟨h.bel.trans (hb.mono h.bel.size), h.acc.below hb, (hb.block _ (Array.getElem?_eq_some_iff.1 h.k7).1).trans h.k7, (hb.cell (p := ⟨g10, 2, none⟩) (cell_lt h.o2)).trans h.o2, (hb.cell (p := ⟨g10, 3, none⟩) (cell_lt h.o3)).trans h.o3, (hb.block _ (Array.getElem?_eq_some_iff.1 h.k11).1).trans h.k11, (hb.block _ (Array.getElem?_eq_some_iff.1 h.k14).1).trans h.k14, h.yl.below hb, h.zl.below hb, h.kl.below hb⟩
theorem KS.of_kp {wo : World} (h : Kp w W G g g7 g10 g11 g14 s1 a m c X x p q ya ym Y1 za zm Y2 ka kn KX s) (k : Okk s1 ∧ s1.aR = s.aR ∧ s1.aN = s.aN ∧ s1.L = s.L) (r : KS w wo G g g7 s a m c X ka kn KX) : KS w W G g g7 s1 a m c X ka kn KX :=
  ⟨h.bel, h.acc, by rw [k.2.1, k.2.2.1]; exact h.k7, r.kc, by rw [k.2.2.2]; exact r.ek, k.1⟩
end
structure Oq (W : World) (g10 : Nat) (r n : Int) (a : Option Addr) (m c : Nat) : Prop where
  r : W.cell? ⟨g10, 2, none⟩ = some (.int .i64 r)
  n : W.cell? ⟨g10, 3, none⟩ = some (.int .i64 n)
  l : W.cell? ⟨g10, 4, none⟩ = some (.slice a m c)
theorem Oq.blk {W W' : World} {g10 : Nat} {r n : Int} {a : Option Addr} {m c : Nat} (h : Oq W g10 r n a m c) (hb : W'.heap[g10]? = W.heap[g10]?) : Oq W' g10 r n a m c :=
  ⟨(World.cell?_of_block (a := ⟨g10, 2, none⟩) hb).trans h.r, (World.cell?_of_block (a := ⟨g10, 3, none⟩) hb).trans h.n, (World.cell?_of_block (a := ⟨g10, 4, none⟩) hb).trans h.l⟩
set_option maxHeartbeats 8000000 in
theorem keeps_n {E : Nat → Addr} {w : World} {node : Int} {sa : Option Addr} {n sc : Nat} {L : List Opt} (hE : Hid (Sent w 18 E)) (hO : Hid (Ops w sa n L)) (hn : n ≤ 140737488351232) :
    Calls Tryd.prog 7 #[.int .i64 node, .slice sa n sc] w fun e w' => e = .returned (.bool true) ∧ Hid (Below w.heap.size w w') := by
  by_cases hN : nod node = true
  · go_enter Tryd.func7, Tryd.ntmps7
    go_upto_region 3 with (go_at_call 8; refine (alive_n hE (by omega)).mono ?_; rintro e w1 ⟨rfl, H1⟩)
    go_upto_region 6 with (go_at_call 9; refine (new_ok node hN).mono ?_; rintro e w2 ⟨rfl, H2⟩)
    obtain ⟨g, Hg⟩ : ∃ g, Hid (w1.heap.size = g) := ⟨_, rfl⟩
    have A2 : Hid (Acc w2 84 (g + 1) g (s0 node) none 0 0 []) := by rw [← Hg.out]; exact (acc_new H2.out).1
    have B2 : Hid (Below w1.heap.size w1 w2) := (acc_new H2.out).2
    rw [Hg.out]
    clear H2 hN
    go_upto_region 8 with (fail)
    obtain ⟨g7, Hg7⟩ : ∃ g7, Hid (w2.heap.size = g7) := ⟨_, rfl⟩
    obtain ⟨gk, Hgk⟩ : ∃ gk, Hid (w2.heap.size + 1 = gk) := ⟨_, rfl⟩
    obtain ⟨w4, Hw4⟩ : ∃ w4, Hid ((w2.alloc (.cells #[.int .i64 0, .int .i64 0] 34)).alloc (.cells #[] 81) = w4) := ⟨_, rfl⟩
    obtain ⟨G, HG⟩ : ∃ G, Hid (g7 + 1 = G) := ⟨_, rfl⟩
    have GE : Hid (w.heap.size ≤ g ∧ g < g7 ∧ G = g7 + 1) := by
      have := HG.out; have := H1.out.size; have := Hg.out; have := A2.out.glt; have := Hg7.out
      show _ ∧ _ ∧ _
      omega
    have R4 : Hid (KS w w4 G g g7 (s0 node) none 0 0 [] (some ⟨gk, 0, none⟩) 0 []) := by
      have b3 := alloc2 w2 (.cells #[.int .i64 0, .int .i64 0] 34) (.cells #[] 81)
      rw [Hw4.out] at b3
      have A4 := A2.out.below b3
      have bw : Below w.heap.size w w4 := (H1.out.trans (B2.out.mono H1.out.size)).trans (b3.mono (Nat.le_trans H1.out.size B2.out.size))
      refine ⟨bw, ⟨A4.blk, Cms.nil _ _ _, fun _ => rfl, rfl, by have := GE.out; omega⟩, ?_, Cms.nil _ _ _, rfl, okk_s0 node⟩
      rw [← Hw4.out, ← Hg7.out, (alloc1 (w2.alloc (.cells #[.int .i64 0, .int .i64 0] 34)) (.cells #[] 81)).block w2.heap.size (by simp)]
      exact heap_alloc_new w2 _
    rw [Hw4.out, Hgk.out, Hg7.out]
    clear A2 B2 Hw4 Hgk Hg7 H1 Hg HG
    go_wp2
    go_loopw [8, 36] (fun t8 t36 wr => ∃ (i : Nat) (s : As) (a : Option Addr) (m c : Nat) (X : List Cx) (ka : Option Addr) (kn kc : Nat) (KX : List Cx), i ≤ n ∧ t36 = .int .i64 i ∧ t8 = .slice ka kn kc ∧ Hid (KS w wr G g g7 s a m c X ka kn KX)) (fun _ t36 _ => n - (intOf t36).toNat)
    case atStart => exact ⟨0, s0 node, none, 0, 0, [], _, 0, 0, [], by omega, rfl, rfl, R4.out⟩
    case round =>
      obtain ⟨i, s, a, m, c, X, ka, kn, kc, KX, hi, rfl, rfl, HR⟩ := hrel
      by_cases hlt : i < n
      · have i3 : (i : Int) < (n : Int) := by omega
        have iL : i < L.length := by rw [← hO.out.len]; exact hlt
        obtain ⟨sb, so, rfl, hrow⟩ := hO.out.row.resolve_left (by omega)
        obtain ⟨x, Hx⟩ : ∃ x, Hid (L[i] = x) := ⟨L[i], (rfl : L[i] = L[i])⟩
        have OP : Opc w sb (so + i * 5) x := by rw [← Hx.out]; exact hrow i iL
        have OPr := OP.below HR.out.bel
        have q0 := OPr.c0
        have q1 := OPr.c1
        have q2 := OPr.c2
        have q3 := OPr.c3
        have q4 := OPr.c4
        have CX : Hid (Cms w 0 x.a x.m x.X ∧ (x.a = none → x.c = 0)) := ⟨OP.led, OP.z⟩
        clear hrow OP OPr
        obtain ⟨wo, Hwo⟩ : ∃ wo, Hid (wr.alloc (.cells #[.int .i64 x.kind, .int .i64 x.which, .int .i64 x.r, .int .i64 x.n, .slice x.a x.m x.c] 39) = wo) := ⟨_, rfl⟩
        obtain ⟨g10, Hg10⟩ : ∃ g10, Hid (wr.heap.size = g10) := ⟨_, rfl⟩
        have Bo : Hid (Below wr.heap.size wr wo) := by rw [← Hwo.out]; exact alloc1 wr _
        have ko : Hid (wo.heap[g10]? = some (.cells #[.int .i64 x.kind, .int .i64 x.which, .int .i64 x.r, .int .i64 x.n, .slice x.a x.m x.c] 39 (0, 0))) := by show _ = _; rw [← Hwo.out, ← Hg10.out]; exact heap_alloc_new wr _
        have o0 : wo.cell? ⟨g10, 0, none⟩ = some (.int .i64 x.kind) := by simp [World.cell?, ko.out]
        have o2 : wo.cell? ⟨g10, 2, none⟩ = some (.int .i64 x.r) := by simp [World.cell?, ko.out]
        have o3 : wo.cell? ⟨g10, 3, none⟩ = some (.int .i64 x.n) := by simp [World.cell?, ko.out]
        have o4 : wo.cell? ⟨g10, 4, none⟩ = some (.slice x.a x.m x.c) := by simp [World.cell?, ko.out]
        have Ro : Hid (KS w wo G g g7 s a m c X ka kn KX) := by
          have h := HR.out.step (Ch.below Bo.out) GE.out
          exact ⟨h.2, HR.out.acc.below Bo.out, h.1, HR.out.kc, HR.out.ek, HR.out.ok⟩
        have OL : Hid (g < g10 ∧ g7 < g10) := by
          have h1 := HR.out.acc.glt
          have h2 := (Array.getElem?_eq_some_iff.1 HR.out.k7).1
          have := Hg10.out
          show _ ∧ _
          omega
        have Ao : Hid (Acc wo 84 G g s a m c X) := Ro.out.acc
        have Eo : Hid (Sent wo 18 E) := hE.out.below Ro.out.bel
        have Go : Hid (G ≤ wo.heap.size) := by
          have h1 := (Array.getElem?_eq_some_iff.1 Ro.out.k7).1
          have := GE.out.2.2
          show G ≤ _
          omega
        have OK : Hid (Okk s) := HR.out.ok
        clear HR
        go_upto_region 11 with (fail)
        rw [Hwo.out, Hg10.out]
        clear q0 q1 q2 q3 q4 Hwo
        by_cases hk2 : x.kind = 2
        · rw [hk2] at o0
          obtain ⟨t, Ht⟩ : ∃ t, Hid (acS s x.r x.n (led x.X) = t) := ⟨_, rfl⟩
          have CXo : Hid (Cms wo 0 x.a x.m x.X) := CX.out.1.below Ro.out.bel
          have CXz : Hid (x.a = none → x.c = 0) := CX.out.2
          have CXn : Hid (∀ q, fpc x.a x.m x.X q → q ≠ g) := fun q hq => by have h1 := (CX.out.1.fp_lt hq).2; have := GE.out; omega
          have KT : Hid (Okk t) := by rw [← Ht.out]; exact (okk_ac OK.out x.r x.n (led x.X)).1
          by_cases hp : prk s x.r x.n = 0
          · have EV : Hid (errv E (prk s x.r x.n) = .nilIface) := by show _ = _; rw [hp]; rfl
            have TT : Hid (t.aR = x.r ∧ t.aN = x.n ∧ t.L = led x.X) := by rw [← Ht.out, acS, if_pos hp]; exact ⟨rfl, rfl, rfl⟩
            go_upto_region 13 with (go_at_call 16; refine (accept_n Ao Eo (by omega) x.r x.n CXo CXz Go CXn).mono ?_; rintro e v ⟨rfl, HP⟩; rw [EV.out])
            obtain ⟨a2, m2, c2, X2, HA2, _, HC2⟩ := HP.out
            rw [Ht.out] at HA2
            obtain ⟨v0, Hv0⟩ : ∃ v0, Hid (v.drew = v0) := ⟨_, rfl⟩
            have C0 : Ch wo v0 (fun q => q = g) := by rw [← Hv0.out]; exact HC2.trans (Ch.drew v _)
            have A0 : Acc v0 84 G g t a2 m2 c2 X2 := by rw [← Hv0.out]; exact HA2.below (Below.refl _ _).drew
            have st := Ro.out.step C0 GE.out
            have Q0 : Oq v0 g10 x.r x.n x.a x.m x.c := (⟨o2, o3, o4⟩ : Oq wo g10 x.r x.n x.a x.m x.c).blk (C0.block g10 (Array.getElem?_eq_some_iff.1 ko.out).1 (by have := OL.out; omega))
            obtain ⟨V1, HV1⟩ : ∃ V1, Hid ((v0.setCell ⟨g7, 0, none⟩ (.int .i64 x.r)).setCell ⟨g7, 1, none⟩ (.int .i64 x.n) = V1) := ⟨_, rfl⟩
            have C1 : Ch v0 V1 (fun q => q = g7) := by rw [← HV1.out]; exact (Ch.set _ g7 0 _).trans (Ch.set _ g7 1 _)
            have j7 : V1.heap[g7]? = some (.cells #[.int .i64 x.r, .int .i64 x.n] 34 (0, 0)) := by rw [← HV1.out, set_blk (set_blk st.1 0 _) 1 _]; rfl
            have gl := GE.out
            have Q1 : Oq V1 g10 x.r x.n x.a x.m x.c := Q0.blk (C1.block g10 (cell_lt Q0.r) (by have := OL.out; omega))
            have FIN : Hid (KS w V1 G g g7 t a2 m2 c2 X2 x.a x.m x.X) := ⟨st.2.trans (C1.toBelow st.2.size (fun k hk e => by omega)), A0.ch C1 (by omega) (fun q h1 _ h2 => by omega), by rw [TT.out.1, TT.out.2.1]; exact j7, CX.out.1, TT.out.2.2.symm, KT.out⟩
            have x0 : v0.cell? ⟨g7, 0, none⟩ = some (.int .i64 s.aR) := by simp [World.cell?, st.1]
            have x1 : v0.cell? ⟨g7, 1, none⟩ = some (.int .i64 s.aN) := by simp [World.cell?, st.1]
            have fz : ∀ i, v0.frozen? ⟨g7, i, none⟩ = false := fun i => by simp [World.frozen?, st.1]
            refine wp_region_till (S := fun L W => Oq W g10 x.r x.n x.a x.m x.c) (by kernel_rfl) (by rw [Hv0.out]; exact Q0) (fun hS => ?_)
            rw [Hv0.out] at hS ⊢
            clear HP HA2 HC2 C0 A0 st Q0 C1 j7 gl o0 o2 o3 o4
            refine till_take (i := 0) (v := .pointer (some ⟨g10, 2, none⟩)) rfl (by kernel_rfl) (by kernel_rfl) (by kernel_rfl) (fun _ _ _ h => h) (fun L w => Iff.rfl) (Or.inl ⟨by rfl, fun w => by go_simp⟩) hS (fun hSb => ?_)
            simp only [List.getElem_toArray, List.getElem_cons_zero, List.getElem_cons_succ, Act.put, List.setIfInBounds_toArray, List.set_cons_zero, List.set_cons_succ]
            clear hS
            refine till_read (i := 1) (c := 4) (v := bal x.r x.n) (T := fun W => Oq W g10 x.r x.n x.a x.m x.c) rfl rfl (by kernel_rfl) (by kernel_rfl) (by kernel_rfl) (by kernel_rfl) (by kernel_rfl) (fun _ _ _ h => h) (fun L w => Iff.rfl) (fun L w h1 h2 => h2) (Or.inl ⟨by rfl, fun w h => by have q1 := h.r; have q2 := h.n; go_simp⟩) hSb (fun hS => ?_)
            simp only [List.getElem_toArray, List.getElem_cons_zero, List.getElem_cons_succ, Act.put, List.setIfInBounds_toArray, List.set_cons_zero, List.set_cons_succ]
            clear hSb
            refine till_take (i := 2) (v := .pointer (some ⟨g10, 4, none⟩)) rfl (by kernel_rfl) (by kernel_rfl) (by kernel_rfl) (fun _ _ _ h => h) (fun L w => Iff.rfl) (Or.inl ⟨by rfl, fun w => by go_simp⟩) hS (fun hSb => ?_)
            simp only [List.getElem_toArray, List.getElem_cons_zero, List.getElem_cons_succ, Act.put, List.setIfInBounds_toArray, List.set_cons_zero, List.set_cons_succ]
            clear hS
            refine till_read (i := 3) (c := 5) (v := .slice x.a x.m x.c) (T := fun W => Oq W g10 x.r x.n x.a x.m x.c) rfl rfl (by kernel_rfl) (by kernel_rfl) (by kernel_rfl) (by kernel_rfl) (by kernel_rfl) (fun _ _ _ h => h) (fun L w => Iff.rfl) (fun L w h1 h2 => h2) (Or.inl ⟨by rfl, fun w h => by have q1 := h.l; go_simp⟩) hSb (fun hS => ?_)
            simp only [List.getElem_toArray, List.getElem_cons_zero, List.getElem_cons_succ, Act.put, List.setIfInBounds_toArray, List.set_cons_zero, List.set_cons_succ]
            clear hSb
            refine till_one (i := 4) (by kernel_rfl) rfl (fun K hK => ?_)
            simp only [List.getElem_toArray, List.getElem_cons_zero, List.getElem_cons_succ]
            rw [if_pos (by rfl)]
            go_simp
            rw [HV1.out]
            refine hK.out _ _ (Q1) (fun hSb => ?_)
            clear hK K
            try simp only [List.getElem_toArray, List.getElem_cons_zero, List.getElem_cons_succ, Act.put, List.setIfInBounds_toArray, List.set_cons_zero, List.set_cons_succ]
            clear hS
            refine till_one (i := 5) (by kernel_rfl) rfl (fun K hK => ?_)
            simp only [List.getElem_toArray, List.getElem_cons_zero, List.getElem_cons_succ]
            rw [if_pos (by rfl)]
            go_simp
            refine hK.out _ _ (hSb) (fun hS => ?_)
            clear hK K
            try simp only [List.getElem_toArray, List.getElem_cons_zero, List.getElem_cons_succ, Act.put, List.setIfInBounds_toArray, List.set_cons_zero, List.set_cons_succ]
            clear hSb
            refine till_done (by kernel_rfl) ?_ _
            clear hS
            clear x0 x1 fz Q1 HV1 Hv0
            go_wp2
            go_roundw
            case rel => exact ⟨i + 1, t, a2, m2, c2, X2, x.a, x.m, x.c, x.X, by omega, by go_num, rfl, FIN.out⟩
            case measure => simp [intOf]; omega
          · obtain ⟨ad, ev⟩ := errv_ne (E := E) hp
            have EV : Hid (errv E (prk s x.r x.n) = .iface 102 (.pointer (some ad))) := ev
            clear ev
            have ST : Hid (t = s) := by show _ = _; rw [← Ht.out, acS, if_neg hp]
            go_wp2_with (go_at_call 16; refine (accept_n Ao Eo (by omega) x.r x.n CXo CXz Go CXn).mono ?_; rintro e v ⟨rfl, HP⟩; rw [EV.out])
            have FIN : Hid (∃ a2 m2 c2 X2, KS w v G g g7 s a2 m2 c2 X2 ka kn KX) := by
              obtain ⟨a2, m2, c2, X2, h1, _, h2⟩ := HP.out
              rw [Ht.out, ST.out] at h1
              have st := Ro.out.step h2 GE.out
              exact ⟨a2, m2, c2, X2, ⟨st.2, h1, st.1, Ro.out.kc, Ro.out.ek, OK.out⟩⟩
            clear HP
            go_roundw
            case rel => obtain ⟨a2, m2, c2, X2, h⟩ := FIN.out; exact ⟨i + 1, s, a2, m2, c2, X2, ka, kn, kc, KX, by omega, by go_num, rfl, h⟩
            case measure => simp [intOf]; omega
        · go_upto_region 14 with (fail)
          clear o0 o4
          rcases prk_cases s x.r x.n with hk | hk | hk
          · skip
            have EV : Hid (errv E 0 = .nilIface) := (rfl : errv E 0 = .nilIface)
            have K1 : Hid (prk s x.r x.n = 0) := hk
            have F := pr_twice OK.out x.r x.n
            obtain ⟨s1, Hs1⟩ : ∃ s1, Hid (prS s x.r x.n = s1) := ⟨_, rfl⟩
            rw [Hs1.out] at F
            obtain ⟨p, q, Hpq⟩ : ∃ p q, Hid (prA s x.r x.n = (p, q)) := ⟨_, _, rfl⟩
            have K2 : Hid (prk s1 x.r x.n = 0) := F.1.trans hk
            have P2 : Hid (prA s1 x.r x.n = (p, q)) := F.2.1.trans Hpq.out
            have L2 : Hid (prL s1 x.r x.n = prL s x.r x.n) := F.2.2.1
            have S2 : Hid (prS s1 x.r x.n = s1) := F.2.2.2.1
            have KO : Hid (Okk s1 ∧ s1.aR = s.aR ∧ s1.aN = s.aN ∧ s1.L = s.L) := F.2.2.2.2
            clear F hk
            go_upto_region 15 with (go_at_call 15; refine (prepare_n Ao Eo (by omega) x.r x.n).mono ?_; rintro e w1 ⟨ya, ym, yc, rfl, HP1⟩; rw [K1.out, EV.out, Hpq.out])
            obtain ⟨Y1, HY1, HO1, HA1, HC1⟩ := HP1.out
            rw [Hs1.out] at HA1
            obtain ⟨w1', Hw1⟩ : ∃ w1', Hid (w1.alloc (.cells #[.int .i64 p, .int .i64 q] 34) = w1') := ⟨_, rfl⟩
            obtain ⟨g11, Hg11⟩ : ∃ g11, Hid (w1.heap.size = g11) := ⟨_, rfl⟩
            have L1 : Below w1.heap.size w1 w1' := by rw [← Hw1.out]; exact alloc1 _ _
            have A1 : Hid (Acc w1' 84 G g s1 a m c X) := HA1.below L1
            have C1 : Hid (Ch wo w1' (fun q => q = g)) := HC1.trans (Ch.below L1)
            have E1 : Hid (Sent w1' 18 E) := hE.out.below (Ro.out.step C1.out GE.out).2
            have O1 : Hid (Oc w1' wo.heap.size ya ym yc Y1 ∧ led Y1 = prL s x.r x.n) := ⟨HO1.below L1, HY1⟩
            have k11 : Hid (w1'.heap[g11]? = some (.cells #[.int .i64 p, .int .i64 q] 34 (0, 0))) := by show _ = _; rw [← Hw1.out, ← Hg11.out]; exact heap_alloc_new _ _
            have l11 : Hid (g < g11) := by have := HA1.glt; have := Hg11.out; show g < g11; omega
            have u2 : w1'.cell? ⟨g10, 2, none⟩ = some (.int .i64 x.r) := (C1.out.cell (p := ⟨g10, 2, none⟩) (cell_lt o2) (by have := OL.out; show ¬ (g10 = g); omega)).trans o2
            have u3 : w1'.cell? ⟨g10, 3, none⟩ = some (.int .i64 x.n) := (C1.out.cell (p := ⟨g10, 3, none⟩) (cell_lt o3) (by have := OL.out; show ¬ (g10 = g); omega)).trans o3
            rw [Hw1.out, Hg11.out]
            clear HY1 HO1 HA1 HC1 HP1 L1 Hw1
            go_upto_region 16 with (go_at_call 15; refine (prepare_n A1 E1 (by omega) x.r x.n).mono ?_; rintro e w2 ⟨za, zm, zc, rfl, HP2⟩; rw [K2.out, EV.out, P2.out])
            obtain ⟨Y2, HY2, HO2, HA2, HC2⟩ := HP2.out
            rw [S2.out] at HA2
            obtain ⟨w2', Hw2⟩ : ∃ w2', Hid (w2.alloc (.cells #[.int .i64 p, .int .i64 q] 34) = w2') := ⟨_, rfl⟩
            obtain ⟨g14, Hg14⟩ : ∃ g14, Hid (w2.heap.size = g14) := ⟨_, rfl⟩
            have L2' : Below w2.heap.size w2 w2' := by rw [← Hw2.out]; exact alloc1 _ _
            have C2 : Ch w1' w2' (fun q => q = g) := HC2.trans (Ch.below L2')
            have KK : Kp w w2' G g g7 g10 g11 g14 s1 a m c X x p q ya ym Y1 za zm Y2 ka kn KX s := by
              have CC := C1.out.trans C2
              have hs := Ro.out.step CC GE.out
              have gw := A1.out.glt
              refine ⟨hs.2, HA2.below L2', hs.1, ?_, ?_, ?_, ?_, ?_, ?_, ?_⟩
              · exact (CC.cell (p := ⟨g10, 2, none⟩) (cell_lt o2) (by have := OL.out; show ¬ (g10 = g); omega)).trans o2
              · exact (CC.cell (p := ⟨g10, 3, none⟩) (cell_lt o3) (by have := OL.out; show ¬ (g10 = g); omega)).trans o3
              · exact (C2.block g11 (Array.getElem?_eq_some_iff.1 k11.out).1 (by have := l11.out; omega)).trans k11.out
              · rw [← Hw2.out, ← Hg14.out]; exact heap_alloc_new _ _
              · exact (O1.out.1.cms.ch C2 (fun q h1 _ e => by have := Ao.out.glt; omega)).mono (Nat.zero_le _)
              · exact ((HO2.below L2').cms).mono (Nat.zero_le _)
              · exact Ro.out.kc.below hs.2
            have LE : Hid (decide (led Y1 = led Y2) = true) := decide_eq_true (by rw [O1.out.2, HY2, L2.out])
            have PQ : Hid (p = s.aR ∧ q = s.aN) := by
              have h := Hpq.out
              simp only [prA, K1.out, if_true] at h
              cases h
              exact ⟨rfl, rfl⟩
            have LK : Hid (decide (led Y1 = led KX) = true) := decide_eq_true (by rw [O1.out.2, prL, K1.out, if_pos rfl]; exact Ro.out.ek.symm)
            have LG : Hid (lgl x.r x.n = true) := (prk_zero K1.out).1
            have SP : Hid (s1.pR = x.r ∧ s1.pN = x.n) := by rw [← Hs1.out, prS_ok K1.out]; exact ⟨rfl, rfl⟩
            have EL : ∀ w, (Op.equalIn 10000 34 (bal p q) (bal s.aR s.aN)).run Tryd.prog w = .ok true w := fun w => by rw [eqBal, decide_eq_true PQ.out]
            have EP : ∀ w, (Op.equalIn 10000 34 (bal s1.pR s1.pN) (bal x.r x.n)).run Tryd.prog w = .ok true w := fun w => by rw [eqBal, decide_eq_true SP.out]
            rw [Hw2.out, Hg14.out]
            clear HY2 HO2 HA2 HC2 HP2 L2' Hw2 C2 u2 u3 o2 o3
            have x0 := KK.b0
            have x1 := KK.b1
            have y0 := KK.c0
            have y1 := KK.c1
            have z0 := KK.l0
            have z1 := KK.l1
            have EB : ∀ w, (Op.equalIn 10000 34 (bal p q) (bal p q)).run Tryd.prog w = .ok true w := fun w => by rw [eqBal, decide_eq_true ⟨rfl, rfl⟩]
            go_upto_region 18 with (first
              | (go_at_call 21; refine (num_v (E := E) 0 (by decide) (show Hid _ from hE.out.below KK.bel)).mono ?_; rintro e w5 ⟨rfl, H5⟩
                 have KK := KK.below H5.out
                 have x0 := KK.b0
                 have x1 := KK.b1
                 have y0 := KK.c0
                 have y1 := KK.c1
                 have z0 := KK.l0
                 have z1 := KK.l1)
              | (go_at_call 22; refine (same_n (show Hid _ from KK.yl) (show Hid _ from KK.zl)).mono ?_; rintro e w5 ⟨rfl, H5⟩; rw [LE.out]
                 have KK := KK.below H5.out
                 have x0 := KK.b0
                 have x1 := KK.b1
                 have y0 := KK.c0
                 have y1 := KK.c1
                 have z0 := KK.l0
                 have z1 := KK.l1))
            go_upto_region 20 with (go_at_call 22; refine (same_n (show Hid _ from KK.yl) (show Hid _ from KK.kl)).mono ?_; rintro e w6 ⟨rfl, H6⟩; rw [LK.out]
                                    have KK := KK.below H6.out)
            obtain ⟨v0, Hv0⟩ : ∃ v0, Hid (w6.drew = v0) := ⟨_, rfl⟩
            have KD : Kp w v0 G g g7 g10 g11 g14 s1 a m c X x p q ya ym Y1 za zm Y2 ka kn KX s := by rw [← Hv0.out]; exact KK.below (Below.refl _ _).drew
            clear x0 x1 y0 y1 z0 z1
            refine wp_region_till (S := fun L W => Kp w W G g g7 g10 g11 g14 s1 a m c X x p q ya ym Y1 za zm Y2 ka kn KX s) (by kernel_rfl) (by rw [Hv0.out]; exact KD) (fun hS => ?_)
            rw [Hv0.out] at hS ⊢
            clear KD
            refine till_take (i := 0) (v := .nilIface) rfl (by kernel_rfl) (by kernel_rfl) (by kernel_rfl) (fun _ _ _ h => h) (fun L w => Iff.rfl) (Or.inl ⟨by rfl, fun w => by go_simp⟩) hS (fun hSb => ?_)
            simp only [List.getElem_toArray, List.getElem_cons_zero, List.getElem_cons_succ, Act.put, List.setIfInBounds_toArray, List.set_cons_zero, List.set_cons_succ]
            clear hS
            refine till_take (i := 1) (v := .bool true) rfl (by kernel_rfl) (by kernel_rfl) (by kernel_rfl) (fun _ _ _ h => h) (fun L w => Iff.rfl) (Or.inl ⟨by rfl, fun w => by go_simp⟩) hSb (fun hS => ?_)
            simp only [List.getElem_toArray, List.getElem_cons_zero, List.getElem_cons_succ, Act.put, List.setIfInBounds_toArray, List.set_cons_zero, List.set_cons_succ]
            clear hSb
            refine till_take (i := 2) (v := .pointer (some ⟨g10, 2, none⟩)) rfl (by kernel_rfl) (by kernel_rfl) (by kernel_rfl) (fun _ _ _ h => h) (fun L w => Iff.rfl) (Or.inl ⟨by rfl, fun w => by go_simp⟩) hS (fun hSb => ?_)
            simp only [List.getElem_toArray, List.getElem_cons_zero, List.getElem_cons_succ, Act.put, List.setIfInBounds_toArray, List.set_cons_zero, List.set_cons_succ]
            clear hS
            refine till_read (i := 3) (c := 4) (v := bal x.r x.n) (T := fun W => Kp w W G g g7 g10 g11 g14 s1 a m c X x p q ya ym Y1 za zm Y2 ka kn KX s) rfl rfl (by kernel_rfl) (by kernel_rfl) (by kernel_rfl) (by kernel_rfl) (by kernel_rfl) (fun _ _ _ h => h) (fun L w => Iff.rfl) (fun L w h1 h2 => h2) (Or.inl ⟨by rfl, fun w h => by have q1 := h.o2; have q2 := h.o3; go_simp⟩) hSb (fun hS => ?_)
            simp only [List.getElem_toArray, List.getElem_cons_zero, List.getElem_cons_succ, Act.put, List.setIfInBounds_toArray, List.set_cons_zero, List.set_cons_succ]
            clear hSb
            refine till_one (i := 4) (by kernel_rfl) rfl (fun K hK => ?_)
            simp only [List.getElem_toArray, List.getElem_cons_zero, List.getElem_cons_succ]
            rw [if_pos (by rfl)]
            go_simp
            go_wp2_with (go_at_call 23; refine (legal_n x.r x.n _).mono ?_; rintro e v1 ⟨rfl, H1⟩; rw [LG.out])
            have Z1 := Kp.below hS H1.out
            refine hK.out _ _ (Z1) (fun hSb => ?_)
            clear hK K
            try simp only [List.getElem_toArray, List.getElem_cons_zero, List.getElem_cons_succ, Act.put, List.setIfInBounds_toArray, List.set_cons_zero, List.set_cons_succ]
            clear hS
            refine till_take (i := 5) (v := .bool true) rfl (by kernel_rfl) (by kernel_rfl) (by kernel_rfl) (fun _ _ _ h => h) (fun L w => Iff.rfl) (Or.inl ⟨by rfl, fun w => by go_simp⟩) hSb (fun hS => ?_)
            simp only [List.getElem_toArray, List.getElem_cons_zero, List.getElem_cons_succ, Act.put, List.setIfInBounds_toArray, List.set_cons_zero, List.set_cons_succ]
            clear hSb
            refine till_take (i := 6) (v := .pointer (some ⟨g, 0, none⟩)) rfl (by kernel_rfl) (by kernel_rfl) (by kernel_rfl) (fun _ _ _ h => h) (fun L w => Iff.rfl) (Or.inl ⟨by rfl, fun w => by go_simp⟩) hS (fun hSb => ?_)
            simp only [List.getElem_toArray, List.getElem_cons_zero, List.getElem_cons_succ, Act.put, List.setIfInBounds_toArray, List.set_cons_zero, List.set_cons_succ]
            clear hS
            refine till_take (i := 8) (v := .pointer (some ⟨g10, 2, none⟩)) rfl (by kernel_rfl) (by kernel_rfl) (by kernel_rfl) (fun _ _ _ h => h) (fun L w => Iff.rfl) (Or.inl ⟨by rfl, fun w => by go_simp⟩) hSb (fun hS => ?_)
            simp only [List.getElem_toArray, List.getElem_cons_zero, List.getElem_cons_succ, Act.put, List.setIfInBounds_toArray, List.set_cons_zero, List.set_cons_succ]
            clear hSb
            refine till_read (i := 9) (c := 10) (v := bal x.r x.n) (T := fun W => Kp w W G g g7 g10 g11 g14 s1 a m c X x p q ya ym Y1 za zm Y2 ka kn KX s) rfl rfl (by kernel_rfl) (by kernel_rfl) (by kernel_rfl) (by kernel_rfl) (by kernel_rfl) (fun _ _ _ h => h) (fun L w => Iff.rfl) (fun L w h1 h2 => h2) (Or.inl ⟨by rfl, fun w h => by have q1 := h.o2; have q2 := h.o3; go_simp⟩) hS (fun hSb => ?_)
            simp only [List.getElem_toArray, List.getElem_cons_zero, List.getElem_cons_succ, Act.put, List.setIfInBounds_toArray, List.set_cons_zero, List.set_cons_succ]
            clear hS
            refine till_one (i := 7) (by kernel_rfl) rfl (fun K hK => ?_)
            simp only [List.getElem_toArray, List.getElem_cons_zero, List.getElem_cons_succ]
            rw [if_pos (by rfl)]
            go_simp
            go_wp2_with (go_at_call 14; refine (promised_n (show Hid _ from Z1.acc)).mono ?_; rintro e v2 ⟨rfl, H2⟩)
            have Z2 := Kp.below hSb H2.out
            refine hK.out _ _ (Z2) (fun hS => ?_)
            clear hK K
            try simp only [List.getElem_toArray, List.getElem_cons_zero, List.getElem_cons_succ, Act.put, List.setIfInBounds_toArray, List.set_cons_zero, List.set_cons_succ]
            clear hSb
            refine till_take (i := 10) (v := .bool true) rfl (by kernel_rfl) (by kernel_rfl) (by kernel_rfl) (fun _ _ _ h => h) (fun L w => Iff.rfl) (Or.inl ⟨by rfl, fun w => by go_simp⟩) hS (fun hSb => ?_)
            simp only [List.getElem_toArray, List.getElem_cons_zero, List.getElem_cons_succ, Act.put, List.setIfInBounds_toArray, List.set_cons_zero, List.set_cons_succ]
            clear hS
            refine till_take (i := 11) (v := .bool true) rfl (by kernel_rfl) (by kernel_rfl) (by kernel_rfl) (fun _ _ _ h => h) (fun L w => Iff.rfl) (Or.inl ⟨by rfl, fun w => by go_simp⟩) hSb (fun hS => ?_)
            simp only [List.getElem_toArray, List.getElem_cons_zero, List.getElem_cons_succ, Act.put, List.setIfInBounds_toArray, List.set_cons_zero, List.set_cons_succ]
            clear hSb
            refine till_take (i := 12) (v := .bool false) rfl (by kernel_rfl) (by kernel_rfl) (by kernel_rfl) (fun _ _ _ h => h) (fun L w => Iff.rfl) (Or.inl ⟨by rfl, fun w => by go_simp⟩) hS (fun hSb => ?_)
            simp only [List.getElem_toArray, List.getElem_cons_zero, List.getElem_cons_succ, Act.put, List.setIfInBounds_toArray, List.set_cons_zero, List.set_cons_succ]
            clear hS
            refine till_done (by kernel_rfl) ?_ _
            clear hSb
            have FIN : Hid (KS w v2 G g g7 s1 a m c X ka kn KX) := KS.of_kp Z2 KO.out Ro.out
            clear Z1 Z2
            go_wp2
            go_roundw
            case rel => exact ⟨i + 1, s1, a, m, c, X, ka, kn, kc, KX, by omega, by go_num, rfl, FIN.out⟩
            case measure => simp [intOf]; omega
          · skip
            have EV : Hid (errv E 2 = .iface 102 (.pointer (some (E 0)))) := (rfl : errv E 2 = .iface 102 (.pointer (some (E 0))))
            have K1 : Hid (prk s x.r x.n = 2) := hk
            have F := pr_twice OK.out x.r x.n
            obtain ⟨s1, Hs1⟩ : ∃ s1, Hid (prS s x.r x.n = s1) := ⟨_, rfl⟩
            rw [Hs1.out] at F
            obtain ⟨p, q, Hpq⟩ : ∃ p q, Hid (prA s x.r x.n = (p, q)) := ⟨_, _, rfl⟩
            have K2 : Hid (prk s1 x.r x.n = 2) := F.1.trans hk
            have P2 : Hid (prA s1 x.r x.n = (p, q)) := F.2.1.trans Hpq.out
            have L2 : Hid (prL s1 x.r x.n = prL s x.r x.n) := F.2.2.1
            have S2 : Hid (prS s1 x.r x.n = s1) := F.2.2.2.1
            have KO : Hid (Okk s1 ∧ s1.aR = s.aR ∧ s1.aN = s.aN ∧ s1.L = s.L) := F.2.2.2.2
            clear F hk
            go_upto_region 15 with (go_at_call 15; refine (prepare_n Ao Eo (by omega) x.r x.n).mono ?_; rintro e w1 ⟨ya, ym, yc, rfl, HP1⟩; rw [K1.out, EV.out, Hpq.out])
            obtain ⟨Y1, HY1, HO1, HA1, HC1⟩ := HP1.out
            rw [Hs1.out] at HA1
            obtain ⟨w1', Hw1⟩ : ∃ w1', Hid (w1.alloc (.cells #[.int .i64 p, .int .i64 q] 34) = w1') := ⟨_, rfl⟩
            obtain ⟨g11, Hg11⟩ : ∃ g11, Hid (w1.heap.size = g11) := ⟨_, rfl⟩
            have L1 : Below w1.heap.size w1 w1' := by rw [← Hw1.out]; exact alloc1 _ _
            have A1 : Hid (Acc w1' 84 G g s1 a m c X) := HA1.below L1
            have C1 : Hid (Ch wo w1' (fun q => q = g)) := HC1.trans (Ch.below L1)
            have E1 : Hid (Sent w1' 18 E) := hE.out.below (Ro.out.step C1.out GE.out).2
            have O1 : Hid (Oc w1' wo.heap.size ya ym yc Y1 ∧ led Y1 = prL s x.r x.n) := ⟨HO1.below L1, HY1⟩
            have k11 : Hid (w1'.heap[g11]? = some (.cells #[.int .i64 p, .int .i64 q] 34 (0, 0))) := by show _ = _; rw [← Hw1.out, ← Hg11.out]; exact heap_alloc_new _ _
            have l11 : Hid (g < g11) := by have := HA1.glt; have := Hg11.out; show g < g11; omega
            have u2 : w1'.cell? ⟨g10, 2, none⟩ = some (.int .i64 x.r) := (C1.out.cell (p := ⟨g10, 2, none⟩) (cell_lt o2) (by have := OL.out; show ¬ (g10 = g); omega)).trans o2
            have u3 : w1'.cell? ⟨g10, 3, none⟩ = some (.int .i64 x.n) := (C1.out.cell (p := ⟨g10, 3, none⟩) (cell_lt o3) (by have := OL.out; show ¬ (g10 = g); omega)).trans o3
            rw [Hw1.out, Hg11.out]
            clear HY1 HO1 HA1 HC1 HP1 L1 Hw1
            go_upto_region 16 with (go_at_call 15; refine (prepare_n A1 E1 (by omega) x.r x.n).mono ?_; rintro e w2 ⟨za, zm, zc, rfl, HP2⟩; rw [K2.out, EV.out, P2.out])
            obtain ⟨Y2, HY2, HO2, HA2, HC2⟩ := HP2.out
            rw [S2.out] at HA2
            obtain ⟨w2', Hw2⟩ : ∃ w2', Hid (w2.alloc (.cells #[.int .i64 p, .int .i64 q] 34) = w2') := ⟨_, rfl⟩
            obtain ⟨g14, Hg14⟩ : ∃ g14, Hid (w2.heap.size = g14) := ⟨_, rfl⟩
            have L2' : Below w2.heap.size w2 w2' := by rw [← Hw2.out]; exact alloc1 _ _
            have C2 : Ch w1' w2' (fun q => q = g) := HC2.trans (Ch.below L2')
            have KK : Kp w w2' G g g7 g10 g11 g14 s1 a m c X x p q ya ym Y1 za zm Y2 ka kn KX s := by
              have CC := C1.out.trans C2
              have hs := Ro.out.step CC GE.out
              have gw := A1.out.glt
              refine ⟨hs.2, HA2.below L2', hs.1, ?_, ?_, ?_, ?_, ?_, ?_, ?_⟩
              · exact (CC.cell (p := ⟨g10, 2, none⟩) (cell_lt o2) (by have := OL.out; show ¬ (g10 = g); omega)).trans o2
              · exact (CC.cell (p := ⟨g10, 3, none⟩) (cell_lt o3) (by have := OL.out; show ¬ (g10 = g); omega)).trans o3
              · exact (C2.block g11 (Array.getElem?_eq_some_iff.1 k11.out).1 (by have := l11.out; omega)).trans k11.out
              · rw [← Hw2.out, ← Hg14.out]; exact heap_alloc_new _ _
              · exact (O1.out.1.cms.ch C2 (fun q h1 _ e => by have := Ao.out.glt; omega)).mono (Nat.zero_le _)
              · exact ((HO2.below L2').cms).mono (Nat.zero_le _)
              · exact Ro.out.kc.below hs.2
            have LE : Hid (decide (led Y1 = led Y2) = true) := decide_eq_true (by rw [O1.out.2, HY2, L2.out])
            have LG : Hid (lgl x.r x.n = false) := prk_two K1.out
            rw [Hw2.out, Hg14.out]
            clear HY2 HO2 HA2 HC2 HP2 L2' Hw2 C2 u2 u3 o2 o3
            have x0 := KK.b0
            have x1 := KK.b1
            have y0 := KK.c0
            have y1 := KK.c1
            have z0 := KK.l0
            have z1 := KK.l1
            have EB : ∀ w, (Op.equalIn 10000 34 (bal p q) (bal p q)).run Tryd.prog w = .ok true w := fun w => by rw [eqBal, decide_eq_true ⟨rfl, rfl⟩]
            go_upto_region 18 with (first
              | (go_at_call 21; refine (num_v (E := E) 2 (by decide) (show Hid _ from hE.out.below KK.bel)).mono ?_; rintro e w5 ⟨rfl, H5⟩
                 have KK := KK.below H5.out
                 have x0 := KK.b0
                 have x1 := KK.b1
                 have y0 := KK.c0
                 have y1 := KK.c1
                 have z0 := KK.l0
                 have z1 := KK.l1)
              | (go_at_call 22; refine (same_n (show Hid _ from KK.yl) (show Hid _ from KK.zl)).mono ?_; rintro e w5 ⟨rfl, H5⟩; rw [LE.out]
                 have KK := KK.below H5.out
                 have x0 := KK.b0
                 have x1 := KK.b1
                 have y0 := KK.c0
                 have y1 := KK.c1
                 have z0 := KK.l0
                 have z1 := KK.l1))
            go_upto_region 20 with (fail)
            obtain ⟨v0, Hv0⟩ : ∃ v0, Hid (w5.drew = v0) := ⟨_, rfl⟩
            have KD : Kp w v0 G g g7 g10 g11 g14 s1 a m c X x p q ya ym Y1 za zm Y2 ka kn KX s := by rw [← Hv0.out]; exact KK.below (Below.refl _ _).drew
            clear x0 x1 y0 y1 z0 z1
            refine wp_region_till (S := fun L W => Kp w W G g g7 g10 g11 g14 s1 a m c X x p q ya ym Y1 za zm Y2 ka kn KX s) (by kernel_rfl) (by rw [Hv0.out]; exact KD) (fun hS => ?_)
            rw [Hv0.out] at hS ⊢
            clear KD
            refine till_take (i := 0) (v := .iface 102 (.pointer (some (E 0)))) rfl (by kernel_rfl) (by kernel_rfl) (by kernel_rfl) (fun _ _ _ h => h) (fun L w => Iff.rfl) (Or.inl ⟨by rfl, fun w => by go_simp⟩) hS (fun hSb => ?_)
            simp only [List.getElem_toArray, List.getElem_cons_zero, List.getElem_cons_succ, Act.put, List.setIfInBounds_toArray, List.set_cons_zero, List.set_cons_succ]
            clear hS
            refine till_take (i := 1) (v := .bool false) rfl (by kernel_rfl) (by kernel_rfl) (by kernel_rfl) (fun _ _ _ h => h) (fun L w => Iff.rfl) (Or.inl ⟨by rfl, fun w => by go_simp⟩) hSb (fun hS => ?_)
            simp only [List.getElem_toArray, List.getElem_cons_zero, List.getElem_cons_succ, Act.put, List.setIfInBounds_toArray, List.set_cons_zero, List.set_cons_succ]
            clear hSb
            refine till_take (i := 2) (v := .pointer (some ⟨g10, 2, none⟩)) rfl (by kernel_rfl) (by kernel_rfl) (by kernel_rfl) (fun _ _ _ h => h) (fun L w => Iff.rfl) (Or.inl ⟨by rfl, fun w => by go_simp⟩) hS (fun hSb => ?_)
            simp only [List.getElem_toArray, List.getElem_cons_zero, List.getElem_cons_succ, Act.put, List.setIfInBounds_toArray, List.set_cons_zero, List.set_cons_succ]
            clear hS
            refine till_read (i := 3) (c := 4) (v := bal x.r x.n) (T := fun W => Kp w W G g g7 g10 g11 g14 s1 a m c X x p q ya ym Y1 za zm Y2 ka kn KX s) rfl rfl (by kernel_rfl) (by kernel_rfl) (by kernel_rfl) (by kernel_rfl) (by kernel_rfl) (fun _ _ _ h => h) (fun L w => Iff.rfl) (fun L w h1 h2 => h2) (Or.inl ⟨by rfl, fun w h => by have q1 := h.o2; have q2 := h.o3; go_simp⟩) hSb (fun hS => ?_)
            simp only [List.getElem_toArray, List.getElem_cons_zero, List.getElem_cons_succ, Act.put, List.setIfInBounds_toArray, List.set_cons_zero, List.set_cons_succ]
            clear hSb
            refine till_one (i := 4) (by kernel_rfl) rfl (fun K hK => ?_)
            simp only [List.getElem_toArray, List.getElem_cons_zero, List.getElem_cons_succ]
            rw [if_pos (by rfl)]
            go_simp
            go_wp2_with (go_at_call 23; refine (legal_n x.r x.n _).mono ?_; rintro e v1 ⟨rfl, H1⟩; rw [LG.out])
            have Z1 := Kp.below hS H1.out
            refine hK.out _ _ (Z1) (fun hSb => ?_)
            clear hK K
            try simp only [List.getElem_toArray, List.getElem_cons_zero, List.getElem_cons_succ, Act.put, List.setIfInBounds_toArray, List.set_cons_zero, List.set_cons_succ]
            clear hS
            refine till_take (i := 5) (v := .bool false) rfl (by kernel_rfl) (by kernel_rfl) (by kernel_rfl) (fun _ _ _ h => h) (fun L w => Iff.rfl) (Or.inl ⟨by rfl, fun w => by go_simp⟩) hSb (fun hS => ?_)
            simp only [List.getElem_toArray, List.getElem_cons_zero, List.getElem_cons_succ, Act.put, List.setIfInBounds_toArray, List.set_cons_zero, List.set_cons_succ]
            clear hSb
            refine till_take (i := 6) (v := undef) rfl (by kernel_rfl) (by kernel_rfl) (by kernel_rfl) (fun _ _ _ h => h) (fun L w => Iff.rfl) (Or.inr ⟨by rfl, rfl⟩) hS (fun hSb => ?_)
            simp only [List.getElem_toArray, List.getElem_cons_zero, List.getElem_cons_succ, Act.put, List.setIfInBounds_toArray, List.set_cons_zero, List.set_cons_succ]
            clear hS
            refine till_take (i := 8) (v := undef) rfl (by kernel_rfl) (by kernel_rfl) (by kernel_rfl) (fun _ _ _ h => h) (fun L w => Iff.rfl) (Or.inr ⟨by rfl, rfl⟩) hSb (fun hS => ?_)
            simp only [List.getElem_toArray, List.getElem_cons_zero, List.getElem_cons_succ, Act.put, List.setIfInBounds_toArray, List.set_cons_zero, List.set_cons_succ]
            clear hSb
            refine till_take (i := 9) (v := undef) rfl (by kernel_rfl) (by kernel_rfl) (by kernel_rfl) (fun _ _ _ h => h) (fun L w => Iff.rfl) (Or.inr ⟨by rfl, rfl⟩) hS (fun hSb => ?_)
            simp only [List.getElem_toArray, List.getElem_cons_zero, List.getElem_cons_succ, Act.put, List.setIfInBounds_toArray, List.set_cons_zero, List.set_cons_succ]
            clear hS
            refine till_one (i := 7) (by kernel_rfl) rfl (fun K hK => ?_)
            simp only [List.getElem_toArray, List.getElem_cons_zero, List.getElem_cons_succ]
            rw [if_neg (by intro h; have h2 : false = true := h; cases h2)]
            refine hK.out _ _ (hSb) (fun hS => ?_)
            clear hK K
            try simp only [List.getElem_toArray, List.getElem_cons_zero, List.getElem_cons_succ, Act.put, List.setIfInBounds_toArray, List.set_cons_zero, List.set_cons_succ]
            clear hSb
            refine till_take (i := 10) (v := undef) rfl (by kernel_rfl) (by kernel_rfl) (by kernel_rfl) (fun _ _ _ h => h) (fun L w => Iff.rfl) (Or.inr ⟨by rfl, rfl⟩) hS (fun hSb => ?_)
            simp only [List.getElem_toArray, List.getElem_cons_zero, List.getElem_cons_succ, Act.put, List.setIfInBounds_toArray, List.set_cons_zero, List.set_cons_succ]
            clear hS
            refine till_take (i := 11) (v := .bool false) rfl (by kernel_rfl) (by kernel_rfl) (by kernel_rfl) (fun _ _ _ h => h) (fun L w => Iff.rfl) (Or.inl ⟨by rfl, fun w => by go_simp⟩) hSb (fun hS => ?_)
            simp only [List.getElem_toArray, List.getElem_cons_zero, List.getElem_cons_succ, Act.put, List.setIfInBounds_toArray, List.set_cons_zero, List.set_cons_succ]
            clear hSb
            refine till_take (i := 12) (v := .bool false) rfl (by kernel_rfl) (by kernel_rfl) (by kernel_rfl) (fun _ _ _ h => h) (fun L w => Iff.rfl) (Or.inl ⟨by rfl, fun w => by go_simp⟩) hS (fun hSb => ?_)
            simp only [List.getElem_toArray, List.getElem_cons_zero, List.getElem_cons_succ, Act.put, List.setIfInBounds_toArray, List.set_cons_zero, List.set_cons_succ]
            clear hS
            refine till_done (by kernel_rfl) ?_ _
            clear hSb
            have FIN : Hid (KS w v1 G g g7 s1 a m c X ka kn KX) := KS.of_kp Z1 KO.out Ro.out
            clear Z1
            go_wp2
            go_roundw
            case rel => exact ⟨i + 1, s1, a, m, c, X, ka, kn, kc, KX, by omega, by go_num, rfl, FIN.out⟩
            case measure => simp [intOf]; omega
          · skip
            have EV : Hid (errv E 12 = .iface 102 (.pointer (some (E 1)))) := (rfl : errv E 12 = .iface 102 (.pointer (some (E 1))))
            have K1 : Hid (prk s x.r x.n = 12) := hk
            have F := pr_twice OK.out x.r x.n
            obtain ⟨s1, Hs1⟩ : ∃ s1, Hid (prS s x.r x.n = s1) := ⟨_, rfl⟩
            rw [Hs1.out] at F
            obtain ⟨p, q, Hpq⟩ : ∃ p q, Hid (prA s x.r x.n = (p, q)) := ⟨_, _, rfl⟩
            have K2 : Hid (prk s1 x.r x.n = 12) := F.1.trans hk
            have P2 : Hid (prA s1 x.r x.n = (p, q)) := F.2.1.trans Hpq.out
            have L2 : Hid (prL s1 x.r x.n = prL s x.r x.n) := F.2.2.1
            have S2 : Hid (prS s1 x.r x.n = s1) := F.2.2.2.1
            have KO : Hid (Okk s1 ∧ s1.aR = s.aR ∧ s1.aN = s.aN ∧ s1.L = s.L) := F.2.2.2.2
            clear F hk
            go_upto_region 15 with (go_at_call 15; refine (prepare_n Ao Eo (by omega) x.r x.n).mono ?_; rintro e w1 ⟨ya, ym, yc, rfl, HP1⟩; rw [K1.out, EV.out, Hpq.out])
            obtain ⟨Y1, HY1, HO1, HA1, HC1⟩ := HP1.out
            rw [Hs1.out] at HA1
            obtain ⟨w1', Hw1⟩ : ∃ w1', Hid (w1.alloc (.cells #[.int .i64 p, .int .i64 q] 34) = w1') := ⟨_, rfl⟩
            obtain ⟨g11, Hg11⟩ : ∃ g11, Hid (w1.heap.size = g11) := ⟨_, rfl⟩
            have L1 : Below w1.heap.size w1 w1' := by rw [← Hw1.out]; exact alloc1 _ _
            have A1 : Hid (Acc w1' 84 G g s1 a m c X) := HA1.below L1
            have C1 : Hid (Ch wo w1' (fun q => q = g)) := HC1.trans (Ch.below L1)
            have E1 : Hid (Sent w1' 18 E) := hE.out.below (Ro.out.step C1.out GE.out).2
            have O1 : Hid (Oc w1' wo.heap.size ya ym yc Y1 ∧ led Y1 = prL s x.r x.n) := ⟨HO1.below L1, HY1⟩
            have k11 : Hid (w1'.heap[g11]? = some (.cells #[.int .i64 p, .int .i64 q] 34 (0, 0))) := by show _ = _; rw [← Hw1.out, ← Hg11.out]; exact heap_alloc_new _ _
            have l11 : Hid (g < g11) := by have := HA1.glt; have := Hg11.out; show g < g11; omega
            have u2 : w1'.cell? ⟨g10, 2, none⟩ = some (.int .i64 x.r) := (C1.out.cell (p := ⟨g10, 2, none⟩) (cell_lt o2) (by have := OL.out; show ¬ (g10 = g); omega)).trans o2
            have u3 : w1'.cell? ⟨g10, 3, none⟩ = some (.int .i64 x.n) := (C1.out.cell (p := ⟨g10, 3, none⟩) (cell_lt o3) (by have := OL.out; show ¬ (g10 = g); omega)).trans o3
            rw [Hw1.out, Hg11.out]
            clear HY1 HO1 HA1 HC1 HP1 L1 Hw1
            go_upto_region 16 with (go_at_call 15; refine (prepare_n A1 E1 (by omega) x.r x.n).mono ?_; rintro e w2 ⟨za, zm, zc, rfl, HP2⟩; rw [K2.out, EV.out, P2.out])
            obtain ⟨Y2, HY2, HO2, HA2, HC2⟩ := HP2.out
            rw [S2.out] at HA2
            obtain ⟨w2', Hw2⟩ : ∃ w2', Hid (w2.alloc (.cells #[.int .i64 p, .int .i64 q] 34) = w2') := ⟨_, rfl⟩
            obtain ⟨g14, Hg14⟩ : ∃ g14, Hid (w2.heap.size = g14) := ⟨_, rfl⟩
            have L2' : Below w2.heap.size w2 w2' := by rw [← Hw2.out]; exact alloc1 _ _
            have C2 : Ch w1' w2' (fun q => q = g) := HC2.trans (Ch.below L2')
            have KK : Kp w w2' G g g7 g10 g11 g14 s1 a m c X x p q ya ym Y1 za zm Y2 ka kn KX s := by
              have CC := C1.out.trans C2
              have hs := Ro.out.step CC GE.out
              have gw := A1.out.glt
              refine ⟨hs.2, HA2.below L2', hs.1, ?_, ?_, ?_, ?_, ?_, ?_, ?_⟩
              · exact (CC.cell (p := ⟨g10, 2, none⟩) (cell_lt o2) (by have := OL.out; show ¬ (g10 = g); omega)).trans o2
              · exact (CC.cell (p := ⟨g10, 3, none⟩) (cell_lt o3) (by have := OL.out; show ¬ (g10 = g); omega)).trans o3
              · exact (C2.block g11 (Array.getElem?_eq_some_iff.1 k11.out).1 (by have := l11.out; omega)).trans k11.out
              · rw [← Hw2.out, ← Hg14.out]; exact heap_alloc_new _ _
              · exact (O1.out.1.cms.ch C2 (fun q h1 _ e => by have := Ao.out.glt; omega)).mono (Nat.zero_le _)
              · exact ((HO2.below L2').cms).mono (Nat.zero_le _)
              · exact Ro.out.kc.below hs.2
            have LE : Hid (decide (led Y1 = led Y2) = true) := decide_eq_true (by rw [O1.out.2, HY2, L2.out])
            have LG : Hid (lgl x.r x.n = true) := (prk_twelve K1.out).1
            have SP : Hid (¬ (s1.pR = x.r ∧ s1.pN = x.n)) := by
              have h1 := (prk_twelve K1.out).2
              rw [← Hs1.out, prS_no (by rw [K1.out]; decide)]
              intro h
              rw [h.1, h.2, abv_refl] at h1
              cases h1
            have EP : ∀ w, (Op.equalIn 10000 34 (bal s1.pR s1.pN) (bal x.r x.n)).run Tryd.prog w = .ok false w := fun w => by rw [eqBal, decide_eq_false SP.out]
            rw [Hw2.out, Hg14.out]
            clear HY2 HO2 HA2 HC2 HP2 L2' Hw2 C2 u2 u3 o2 o3
            have x0 := KK.b0
            have x1 := KK.b1
            have y0 := KK.c0
            have y1 := KK.c1
            have z0 := KK.l0
            have z1 := KK.l1
            have EB : ∀ w, (Op.equalIn 10000 34 (bal p q) (bal p q)).run Tryd.prog w = .ok true w := fun w => by rw [eqBal, decide_eq_true ⟨rfl, rfl⟩]
            go_upto_region 18 with (first
              | (go_at_call 21; refine (num_v (E := E) 12 (by decide) (show Hid _ from hE.out.below KK.bel)).mono ?_; rintro e w5 ⟨rfl, H5⟩
                 have KK := KK.below H5.out
                 have x0 := KK.b0
                 have x1 := KK.b1
                 have y0 := KK.c0
                 have y1 := KK.c1
                 have z0 := KK.l0
                 have z1 := KK.l1)
              | (go_at_call 22; refine (same_n (show Hid _ from KK.yl) (show Hid _ from KK.zl)).mono ?_; rintro e w5 ⟨rfl, H5⟩; rw [LE.out]
                 have KK := KK.below H5.out
                 have x0 := KK.b0
                 have x1 := KK.b1
                 have y0 := KK.c0
                 have y1 := KK.c1
                 have z0 := KK.l0
                 have z1 := KK.l1))
            go_upto_region 20 with (fail)
            obtain ⟨v0, Hv0⟩ : ∃ v0, Hid (w5.drew = v0) := ⟨_, rfl⟩
            have KD : Kp w v0 G g g7 g10 g11 g14 s1 a m c X x p q ya ym Y1 za zm Y2 ka kn KX s := by rw [← Hv0.out]; exact KK.below (Below.refl _ _).drew
            clear x0 x1 y0 y1 z0 z1
            refine wp_region_till (S := fun L W => Kp w W G g g7 g10 g11 g14 s1 a m c X x p q ya ym Y1 za zm Y2 ka kn KX s) (by kernel_rfl) (by rw [Hv0.out]; exact KD) (fun hS => ?_)
            rw [Hv0.out] at hS ⊢
            clear KD
            refine till_take (i := 0) (v := .iface 102 (.pointer (some (E 1)))) rfl (by kernel_rfl) (by kernel_rfl) (by kernel_rfl) (fun _ _ _ h => h) (fun L w => Iff.rfl) (Or.inl ⟨by rfl, fun w => by go_simp⟩) hS (fun hSb => ?_)
            simp only [List.getElem_toArray, List.getElem_cons_zero, List.getElem_cons_succ, Act.put, List.setIfInBounds_toArray, List.set_cons_zero, List.set_cons_succ]
            clear hS
            refine till_take (i := 1) (v := .bool false) rfl (by kernel_rfl) (by kernel_rfl) (by kernel_rfl) (fun _ _ _ h => h) (fun L w => Iff.rfl) (Or.inl ⟨by rfl, fun w => by go_simp⟩) hSb (fun hS => ?_)
            simp only [List.getElem_toArray, List.getElem_cons_zero, List.getElem_cons_succ, Act.put, List.setIfInBounds_toArray, List.set_cons_zero, List.set_cons_succ]
            clear hSb
            refine till_take (i := 2) (v := .pointer (some ⟨g10, 2, none⟩)) rfl (by kernel_rfl) (by kernel_rfl) (by kernel_rfl) (fun _ _ _ h => h) (fun L w => Iff.rfl) (Or.inl ⟨by rfl, fun w => by go_simp⟩) hS (fun hSb => ?_)
            simp only [List.getElem_toArray, List.getElem_cons_zero, List.getElem_cons_succ, Act.put, List.setIfInBounds_toArray, List.set_cons_zero, List.set_cons_succ]
            clear hS
            refine till_read (i := 3) (c := 4) (v := bal x.r x.n) (T := fun W => Kp w W G g g7 g10 g11 g14 s1 a m c X x p q ya ym Y1 za zm Y2 ka kn KX s) rfl rfl (by kernel_rfl) (by kernel_rfl) (by kernel_rfl) (by kernel_rfl) (by kernel_rfl) (fun _ _ _ h => h) (fun L w => Iff.rfl) (fun L w h1 h2 => h2) (Or.inl ⟨by rfl, fun w h => by have q1 := h.o2; have q2 := h.o3; go_simp⟩) hSb (fun hS => ?_)
            simp only [List.getElem_toArray, List.getElem_cons_zero, List.getElem_cons_succ, Act.put, List.setIfInBounds_toArray, List.set_cons_zero, List.set_cons_succ]
            clear hSb
            refine till_one (i := 4) (by kernel_rfl) rfl (fun K hK => ?_)
            simp only [List.getElem_toArray, List.getElem_cons_zero, List.getElem_cons_succ]
            rw [if_pos (by rfl)]
            go_simp
            go_wp2_with (go_at_call 23; refine (legal_n x.r x.n _).mono ?_; rintro e v1 ⟨rfl, H1⟩; rw [LG.out])
            have Z1 := Kp.below hS H1.out
            refine hK.out _ _ (Z1) (fun hSb => ?_)
            clear hK K
            try simp only [List.getElem_toArray, List.getElem_cons_zero, List.getElem_cons_succ, Act.put, List.setIfInBounds_toArray, List.set_cons_zero, List.set_cons_succ]
            clear hS
            refine till_take (i := 5) (v := .bool true) rfl (by kernel_rfl) (by kernel_rfl) (by kernel_rfl) (fun _ _ _ h => h) (fun L w => Iff.rfl) (Or.inl ⟨by rfl, fun w => by go_simp⟩) hSb (fun hS => ?_)
            simp only [List.getElem_toArray, List.getElem_cons_zero, List.getElem_cons_succ, Act.put, List.setIfInBounds_toArray, List.set_cons_zero, List.set_cons_succ]
            clear hSb
            refine till_take (i := 6) (v := .pointer (some ⟨g, 0, none⟩)) rfl (by kernel_rfl) (by kernel_rfl) (by kernel_rfl) (fun _ _ _ h => h) (fun L w => Iff.rfl) (Or.inl ⟨by rfl, fun w => by go_simp⟩) hS (fun hSb => ?_)
            simp only [List.getElem_toArray, List.getElem_cons_zero, List.getElem_cons_succ, Act.put, List.setIfInBounds_toArray, List.set_cons_zero, List.set_cons_succ]
            clear hS
            refine till_take (i := 8) (v := .pointer (some ⟨g10, 2, none⟩)) rfl (by kernel_rfl) (by kernel_rfl) (by kernel_rfl) (fun _ _ _ h => h) (fun L w => Iff.rfl) (Or.inl ⟨by rfl, fun w => by go_simp⟩) hSb (fun hS => ?_)
            simp only [List.getElem_toArray, List.getElem_cons_zero, List.getElem_cons_succ, Act.put, List.setIfInBounds_toArray, List.set_cons_zero, List.set_cons_succ]
            clear hSb
            refine till_read (i := 9) (c := 10) (v := bal x.r x.n) (T := fun W => Kp w W G g g7 g10 g11 g14 s1 a m c X x p q ya ym Y1 za zm Y2 ka kn KX s) rfl rfl (by kernel_rfl) (by kernel_rfl) (by kernel_rfl) (by kernel_rfl) (by kernel_rfl) (fun _ _ _ h => h) (fun L w => Iff.rfl) (fun L w h1 h2 => h2) (Or.inl ⟨by rfl, fun w h => by have q1 := h.o2; have q2 := h.o3; go_simp⟩) hS (fun hSb => ?_)
            simp only [List.getElem_toArray, List.getElem_cons_zero, List.getElem_cons_succ, Act.put, List.setIfInBounds_toArray, List.set_cons_zero, List.set_cons_succ]
            clear hS
            refine till_one (i := 7) (by kernel_rfl) rfl (fun K hK => ?_)
            simp only [List.getElem_toArray, List.getElem_cons_zero, List.getElem_cons_succ]
            rw [if_pos (by rfl)]
            go_simp
            go_wp2_with (go_at_call 14; refine (promised_n (show Hid _ from Z1.acc)).mono ?_; rintro e v2 ⟨rfl, H2⟩)
            have Z2 := Kp.below hSb H2.out
            refine hK.out _ _ (Z2) (fun hS => ?_)
            clear hK K
            try simp only [List.getElem_toArray, List.getElem_cons_zero, List.getElem_cons_succ, Act.put, List.setIfInBounds_toArray, List.set_cons_zero, List.set_cons_succ]
            clear hSb
            refine till_take (i := 10) (v := .bool false) rfl (by kernel_rfl) (by kernel_rfl) (by kernel_rfl) (fun _ _ _ h => h) (fun L w => Iff.rfl) (Or.inl ⟨by rfl, fun w => by go_simp⟩) hS (fun hSb => ?_)
            simp only [List.getElem_toArray, List.getElem_cons_zero, List.getElem_cons_succ, Act.put, List.setIfInBounds_toArray, List.set_cons_zero, List.set_cons_succ]
            clear hS
            refine till_take (i := 11) (v := .bool false) rfl (by kernel_rfl) (by kernel_rfl) (by kernel_rfl) (fun _ _ _ h => h) (fun L w => Iff.rfl) (Or.inl ⟨by rfl, fun w => by go_simp⟩) hSb (fun hS => ?_)
            simp only [List.getElem_toArray, List.getElem_cons_zero, List.getElem_cons_succ, Act.put, List.setIfInBounds_toArray, List.set_cons_zero, List.set_cons_succ]
            clear hSb
            refine till_take (i := 12) (v := .bool false) rfl (by kernel_rfl) (by kernel_rfl) (by kernel_rfl) (fun _ _ _ h => h) (fun L w => Iff.rfl) (Or.inl ⟨by rfl, fun w => by go_simp⟩) hS (fun hSb => ?_)
            simp only [List.getElem_toArray, List.getElem_cons_zero, List.getElem_cons_succ, Act.put, List.setIfInBounds_toArray, List.set_cons_zero, List.set_cons_succ]
            clear hS
            refine till_done (by kernel_rfl) ?_ _
            clear hSb
            have FIN : Hid (KS w v2 G g g7 s1 a m c X ka kn KX) := KS.of_kp Z2 KO.out Ro.out
            clear Z1 Z2
            go_wp2
            go_roundw
            case rel => exact ⟨i + 1, s1, a, m, c, X, ka, kn, kc, KX, by omega, by go_num, rfl, FIN.out⟩
            case measure => simp [intOf]; omega
      · go_wp2
        go_ret
        exact ⟨rfl, HR.out.bel⟩
  · have HNF : nod node = false := by simpa using hN
    have HNo : ¬ (0 ≤ node ∧ node < 16) := of_decide_eq_false HNF
    go_enter Tryd.func7, Tryd.ntmps7
    have E1 : ∀ w1, Below w.heap.size w w1 → Hid (Sent w1 18 E) := fun w1 h => hE.out.below h
    by_cases h0 : node < 0
    · go_wp2_with (first
        | (go_at_call 8; refine (alive_n hE (by omega)).mono ?_; rintro e w1 ⟨rfl, H1⟩)
        | (go_at_call 9; refine (new_no node HNF (E1 w1 H1.out) (by omega)).mono ?_; rintro e w2 ⟨rfl, H2⟩; unfold er))
      go_ret
      exact ⟨rfl, H1.out.trans (H2.out.mono H1.out.size)⟩
    · have h15 : node > 15 := by omega
      go_wp2_with (first
        | (go_at_call 8; refine (alive_n hE (by omega)).mono ?_; rintro e w1 ⟨rfl, H1⟩)
        | (go_at_call 9; refine (new_no node HNF (E1 w1 H1.out) (by omega)).mono ?_; rintro e w2 ⟨rfl, H2⟩; unfold er))
      go_ret
      exact ⟨rfl, H1.out.trans (H2.out.mono H1.out.size)⟩
end Go.Proofs.YtdfnjcjpblkmcaaDoor
