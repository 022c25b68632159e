/- The law's play: one call by both acceptors. -/
import Derived.Test.YtdfnjcjpblkmcaaDoorAq
import Derived.Test.YtdfnjcjpblkmcaaDoorAt
import Derived.Test.YtdfnjcjpblkmcaaDoorAu
namespace Go.Proofs.YtdfnjcjpblkmcaaDoor
open Go.ChangeShapes Go.WideShapes Go.ChangeAt Go.RowKit
set_option maxRecDepth 20000
set_option linter.unusedVariables false
set_option linter.unusedSimpArgs false
abbrev opv (x : Opt) : Value := .agg #[.int .i64 x.kind, .int .i64 x.which, .int .i64 x.r, .int .i64 x.n, .slice x.a x.m x.c]
/- both acceptors hold the same -/
def PairP (w w' : World) (G g gm : Nat) : Prop := ∃ s a m c X a' m' c' X', Acc w' 84 G g s a m c X ∧ Acc w' 37 G gm s a' m' c' X' ∧ Okk s ∧ Ch w w' (fun q => q = g ∨ q = gm)
theorem Sent.chg {w w' : World} {M : Nat} {E : Nat → Addr} {g : Nat} (h : Sent w M E) (hc : Ch w w' (fun q => q = g)) (hg : M ≤ g ∧ ∀ k, k < M → (E k).block ≠ g) : Sent w' M E :=
  ⟨fun k hk => (hc.cell (p := ⟨k, 0, none⟩) (cell_lt (h.c k hk)) (by have := hg.1; show ¬ (k = g); omega)).trans (h.c k hk), fun k hk => by
    obtain ⟨cs, t, h1⟩ := h.row k hk
    exact ⟨cs, t, (hc.block _ (Array.getElem?_eq_some_iff.1 h1).1 (hg.2 k hk)).trans h1⟩, h.ne⟩
theorem spoil_acc {w4 w5 : World} {t : TypeId} {G g : Nat} {s : As} {a : Option Addr} {m c : Nat} {X : List Cx} {ya : Option Addr} {Y : List Cx} (A : Acc w4 t G g s a m c X) (C : Ch w4 w5 (fp ya Y)) (hg : ¬ fp ya Y g) (hf : ∀ q, fpc a m X q → ¬ fp ya Y q) : Acc w5 t G g s a m c X :=
  A.keepF C.size (C.block g A.glt hg) (fun q hq => C.block q (A.cms.fp_lt hq).2 (hf q hq))
theorem prv_cms {w : World} {G g : Nat} {s : As} {r n : Int} {a : Option Addr} {m c : Nat} {X : List Cx} (h : Acc w 37 G g (prS s r n) a m c X) : ∃ va vm vc VX, prV s r n a m c = .slice va vm vc ∧ led VX = prL s r n ∧ Cms w 0 va vm VX := by
  by_cases hk : prk s r n = 0
  · refine ⟨a, m, c, X, by simp [prV, hk], ?_, h.cms.mono (Nat.zero_le _)⟩
    have e := h.e
    rw [prS_ok hk] at e
    simpa [prL, hk] using e
  · exact ⟨none, 0, 0, [], by simp [prV, hk], by simp [prL, hk, led], Cms.nil _ _ _⟩
theorem prk_kv (s : As) (r n : Int) : prk s r n = 0 ∨ prk s r n = 2 ∨ prk s r n = 12 ∨ prk s r n = 10 := by
  rcases prk_cases s r n with h | h | h
  · exact .inl h
  · exact .inr (.inl h)
  · exact .inr (.inr (.inl h))
set_option maxHeartbeats 4000000 in
theorem play_prep {E : Nat → Addr} {w : World} {G g gm : Nat} {s : As} {a : Option Addr} {m c : Nat} {X : List Cx} {a' : Option Addr} {m' c' : Nat} {X' : List Cx} (hA : Hid (Acc w 84 G g s a m c X)) (hB : Hid (Acc w 37 G gm s a' m' c' X')) (hE : Hid (Sent w 18 E)) (hG : Hid (G ≤ w.heap.size)) (NGM : Hid (gm ≠ g)) (hOk : Hid (Okk s)) (g18 : Hid (18 ≤ g ∧ 18 ≤ gm)) (EB : Hid (∀ k, k < 18 → (E k).block ≠ g ∧ (E k).block ≠ gm)) (x : Opt) (hL : Hid (Cms w 0 x.a x.m x.X)) (XZ : Hid (x.a = none → x.c = 0)) (hlo : Hid (∀ q, fpc x.a x.m x.X q → q ≠ g ∧ q ≠ gm)) (hk1 : x.kind = 1) :
    Calls Tryd.prog 10 #[.pointer (some ⟨g, 0, none⟩), .pointer (some ⟨gm, 0, none⟩), opv x] w fun e w' => e = .returned (.bool true) ∧ Hid (PairP w w' G g gm) := by
  obtain ⟨gb, Hgb⟩ : ∃ gb, Hid (w.heap.size = gb) := ⟨_, rfl⟩
  obtain ⟨wo, Hwo⟩ : ∃ wo, Hid (w.alloc (.cells #[.int .i64 x.kind, .int .i64 x.which, .int .i64 x.r, .int .i64 x.n, .slice x.a x.m x.c] 39) = wo) := ⟨_, rfl⟩
  have Bo : Hid (Below w.heap.size w wo) := by rw [← Hwo.out]; exact alloc1 w _
  have ko : wo.heap[gb]? = some (.cells #[.int .i64 x.kind, .int .i64 x.which, .int .i64 x.r, .int .i64 x.n, .slice x.a x.m x.c] 39 (0, 0)) := by rw [← Hwo.out, ← Hgb.out]; exact heap_alloc_new w _
  have o0 : wo.cell? ⟨gb, 0, none⟩ = some (.int .i64 x.kind) := by simp [World.cell?, ko]
  have QO : Hid (Oq wo gb x.r x.n x.a x.m x.c) := ⟨by simp [World.cell?, ko], by simp [World.cell?, ko], by simp [World.cell?, ko]⟩
  have Ao : Hid (Acc wo 84 G g s a m c X) := hA.out.below Bo.out
  have Mo : Hid (Acc wo 37 G gm s a' m' c' X') := hB.out.below Bo.out
  have Eo : Hid (Sent wo 18 E) := hE.out.below Bo.out
  have GB : Hid (g < gb ∧ gm < gb ∧ G ≤ gb ∧ gb < wo.heap.size) := by
    have h1 := hA.out.glt; have h2 := hB.out.glt; have h3 := Hgb.out; have h4 := hG.out; have h5 := (Array.getElem?_eq_some_iff.1 ko).1
    show _ ∧ _ ∧ _ ∧ _
    omega
  rw [hk1] at o0
  clear hk1
  obtain ⟨k, Hk⟩ : ∃ k, Hid (prk s x.r x.n = k) := ⟨_, rfl⟩
  have KV : Hid (k = 0 ∨ k = 2 ∨ k = 12 ∨ k = 10) := by rw [← Hk.out]; exact prk_kv s x.r x.n
  obtain ⟨p, q, Hpq⟩ : ∃ p q, Hid (prA s x.r x.n = (p, q)) := ⟨_, _, rfl⟩
  obtain ⟨ev, Hev⟩ : ∃ ev, Hid (errv E k = ev) := ⟨_, rfl⟩
  have x2 := QO.out.r
  have x3 := QO.out.n
  go_enter Tryd.func10, Tryd.ntmps10
  go_upto_region 1 with (fail)
  rw [Hwo.out, Hgb.out]
  go_upto_region 4 with (go_at_call 15; refine (prepare_n Ao Eo (by omega) x.r x.n).mono ?_; rintro e w1 ⟨ya, ym, yc, rfl, HP1⟩; rw [Hk.out, Hpq.out, Hev.out])
  obtain ⟨Y1, HY1, HO1, HA1, HC1⟩ := HP1.out
  obtain ⟨w1', Hw1⟩ : ∃ w1', Hid (w1.alloc (.cells #[.int .i64 p, .int .i64 q] 34) = w1') := ⟨_, rfl⟩
  obtain ⟨g7, Hg7⟩ : ∃ g7, Hid (w1.heap.size = g7) := ⟨_, rfl⟩
  have B1 : Below w1.heap.size w1 w1' := by rw [← Hw1.out]; exact alloc1 _ _
  have C1 : Ch wo w1' (fun j => j = g) := HC1.trans (Ch.below B1)
  have A1 : Hid (Acc w1' 84 G g (prS s x.r x.n) a m c X) := HA1.below B1
  have M1 : Hid (Acc w1' 37 G gm s a' m' c' X') := Mo.out.ch C1 NGM.out (fun j h1 _ e => by have := hA.out.lt; omega)
  have O1 : Hid (Oc w1' wo.heap.size ya ym yc Y1 ∧ led Y1 = prL s x.r x.n) := ⟨HO1.below B1, HY1⟩
  have k7 : Hid (w1'.heap[g7]? = some (.cells #[.int .i64 p, .int .i64 q] 34 (0, 0))) := by show _ = _; rw [← Hw1.out, ← Hg7.out]; exact heap_alloc_new _ _
  have HC1' : Hid (Ch wo w1' (fun j => j = g)) := C1
  have l7 : Hid (wo.heap.size ≤ g7) := by have := HC1.size; have := Hg7.out; show _ ≤ _; omega
  have E1 : Hid (Sent w1' 18 E) := Eo.out.chg C1 ⟨g18.out.1, fun k hk => (EB.out k hk).1⟩
  have x2 : w1'.cell? ⟨gb, 2, none⟩ = some (.int .i64 x.r) := (C1.cell (p := ⟨gb, 2, none⟩) (cell_lt x2) (by have := GB.out; show ¬ (gb = g); omega)).trans x2
  have x3 : w1'.cell? ⟨gb, 3, none⟩ = some (.int .i64 x.n) := (C1.cell (p := ⟨gb, 3, none⟩) (cell_lt x3) (by have := GB.out; show ¬ (gb = g); omega)).trans x3
  rw [Hw1.out, Hg7.out]
  clear HP1 HY1 HO1 HA1 HC1 B1 C1 Hw1 Hg7
  obtain ⟨va, vm, vc, HV⟩ : ∃ va vm vc, Hid (prV s x.r x.n a' m' c' = .slice va vm vc) := by
    unfold prV
    split
    · exact ⟨_, _, _, rfl⟩
    · exact ⟨_, _, _, rfl⟩
  go_upto_region 5 with (go_at_call 25; refine (refprep_n M1 x.r x.n).mono ?_; rintro e w2 ⟨rfl, HP2⟩; rw [Hk.out, Hpq.out, HV.out])
  obtain ⟨HM2, HC2⟩ := HP2.out
  obtain ⟨va', vm', vc', VX, ev1, hVX, cVX⟩ := prv_cms HM2
  rw [HV.out] at ev1
  simp only [Value.slice.injEq] at ev1
  obtain ⟨rfl, rfl, rfl⟩ := ev1
  obtain ⟨w2', Hw2⟩ : ∃ w2', Hid (w2.alloc (.cells #[.int .i64 p, .int .i64 q] 34) = w2') := ⟨_, rfl⟩
  obtain ⟨g10, Hg10⟩ : ∃ g10, Hid (w2.heap.size = g10) := ⟨_, rfl⟩
  have B2 : Below w2.heap.size w2 w2' := by rw [← Hw2.out]; exact alloc1 _ _
  have C2 : Ch w1' w2' (fun j => j = gm) := HC2.trans (Ch.below B2)
  have hgb := GB.out
  have hl7 := l7.out
  have x70 : w2'.heap[g7]? = some (.cells #[.int .i64 p, .int .i64 q] 34 (0, 0)) := (C2.block g7 (Array.getElem?_eq_some_iff.1 k7.out).1 (by omega)).trans k7.out
  have x10 : w2'.heap[g10]? = some (.cells #[.int .i64 p, .int .i64 q] 34 (0, 0)) := by rw [← Hw2.out, ← Hg10.out]; exact heap_alloc_new _ _
  have A2 : Hid (Acc w2' 84 G g (prS s x.r x.n) a m c X) := A1.out.ch C2 (fun e => NGM.out e.symm) (fun j h1 _ e => by have := hB.out.lt; omega)
  have M2 : Hid (Acc w2' 37 G gm (prS s x.r x.n) a' m' c' X') := HM2.below B2
  have O2 : Hid (Oc w2' wo.heap.size ya ym yc Y1) := O1.out.1.ch C2 (fun j h1 _ e => by omega)
  have CY : Hid (Cms w2' wo.heap.size ya ym Y1) := O2.out.cms
  have CV : Hid (Cms w2' 0 va vm VX) := cVX.below B2
  have LE : Hid (decide (led Y1 = led VX) = true) := decide_eq_true (by rw [O1.out.2, hVX])
  have E2 : Hid (Sent w2' 18 E) := E1.out.chg C2 ⟨g18.out.2, fun k hk => (EB.out k hk).2⟩
  have C02 : Hid (Ch w w2' (fun j => j = g ∨ j = gm)) := ((Ch.below Bo.out).trans (HC1'.out.weak (fun j _ h => .inl h))).trans (C2.weak (fun j _ h => .inr h))
  have y0 : w2'.cell? ⟨g7, 0, none⟩ = some (.int .i64 p) := by simp [World.cell?, x70]
  have y1 : w2'.cell? ⟨g7, 1, none⟩ = some (.int .i64 q) := by simp [World.cell?, x70]
  have z0 : w2'.cell? ⟨g10, 0, none⟩ = some (.int .i64 p) := by simp [World.cell?, x10]
  have z1 : w2'.cell? ⟨g10, 1, none⟩ = some (.int .i64 q) := by simp [World.cell?, x10]
  have EQB : ∀ w, (Op.equalIn 10000 34 (bal p q) (bal p q)).run Tryd.prog w = .ok true w := fun w => by rw [eqBal, decide_eq_true ⟨rfl, rfl⟩]
  rw [Hw2.out, Hg10.out]
  clear HP2 HM2 HC2 cVX hVX B2 C2 hgb hl7 x70 x10 Hw2 x2 x3 o0
  go_upto_region 6 with (first
    | (go_at_call 22; refine (same_n CY CV).mono ?_; rintro e w3 ⟨rfl, H3⟩; rw [LE.out]
       have E3 : Hid (Sent w3 18 E) := E2.out.below H3.out)
    | (go_at_call 21; rw [← Hev.out]; refine (num_v (E := E) k KV.out E3).mono ?_; rintro e w4 ⟨rfl, H4⟩))
  clear y0 y1 z0 z1
  have B4 : Below w2'.heap.size w2' w4 := H3.out.trans (H4.out.mono H3.out.size)
  have O4 : Hid (Oc w4 wo.heap.size ya ym yc Y1) := O2.out.below B4
  have A4 : Hid (Acc w4 84 G g (prS s x.r x.n) a m c X) := A2.out.below B4
  have M4 : Hid (Acc w4 37 G gm (prS s x.r x.n) a' m' c' X') := M2.out.below B4
  have C4 : Hid (Ch w w4 (fun j => j = g ∨ j = gm)) := C02.out.trans (Ch.below B4)
  have OB : Hid (∀ j, fp ya Y1 j → wo.heap.size ≤ j) := fun j hj => (O4.out.fp_lt hj).1
  clear B4
  go_wp2_with (go_at_call 26; refine (spoil_n O4).mono ?_; rintro e w5 ⟨rfl, H5⟩)
  go_ret
  refine ⟨rfl, prS s x.r x.n, a, m, c, X, a', m', c', X', spoil_acc A4.out H5.out (fun h => by have := OB.out g h; have := GB.out; omega) (fun j hj h => by have h1 := (Ao.out.cms.fp_lt hj).2; have := OB.out j h; omega), spoil_acc M4.out H5.out (fun h => by have := OB.out gm h; have := GB.out; omega) (fun j hj h => by have h1 := (Mo.out.cms.fp_lt hj).2; have := OB.out j h; omega), (okk_pr hOk.out x.r x.n).1, C4.out.then H5.out (fun j _ h => h) (fun j hj h => by have := OB.out j h; have := Bo.out.size; omega)⟩
set_option maxHeartbeats 4000000 in
theorem play_acc {E : Nat → Addr} {w : World} {G g gm : Nat} {s : As} {a : Option Addr} {m c : Nat} {X : List Cx} {a' : Option Addr} {m' c' : Nat} {X' : List Cx} (hA : Hid (Acc w 84 G g s a m c X)) (hB : Hid (Acc w 37 G gm s a' m' c' X')) (hE : Hid (Sent w 18 E)) (hG : Hid (G ≤ w.heap.size)) (NGM : Hid (gm ≠ g)) (hOk : Hid (Okk s)) (g18 : Hid (18 ≤ g ∧ 18 ≤ gm)) (EB : Hid (∀ k, k < 18 → (E k).block ≠ g ∧ (E k).block ≠ gm)) (x : Opt) (hL : Hid (Cms w 0 x.a x.m x.X)) (XZ : Hid (x.a = none → x.c = 0)) (hlo : Hid (∀ q, fpc x.a x.m x.X q → q ≠ g ∧ q ≠ gm)) (hk1 : x.kind = 2) :
    Calls Tryd.prog 10 #[.pointer (some ⟨g, 0, none⟩), .pointer (some ⟨gm, 0, none⟩), opv x] w fun e w' => e = .returned (.bool true) ∧ Hid (PairP w w' G g gm) := by
  obtain ⟨gb, Hgb⟩ : ∃ gb, Hid (w.heap.size = gb) := ⟨_, rfl⟩
  obtain ⟨wo, Hwo⟩ : ∃ wo, Hid (w.alloc (.cells #[.int .i64 x.kind, .int .i64 x.which, .int .i64 x.r, .int .i64 x.n, .slice x.a x.m x.c] 39) = wo) := ⟨_, rfl⟩
  have Bo : Hid (Below w.heap.size w wo) := by rw [← Hwo.out]; exact alloc1 w _
  have ko : wo.heap[gb]? = some (.cells #[.int .i64 x.kind, .int .i64 x.which, .int .i64 x.r, .int .i64 x.n, .slice x.a x.m x.c] 39 (0, 0)) := by rw [← Hwo.out, ← Hgb.out]; exact heap_alloc_new w _
  have o0 : wo.cell? ⟨gb, 0, none⟩ = some (.int .i64 x.kind) := by simp [World.cell?, ko]
  have QO : Hid (Oq wo gb x.r x.n x.a x.m x.c) := ⟨by simp [World.cell?, ko], by simp [World.cell?, ko], by simp [World.cell?, ko]⟩
  have Ao : Hid (Acc wo 84 G g s a m c X) := hA.out.below Bo.out
  have Mo : Hid (Acc wo 37 G gm s a' m' c' X') := hB.out.below Bo.out
  have Eo : Hid (Sent wo 18 E) := hE.out.below Bo.out
  have GB : Hid (g < gb ∧ gm < gb ∧ G ≤ gb ∧ gb < wo.heap.size) := by
    have h1 := hA.out.glt; have h2 := hB.out.glt; have h3 := Hgb.out; have h4 := hG.out; have h5 := (Array.getElem?_eq_some_iff.1 ko).1
    show _ ∧ _ ∧ _ ∧ _
    omega
  rw [hk1] at o0
  clear hk1
  obtain ⟨k, Hk⟩ : ∃ k, Hid (prk s x.r x.n = k) := ⟨_, rfl⟩
  have KV : Hid (k = 0 ∨ k = 2 ∨ k = 12 ∨ k = 10) := by rw [← Hk.out]; exact prk_kv s x.r x.n
  have XLo : Hid (Cms wo 0 x.a x.m x.X) := hL.out.below Bo.out
  have LNM : Hid (∀ q, fpc x.a x.m x.X q → q ≠ gm) := fun q hq => (hlo.out q hq).2
  have x4 := QO.out.l
  go_enter Tryd.func10, Tryd.ntmps10
  go_upto_region 1 with (fail)
  rw [Hwo.out, Hgb.out]
  go_upto_region 10 with (go_at_call 27; refine (copy_n XLo XZ).mono ?_; rintro e w0 ⟨la, lc, rfl, HP⟩)
  obtain ⟨Y, hY1, hY2, hY3⟩ := HP.out
  obtain ⟨w1, Hw1⟩ : ∃ w1, Hid (w0.drew = w1) := ⟨_, rfl⟩
  have B1 : Below wo.heap.size wo w1 := by rw [← Hw1.out]; exact hY3.drew
  have O1 : Hid (Oc w1 wo.heap.size la x.m lc Y) := by rw [← Hw1.out]; exact hY2.below (Below.refl _ _).drew
  have LY : Hid (led Y = led x.X) := hY1
  have LE : Hid (decide (led Y = led x.X) = true) := decide_eq_true hY1
  have A1 : Hid (Acc w1 84 G g s a m c X) := Ao.out.below B1
  have M1 : Hid (Acc w1 37 G gm s a' m' c' X') := Mo.out.below B1
  have E1 : Hid (Sent w1 18 E) := Eo.out.below B1
  have CL : Hid (Cms w1 wo.heap.size la x.m Y) := O1.out.cms
  have CZ : Hid (la = none → lc = 0) := O1.out.cap0
  have G1 : Hid (G ≤ w1.heap.size) := by have := B1.size; have := GB.out; show G ≤ _; omega
  have CN : Hid (∀ q, fpc la x.m Y q → q ≠ g) := fun q hq => by have h1 := (CL.out.fp_lt hq).1; have := GB.out; omega
  have XL : Hid (Cms w1 0 x.a x.m x.X) := XLo.out.below B1
  have Q1 : Oq w1 gb x.r x.n x.a x.m x.c := QO.out.blk (B1.block gb (cell_lt QO.out.r))
  have BW1 : Hid (Below w.heap.size w w1) := Bo.out.trans (B1.mono Bo.out.size)
  have S1 : Hid (wo.heap.size ≤ w1.heap.size) := B1.size
  have OB : Hid (∀ j, fp la Y j → wo.heap.size ≤ j ∧ j < w1.heap.size) := fun j hj => O1.out.fp_lt hj
  have h18 := g18.out
  have heb := EB.out
  refine wp_region_till (S := fun L W => Oq W gb x.r x.n x.a x.m x.c) (by kernel_rfl) (by rw [Hw1.out]; exact Q1) (fun hS => ?_)
  rw [Hw1.out] at hS ⊢
  clear HP hY1 hY2 hY3 B1 Q1 o0 x4
  refine till_take (i := 0) (v := .pointer (some ⟨g, 0, none⟩)) rfl (by kernel_rfl) (by kernel_rfl) (by kernel_rfl) (fun _ _ _ h => h) (fun L w => Iff.rfl) (Or.inl ⟨by rfl, fun w => by go_simp⟩) hS (fun hSb => ?_)
  simp only [List.getElem_toArray, List.getElem_cons_zero, List.getElem_cons_succ, Act.put, List.setIfInBounds_toArray, List.set_cons_zero, List.set_cons_succ]
  clear hS
  refine till_take (i := 1) (v := .pointer (some ⟨gb, 2, none⟩)) rfl (by kernel_rfl) (by kernel_rfl) (by kernel_rfl) (fun _ _ _ h => h) (fun L w => Iff.rfl) (Or.inl ⟨by rfl, fun w => by go_simp⟩) hSb (fun hS => ?_)
  simp only [List.getElem_toArray, List.getElem_cons_zero, List.getElem_cons_succ, Act.put, List.setIfInBounds_toArray, List.set_cons_zero, List.set_cons_succ]
  clear hSb
  refine till_read (i := 2) (c := 4) (v := bal x.r x.n) (T := fun W => Oq W gb x.r x.n x.a x.m x.c) rfl rfl (by kernel_rfl) (by kernel_rfl) (by kernel_rfl) (by kernel_rfl) (by kernel_rfl) (fun _ _ _ h => h) (fun L w => Iff.rfl) (fun L w h1 h2 => h2) (Or.inl ⟨by rfl, fun w h => by have q1 := h.r; have q2 := h.n; go_simp⟩) hS (fun hSb => ?_)
  simp only [List.getElem_toArray, List.getElem_cons_zero, List.getElem_cons_succ, Act.put, List.setIfInBounds_toArray, List.set_cons_zero, List.set_cons_succ]
  clear hS
  refine till_take (i := 3) (v := .slice la x.m lc) rfl (by kernel_rfl) (by kernel_rfl) (by kernel_rfl) (fun _ _ _ h => h) (fun L w => Iff.rfl) (Or.inl ⟨by rfl, fun w => by go_simp⟩) hSb (fun hS => ?_)
  simp only [List.getElem_toArray, List.getElem_cons_zero, List.getElem_cons_succ, Act.put, List.setIfInBounds_toArray, List.set_cons_zero, List.set_cons_succ]
  clear hSb
  refine till_take (i := 6) (v := .pointer (some ⟨gm, 0, none⟩)) rfl (by kernel_rfl) (by kernel_rfl) (by kernel_rfl) (fun _ _ _ h => h) (fun L w => Iff.rfl) (Or.inl ⟨by rfl, fun w => by go_simp⟩) hS (fun hSb => ?_)
  simp only [List.getElem_toArray, List.getElem_cons_zero, List.getElem_cons_succ, Act.put, List.setIfInBounds_toArray, List.set_cons_zero, List.set_cons_succ]
  clear hS
  refine till_take (i := 7) (v := .pointer (some ⟨gb, 2, none⟩)) rfl (by kernel_rfl) (by kernel_rfl) (by kernel_rfl) (fun _ _ _ h => h) (fun L w => Iff.rfl) (Or.inl ⟨by rfl, fun w => by go_simp⟩) hSb (fun hS => ?_)
  simp only [List.getElem_toArray, List.getElem_cons_zero, List.getElem_cons_succ, Act.put, List.setIfInBounds_toArray, List.set_cons_zero, List.set_cons_succ]
  clear hSb
  refine till_read (i := 8) (c := 11) (v := bal x.r x.n) (T := fun W => Oq W gb x.r x.n x.a x.m x.c) rfl rfl (by kernel_rfl) (by kernel_rfl) (by kernel_rfl) (by kernel_rfl) (by kernel_rfl) (fun _ _ _ h => h) (fun L w => Iff.rfl) (fun L w h1 h2 => h2) (Or.inl ⟨by rfl, fun w h => by have q1 := h.r; have q2 := h.n; go_simp⟩) hS (fun hSb => ?_)
  simp only [List.getElem_toArray, List.getElem_cons_zero, List.getElem_cons_succ, Act.put, List.setIfInBounds_toArray, List.set_cons_zero, List.set_cons_succ]
  clear hS
  refine till_take (i := 9) (v := .pointer (some ⟨gb, 4, none⟩)) rfl (by kernel_rfl) (by kernel_rfl) (by kernel_rfl) (fun _ _ _ h => h) (fun L w => Iff.rfl) (Or.inl ⟨by rfl, fun w => by go_simp⟩) hSb (fun hS => ?_)
  simp only [List.getElem_toArray, List.getElem_cons_zero, List.getElem_cons_succ, Act.put, List.setIfInBounds_toArray, List.set_cons_zero, List.set_cons_succ]
  clear hSb
  refine till_read (i := 10) (c := 11) (v := .slice x.a x.m x.c) (T := fun W => Oq W gb x.r x.n x.a x.m x.c) rfl rfl (by kernel_rfl) (by kernel_rfl) (by kernel_rfl) (by kernel_rfl) (by kernel_rfl) (fun _ _ _ h => h) (fun L w => Iff.rfl) (fun L w h1 h2 => h2) (Or.inl ⟨by rfl, fun w h => by have q1 := h.l; go_simp⟩) hS (fun hSb => ?_)
  simp only [List.getElem_toArray, List.getElem_cons_zero, List.getElem_cons_succ, Act.put, List.setIfInBounds_toArray, List.set_cons_zero, List.set_cons_succ]
  clear hS
  refine till_one (i := 4) (by kernel_rfl) rfl (fun K hK => ?_)
  simp only [List.getElem_toArray, List.getElem_cons_zero, List.getElem_cons_succ]
  rw [if_pos (by rfl)]
  go_simp
  go_wp2_with (go_at_call 16; refine (accept_n A1 E1 (by omega) x.r x.n CL CZ G1 CN).mono ?_; rintro e w2 ⟨rfl, H2⟩; rw [Hk.out])
  obtain ⟨a2, m2, c2, X2, hA2, hf2, hC2⟩ := H2.out
  rw [LY.out] at hA2
  have Q2 : Oq w2 gb x.r x.n x.a x.m x.c := hSb.blk (hC2.block gb (cell_lt hSb.r) (by have := GB.out; omega))
  have E2 : Hid (Sent w2 18 E) := E1.out.chg hC2 ⟨h18.1, fun k hk => (heb k hk).1⟩
  refine hK.out _ _ (Q2) (fun hS => ?_)
  clear hK K
  try simp only [List.getElem_toArray, List.getElem_cons_zero, List.getElem_cons_succ, Act.put, List.setIfInBounds_toArray, List.set_cons_zero, List.set_cons_succ]
  clear hSb
  refine till_one (i := 5) (by kernel_rfl) rfl (fun K hK => ?_)
  simp only [List.getElem_toArray, List.getElem_cons_zero, List.getElem_cons_succ]
  rw [if_pos (by rfl)]
  go_simp
  go_wp2_with (go_at_call 21; refine (num_v (E := E) k KV.out E2).mono ?_; rintro e w3 ⟨rfl, H3⟩)
  have Q3 : Oq w3 gb x.r x.n x.a x.m x.c := Q2.blk (H3.out.block gb (cell_lt Q2.r))
  have C13 : Ch w1 w3 (fun q => q = g) := hC2.trans (Ch.below H3.out)
  have M3 : Hid (Acc w3 37 G gm s a' m' c' X') := M1.out.ch C13 NGM.out (fun q h1 _ e => by have := hA.out.lt; omega)
  have L3 : Hid (Cms w3 0 x.a x.m x.X) := XL.out.keepF C13.size (fun q hq => C13.block q (XL.out.fp_lt hq).2 (hlo.out q hq).1)
  have G3 : Hid (G ≤ w3.heap.size) := Nat.le_trans G1.out C13.size
  refine hK.out _ _ (Q3) (fun hSb => ?_)
  clear hK K
  try simp only [List.getElem_toArray, List.getElem_cons_zero, List.getElem_cons_succ, Act.put, List.setIfInBounds_toArray, List.set_cons_zero, List.set_cons_succ]
  clear hS
  refine till_one (i := 11) (by kernel_rfl) rfl (fun K hK => ?_)
  simp only [List.getElem_toArray, List.getElem_cons_zero, List.getElem_cons_succ]
  rw [if_pos (by rfl)]
  go_simp
  go_wp2_with (go_at_call 28; refine (refacc_n M3 x.r x.n L3 XZ G3 LNM).mono ?_; rintro e w4 ⟨rfl, H4⟩; rw [Hk.out])
  obtain ⟨a4, m4, c4, X4, hA4, hf4, hC4⟩ := H4.out
  have Q4 : Oq w4 gb x.r x.n x.a x.m x.c := Q3.blk (hC4.block gb (cell_lt Q3.r) (by have := GB.out; omega))
  have C14 : Ch w1 w4 (fun q => q = g ∨ q = gm) := (C13.weak (fun q _ h => .inl h)).trans (hC4.weak (fun q _ h => .inr h))
  have CL4 : Hid (Cms w4 wo.heap.size la x.m Y) := CL.out.ch C14 (fun q h1 _ e => by have := GB.out; omega)
  have L4 : Hid (Cms w4 0 x.a x.m x.X) := XL.out.keepF C14.size (fun q hq => C14.block q (XL.out.fp_lt hq).2 (fun e => by have := hlo.out q hq; omega))
  refine hK.out _ _ (Q4) (fun hS => ?_)
  clear hK K
  try simp only [List.getElem_toArray, List.getElem_cons_zero, List.getElem_cons_succ, Act.put, List.setIfInBounds_toArray, List.set_cons_zero, List.set_cons_succ]
  clear hSb
  refine till_take (i := 12) (v := .bool true) rfl (by kernel_rfl) (by kernel_rfl) (by kernel_rfl) (fun _ _ _ h => h) (fun L w => Iff.rfl) (Or.inl ⟨by rfl, fun w => by go_simp⟩) hS (fun hSb => ?_)
  simp only [List.getElem_toArray, List.getElem_cons_zero, List.getElem_cons_succ, Act.put, List.setIfInBounds_toArray, List.set_cons_zero, List.set_cons_succ]
  clear hS
  refine till_take (i := 13) (v := .bool true) rfl (by kernel_rfl) (by kernel_rfl) (by kernel_rfl) (fun _ _ _ h => h) (fun L w => Iff.rfl) (Or.inl ⟨by rfl, fun w => by go_simp⟩) hSb (fun hS => ?_)
  simp only [List.getElem_toArray, List.getElem_cons_zero, List.getElem_cons_succ, Act.put, List.setIfInBounds_toArray, List.set_cons_zero, List.set_cons_succ]
  clear hSb
  refine till_take (i := 14) (v := .slice la x.m lc) rfl (by kernel_rfl) (by kernel_rfl) (by kernel_rfl) (fun _ _ _ h => h) (fun L w => Iff.rfl) (Or.inl ⟨by rfl, fun w => by go_simp⟩) hS (fun hSb => ?_)
  simp only [List.getElem_toArray, List.getElem_cons_zero, List.getElem_cons_succ, Act.put, List.setIfInBounds_toArray, List.set_cons_zero, List.set_cons_succ]
  clear hS
  refine till_take (i := 15) (v := .pointer (some ⟨gb, 4, none⟩)) rfl (by kernel_rfl) (by kernel_rfl) (by kernel_rfl) (fun _ _ _ h => h) (fun L w => Iff.rfl) (Or.inl ⟨by rfl, fun w => by go_simp⟩) hSb (fun hS => ?_)
  simp only [List.getElem_toArray, List.getElem_cons_zero, List.getElem_cons_succ, Act.put, List.setIfInBounds_toArray, List.set_cons_zero, List.set_cons_succ]
  clear hSb
  refine till_read (i := 16) (c := 17) (v := .slice x.a x.m x.c) (T := fun W => Oq W gb x.r x.n x.a x.m x.c) rfl rfl (by kernel_rfl) (by kernel_rfl) (by kernel_rfl) (by kernel_rfl) (by kernel_rfl) (fun _ _ _ h => h) (fun L w => Iff.rfl) (fun L w h1 h2 => h2) (Or.inl ⟨by rfl, fun w h => by have q1 := h.l; go_simp⟩) hS (fun hSb => ?_)
  simp only [List.getElem_toArray, List.getElem_cons_zero, List.getElem_cons_succ, Act.put, List.setIfInBounds_toArray, List.set_cons_zero, List.set_cons_succ]
  clear hS
  refine till_one (i := 17) (by kernel_rfl) rfl (fun K hK => ?_)
  simp only [List.getElem_toArray, List.getElem_cons_zero, List.getElem_cons_succ]
  rw [if_pos (by rfl)]
  go_simp
  go_wp2_with (go_at_call 22; refine (same_n CL4 L4).mono ?_; rintro e w5 ⟨rfl, H5⟩; rw [LE.out])
  have Q5 : Oq w5 gb x.r x.n x.a x.m x.c := hSb.blk (H5.out.block gb (cell_lt hSb.r))
  refine hK.out _ _ (Q5) (fun hS => ?_)
  clear hK K
  try simp only [List.getElem_toArray, List.getElem_cons_zero, List.getElem_cons_succ, Act.put, List.setIfInBounds_toArray, List.set_cons_zero, List.set_cons_succ]
  clear hSb
  refine till_take (i := 18) (v := .bool true) rfl (by kernel_rfl) (by kernel_rfl) (by kernel_rfl) (fun _ _ _ h => h) (fun L w => Iff.rfl) (Or.inl ⟨by rfl, fun w => by go_simp⟩) hS (fun hSb => ?_)
  simp only [List.getElem_toArray, List.getElem_cons_zero, List.getElem_cons_succ, Act.put, List.setIfInBounds_toArray, List.set_cons_zero, List.set_cons_succ]
  clear hS
  refine till_one (i := 19) (by kernel_rfl) rfl (fun K hK => ?_)
  simp only [List.getElem_toArray, List.getElem_cons_zero, List.getElem_cons_succ]
  rw [if_pos (by rfl)]
  go_simp
  refine hK.out _ _ (hSb) (fun hS => ?_)
  clear hK K
  try simp only [List.getElem_toArray, List.getElem_cons_zero, List.getElem_cons_succ, Act.put, List.setIfInBounds_toArray, List.set_cons_zero, List.set_cons_succ]
  clear hSb
  refine till_done (by kernel_rfl) ?_ _
  clear hS
  have B5 : Below w4.heap.size w4 w5 := H5.out
  have A5 : Hid (Acc w5 84 G g (acS s x.r x.n (led x.X)) a2 m2 c2 X2) := ((hA2.below H3.out).ch hC4 (fun e => NGM.out e.symm) (fun j h1 _ e => by have := hB.out.lt; omega)).below B5
  have M5 : Hid (Acc w5 37 G gm (acS s x.r x.n (led x.X)) a4 m4 c4 X4) := hA4.below B5
  have O5 : Hid (Oc w5 wo.heap.size la x.m lc Y) := (O1.out.ch C14 (fun j h1 _ e => by have := GB.out; omega)).below B5
  have C5 : Hid (Ch w w5 (fun j => j = g ∨ j = gm)) := ((Ch.below BW1.out).trans C14).trans (Ch.below B5)
  have F2 : Hid (∀ q, fpc a2 m2 X2 q → ¬ fp la Y q) := fun q hq h => by
    have h1 := OB.out q h
    rcases hf2 q hq with h2 | h2
    · have h3 := (Ao.out.cms.fp_lt h2).2; omega
    · omega
  have s13 := C13.size
  have F4 : Hid (∀ q, fpc a4 m4 X4 q → ¬ fp la Y q) := fun q hq h => by
    have h1 := OB.out q h
    rcases hf4 q hq with h2 | h2
    · have h3 := (Mo.out.cms.fp_lt h2).2; omega
    · omega
  clear hA2 hf2 hC2 hA4 hf4 hC4 H2 H4 C13 C14 B5 s13 Q2 Q3 Q4 Q5
  go_wp2_with (go_at_call 26; refine (spoil_n O5).mono ?_; rintro e w6 ⟨rfl, H6⟩)
  go_ret
  refine ⟨rfl, acS s x.r x.n (led x.X), a2, m2, c2, X2, a4, m4, c4, X4, spoil_acc A5.out H6.out (fun h => by have := OB.out g h; have := GB.out; omega) F2.out, spoil_acc M5.out H6.out (fun h => by have := OB.out gm h; have := GB.out; omega) F4.out, (okk_ac hOk.out x.r x.n (led x.X)).1, C5.out.then H6.out (fun j _ h => h) (fun j hj h => by have := OB.out j h; have := Bo.out.size; omega)⟩
set_option maxHeartbeats 4000000 in
theorem play_claim {E : Nat → Addr} {w : World} {G g gm : Nat} {s : As} {a : Option Addr} {m c : Nat} {X : List Cx} {a' : Option Addr} {m' c' : Nat} {X' : List Cx} (hA : Hid (Acc w 84 G g s a m c X)) (hB : Hid (Acc w 37 G gm s a' m' c' X')) (hE : Hid (Sent w 18 E)) (hG : Hid (G ≤ w.heap.size)) (NGM : Hid (gm ≠ g)) (hOk : Hid (Okk s)) (g18 : Hid (18 ≤ g ∧ 18 ≤ gm)) (EB : Hid (∀ k, k < 18 → (E k).block ≠ g ∧ (E k).block ≠ gm)) (x : Opt) (hL : Hid (Cms w 0 x.a x.m x.X)) (XZ : Hid (x.a = none → x.c = 0)) (hlo : Hid (∀ q, fpc x.a x.m x.X q → q ≠ g ∧ q ≠ gm)) (hk1 : x.kind = 3) :
    Calls Tryd.prog 10 #[.pointer (some ⟨g, 0, none⟩), .pointer (some ⟨gm, 0, none⟩), opv x] w fun e w' => e = .returned (.bool true) ∧ Hid (PairP w w' G g gm) := by
  obtain ⟨gb, Hgb⟩ : ∃ gb, Hid (w.heap.size = gb) := ⟨_, rfl⟩
  obtain ⟨wo, Hwo⟩ : ∃ wo, Hid (w.alloc (.cells #[.int .i64 x.kind, .int .i64 x.which, .int .i64 x.r, .int .i64 x.n, .slice x.a x.m x.c] 39) = wo) := ⟨_, rfl⟩
  have Bo : Hid (Below w.heap.size w wo) := by rw [← Hwo.out]; exact alloc1 w _
  have ko : wo.heap[gb]? = some (.cells #[.int .i64 x.kind, .int .i64 x.which, .int .i64 x.r, .int .i64 x.n, .slice x.a x.m x.c] 39 (0, 0)) := by rw [← Hwo.out, ← Hgb.out]; exact heap_alloc_new w _
  have o0 : wo.cell? ⟨gb, 0, none⟩ = some (.int .i64 x.kind) := by simp [World.cell?, ko]
  have QO : Hid (Oq wo gb x.r x.n x.a x.m x.c) := ⟨by simp [World.cell?, ko], by simp [World.cell?, ko], by simp [World.cell?, ko]⟩
  have Ao : Hid (Acc wo 84 G g s a m c X) := hA.out.below Bo.out
  have Mo : Hid (Acc wo 37 G gm s a' m' c' X') := hB.out.below Bo.out
  have Eo : Hid (Sent wo 18 E) := hE.out.below Bo.out
  have GB : Hid (g < gb ∧ gm < gb ∧ G ≤ gb ∧ gb < wo.heap.size) := by
    have h1 := hA.out.glt; have h2 := hB.out.glt; have h3 := Hgb.out; have h4 := hG.out; have h5 := (Array.getElem?_eq_some_iff.1 ko).1
    show _ ∧ _ ∧ _ ∧ _
    omega
  rw [hk1] at o0
  clear hk1
  obtain ⟨k, Hk⟩ : ∃ k, Hid (clk s x.r = k) := ⟨_, rfl⟩
  have KV : Hid (k = 0 ∨ k = 2 ∨ k = 12 ∨ k = 10) := by
    rw [← Hk.out]
    unfold clk
    split
    · exact .inr (.inr (.inr rfl))
    · exact .inl rfl
  obtain ⟨p, q, Hpq⟩ : ∃ p q, Hid (clB s x.r = (p, q)) := ⟨_, _, rfl⟩
  obtain ⟨ev, Hev⟩ : ∃ ev, Hid (errv E k = ev) := ⟨_, rfl⟩
  have x2 := QO.out.r
  have x3 := QO.out.n
  go_enter Tryd.func10, Tryd.ntmps10
  go_upto_region 1 with (fail)
  rw [Hwo.out, Hgb.out]
  go_upto_region 15 with (go_at_call 17; refine (claim_n Ao Eo (by omega) x.r x.n hOk.out.p0).mono ?_; rintro e w1 ⟨rfl, HP1⟩; rw [Hk.out, Hpq.out, Hev.out])
  obtain ⟨HA1, HC1⟩ := HP1.out
  obtain ⟨w1', Hw1⟩ : ∃ w1', Hid (w1.alloc (.cells #[.int .i64 p, .int .i64 q] 34) = w1') := ⟨_, rfl⟩
  obtain ⟨g7, Hg7⟩ : ∃ g7, Hid (w1.heap.size = g7) := ⟨_, rfl⟩
  have B1 : Below w1.heap.size w1 w1' := by rw [← Hw1.out]; exact alloc1 _ _
  have C1 : Ch wo w1' (fun j => j = g) := HC1.trans (Ch.below B1)
  have A1 : Hid (Acc w1' 84 G g (clS s x.r) a m c X) := HA1.below B1
  have M1 : Hid (Acc w1' 37 G gm s a' m' c' X') := Mo.out.ch C1 NGM.out (fun j h1 _ e => by have := hA.out.lt; omega)
  have k7 : Hid (w1'.heap[g7]? = some (.cells #[.int .i64 p, .int .i64 q] 34 (0, 0))) := by show _ = _; rw [← Hw1.out, ← Hg7.out]; exact heap_alloc_new _ _
  have HC1' : Hid (Ch wo w1' (fun j => j = g)) := C1
  have l7 : Hid (wo.heap.size ≤ g7) := by have := HC1.size; have := Hg7.out; show _ ≤ _; omega
  have E1 : Hid (Sent w1' 18 E) := Eo.out.chg C1 ⟨g18.out.1, fun k hk => (EB.out k hk).1⟩
  have x2 : w1'.cell? ⟨gb, 2, none⟩ = some (.int .i64 x.r) := (C1.cell (p := ⟨gb, 2, none⟩) (cell_lt x2) (by have := GB.out; show ¬ (gb = g); omega)).trans x2
  have x3 : w1'.cell? ⟨gb, 3, none⟩ = some (.int .i64 x.n) := (C1.cell (p := ⟨gb, 3, none⟩) (cell_lt x3) (by have := GB.out; show ¬ (gb = g); omega)).trans x3
  rw [Hw1.out, Hg7.out]
  clear HP1 HA1 HC1 B1 C1 Hw1 Hg7
  go_upto_region 16 with (go_at_call 29; refine (refclaim_n M1 hOk x.r x.n).mono ?_; rintro e w2 ⟨rfl, HP2⟩; rw [Hk.out, Hpq.out])
  obtain ⟨HM2, HC2⟩ := HP2.out
  obtain ⟨w2', Hw2⟩ : ∃ w2', Hid (w2.alloc (.cells #[.int .i64 p, .int .i64 q] 34) = w2') := ⟨_, rfl⟩
  obtain ⟨g10, Hg10⟩ : ∃ g10, Hid (w2.heap.size = g10) := ⟨_, rfl⟩
  have B2 : Below w2.heap.size w2 w2' := by rw [← Hw2.out]; exact alloc1 _ _
  have C2 : Ch w1' w2' (fun j => j = gm) := HC2.trans (Ch.below B2)
  have hgb := GB.out
  have hl7 := l7.out
  have x70 : w2'.heap[g7]? = some (.cells #[.int .i64 p, .int .i64 q] 34 (0, 0)) := (C2.block g7 (Array.getElem?_eq_some_iff.1 k7.out).1 (by omega)).trans k7.out
  have x10 : w2'.heap[g10]? = some (.cells #[.int .i64 p, .int .i64 q] 34 (0, 0)) := by rw [← Hw2.out, ← Hg10.out]; exact heap_alloc_new _ _
  have A2 : Hid (Acc w2' 84 G g (clS s x.r) a m c X) := A1.out.ch C2 (fun e => NGM.out e.symm) (fun j h1 _ e => by have := hB.out.lt; omega)
  have M2 : Hid (Acc w2' 37 G gm (clS s x.r) a' m' c' X') := HM2.below B2
  have E2 : Hid (Sent w2' 18 E) := E1.out.chg C2 ⟨g18.out.2, fun k hk => (EB.out k hk).2⟩
  have C02 : Hid (Ch w w2' (fun j => j = g ∨ j = gm)) := ((Ch.below Bo.out).trans (HC1'.out.weak (fun j _ h => .inl h))).trans (C2.weak (fun j _ h => .inr h))
  have y0 : w2'.cell? ⟨g7, 0, none⟩ = some (.int .i64 p) := by simp [World.cell?, x70]
  have y1 : w2'.cell? ⟨g7, 1, none⟩ = some (.int .i64 q) := by simp [World.cell?, x70]
  have z0 : w2'.cell? ⟨g10, 0, none⟩ = some (.int .i64 p) := by simp [World.cell?, x10]
  have z1 : w2'.cell? ⟨g10, 1, none⟩ = some (.int .i64 q) := by simp [World.cell?, x10]
  have EQB : ∀ w, (Op.equalIn 10000 34 (bal p q) (bal p q)).run Tryd.prog w = .ok true w := fun w => by rw [eqBal, decide_eq_true ⟨rfl, rfl⟩]
  rw [Hw2.out, Hg10.out]
  clear HP2 HM2 HC2 B2 C2 hgb hl7 x70 x10 Hw2 x2 x3 o0
  go_wp2_with (go_at_call 21; rw [← Hev.out]; refine (num_v (E := E) k KV.out E2).mono ?_; rintro e w4 ⟨rfl, H4⟩)
  go_ret
  exact ⟨rfl, clS s x.r, a, m, c, X, a', m', c', X', A2.out.below H4.out, M2.out.below H4.out, (okk_cl hOk.out x.r).1, C02.out.trans (Ch.below H4.out)⟩
structure Mq (W : World) (gm g20 : Nat) (s : As) (a' : Option Addr) (m' c' : Nat) : Prop where
  k : W.heap[gm]? = some (.cells (accA s a' m' c') 37 (0, 0))
  y : W.heap[g20]? = some (.cells #[.int .i64 s.aR, .int .i64 s.aN] 34 (0, 0))
section
variable {W W' : World} {gm g20 : Nat} {s : As} {a' : Option Addr} {m' c' : Nat}
theorem Mq.c1 (h : Mq W gm g20 s a' m' c') : W.cell? ⟨gm, 1, none⟩ = some (.int .i64 s.pR) := by simp [World.cell?, h.k]
theorem Mq.c2 (h : Mq W gm g20 s a' m' c') : W.cell? ⟨gm, 2, none⟩ = some (.int .i64 s.pN) := by simp [World.cell?, h.k]
theorem Mq.c3 (h : Mq W gm g20 s a' m' c') : W.cell? ⟨gm, 3, none⟩ = some (.int .i64 s.aR) := by simp [World.cell?, h.k]
theorem Mq.c4 (h : Mq W gm g20 s a' m' c') : W.cell? ⟨gm, 4, none⟩ = some (.int .i64 s.aN) := by simp [World.cell?, h.k]
theorem Mq.c5 (h : Mq W gm g20 s a' m' c') : W.cell? ⟨gm, 5, none⟩ = some (.slice a' m' c') := by simp [World.cell?, h.k]
theorem Mq.x0 (h : Mq W gm g20 s a' m' c') : W.cell? ⟨g20, 0, none⟩ = some (.int .i64 s.aR) := by simp [World.cell?, h.y]
theorem Mq.x1 (h : Mq W gm g20 s a' m' c') : W.cell? ⟨g20, 1, none⟩ = some (.int .i64 s.aN) := by simp [World.cell?, h.y]
theorem Mq.below (h : Mq W gm g20 s a' m' c') (hb : Below W.heap.size W W') : Mq W' gm g20 s a' m' c' := ⟨(hb.block _ (Array.getElem?_eq_some_iff.1 h.k).1).trans h.k, (hb.block _ (Array.getElem?_eq_some_iff.1 h.y).1).trans h.y⟩
end
set_option maxHeartbeats 4000000 in
theorem play_ask {E : Nat → Addr} {w : World} {G g gm : Nat} {s : As} {a : Option Addr} {m c : Nat} {X : List Cx} {a' : Option Addr} {m' c' : Nat} {X' : List Cx} (hA : Hid (Acc w 84 G g s a m c X)) (hB : Hid (Acc w 37 G gm s a' m' c' X')) (hE : Hid (Sent w 18 E)) (hG : Hid (G ≤ w.heap.size)) (NGM : Hid (gm ≠ g)) (hOk : Hid (Okk s)) (g18 : Hid (18 ≤ g ∧ 18 ≤ gm)) (EB : Hid (∀ k, k < 18 → (E k).block ≠ g ∧ (E k).block ≠ gm)) (x : Opt) (hL : Hid (Cms w 0 x.a x.m x.X)) (XZ : Hid (x.a = none → x.c = 0)) (hlo : Hid (∀ q, fpc x.a x.m x.X q → q ≠ g ∧ q ≠ gm)) (hk1 : x.kind ≠ 1) (hk2 : x.kind ≠ 2) (hk3 : x.kind ≠ 3) :
    Calls Tryd.prog 10 #[.pointer (some ⟨g, 0, none⟩), .pointer (some ⟨gm, 0, none⟩), opv x] w fun e w' => e = .returned (.bool true) ∧ Hid (PairP w w' G g gm) := by
  obtain ⟨gb, Hgb⟩ : ∃ gb, Hid (w.heap.size = gb) := ⟨_, rfl⟩
  obtain ⟨wo, Hwo⟩ : ∃ wo, Hid (w.alloc (.cells #[.int .i64 x.kind, .int .i64 x.which, .int .i64 x.r, .int .i64 x.n, .slice x.a x.m x.c] 39) = wo) := ⟨_, rfl⟩
  have Bo : Hid (Below w.heap.size w wo) := by rw [← Hwo.out]; exact alloc1 w _
  have ko : wo.heap[gb]? = some (.cells #[.int .i64 x.kind, .int .i64 x.which, .int .i64 x.r, .int .i64 x.n, .slice x.a x.m x.c] 39 (0, 0)) := by rw [← Hwo.out, ← Hgb.out]; exact heap_alloc_new w _
  have o0 : wo.cell? ⟨gb, 0, none⟩ = some (.int .i64 x.kind) := by simp [World.cell?, ko]
  have QO : Hid (Oq wo gb x.r x.n x.a x.m x.c) := ⟨by simp [World.cell?, ko], by simp [World.cell?, ko], by simp [World.cell?, ko]⟩
  have Ao : Hid (Acc wo 84 G g s a m c X) := hA.out.below Bo.out
  have Mo : Hid (Acc wo 37 G gm s a' m' c' X') := hB.out.below Bo.out
  have Eo : Hid (Sent wo 18 E) := hE.out.below Bo.out
  have GB : Hid (g < gb ∧ gm < gb ∧ G ≤ gb ∧ gb < wo.heap.size) := by
    have h1 := hA.out.glt; have h2 := hB.out.glt; have h3 := Hgb.out; have h4 := hG.out; have h5 := (Array.getElem?_eq_some_iff.1 ko).1
    show _ ∧ _ ∧ _ ∧ _
    omega
  go_enter Tryd.func10, Tryd.ntmps10
  go_upto_region 1 with (fail)
  rw [Hwo.out, Hgb.out]
  go_upto_region 18 with (go_at_call 18; refine (accepted_n Ao).mono ?_; rintro e w1 ⟨ya, yc, rfl, HP⟩)
  obtain ⟨Y, hY1, hY2, hY3⟩ := HP.out
  obtain ⟨g20, Hg20⟩ : ∃ g20, Hid (w1.heap.size = g20) := ⟨_, rfl⟩
  obtain ⟨w2, Hw2⟩ : ∃ w2, Hid ((w1.alloc (.cells #[.int .i64 s.aR, .int .i64 s.aN] 34)).drew = w2) := ⟨_, rfl⟩
  have B12 : Below w1.heap.size w1 w2 := by rw [← Hw2.out]; exact (alloc1 _ _).drew
  have B2 : Hid (Below wo.heap.size wo w2) := hY3.trans (B12.mono hY3.size)
  have A2 : Hid (Acc w2 84 G g s a m c X) := Ao.out.below B2.out
  have M2 : Hid (Acc w2 37 G gm s a' m' c' X') := Mo.out.below B2.out
  have O2 : Hid (Oc w2 wo.heap.size ya m yc Y) := hY2.below B12
  have CY : Hid (Cms w2 wo.heap.size ya m Y) := O2.out.cms
  have CM : Hid (Cms w2 G a' m' X') := M2.out.cms
  have LE : Hid (decide (led Y = led X') = true) := decide_eq_true (by rw [hY1, M2.out.e])
  have Q2 : Mq w2 gm g20 s a' m' c' := ⟨M2.out.blk, by rw [← Hw2.out, ← Hg20.out]; exact heap_alloc_new w1 _⟩
  have EQA : ∀ w, (Op.equalIn 10000 34 (bal s.aR s.aN) (bal s.aR s.aN)).run Tryd.prog w = .ok true w := fun w => by rw [eqBal, decide_eq_true ⟨rfl, rfl⟩]
  have EQP : ∀ w, (Op.equalIn 10000 34 (bal s.pR s.pN) (bal s.pR s.pN)).run Tryd.prog w = .ok true w := fun w => by rw [eqBal, decide_eq_true ⟨rfl, rfl⟩]
  have OB : Hid (∀ j, fp ya Y j → wo.heap.size ≤ j) := fun j hj => (O2.out.fp_lt hj).1
  refine wp_region_till (S := fun L W => Mq W gm g20 s a' m' c') (by kernel_rfl) (by rw [Hw2.out]; exact Q2) (fun hS => ?_)
  rw [Hw2.out] at hS ⊢
  rw [Hg20.out]
  clear HP hY1 hY2 hY3 B12 Q2 o0
  refine till_read (i := 0) (c := 5) (v := bal s.aR s.aN) (T := fun W => Mq W gm g20 s a' m' c') rfl rfl (by kernel_rfl) (by kernel_rfl) (by kernel_rfl) (by kernel_rfl) (by kernel_rfl) (fun _ _ _ h => h) (fun L w => Iff.rfl) (fun L w h1 h2 => h2) (Or.inl ⟨by rfl, fun w h => by have q1 := h.x0; have q2 := h.x1; go_simp⟩) hS (fun hSb => ?_)
  simp only [List.getElem_toArray, List.getElem_cons_zero, List.getElem_cons_succ, Act.put, List.setIfInBounds_toArray, List.set_cons_zero, List.set_cons_succ]
  clear hS
  refine till_take (i := 1) (v := .pointer (some ⟨gm, 0, none⟩)) rfl (by kernel_rfl) (by kernel_rfl) (by kernel_rfl) (fun _ _ _ h => h) (fun L w => Iff.rfl) (Or.inl ⟨by rfl, fun w => by go_simp⟩) hSb (fun hS => ?_)
  simp only [List.getElem_toArray, List.getElem_cons_zero, List.getElem_cons_succ, Act.put, List.setIfInBounds_toArray, List.set_cons_zero, List.set_cons_succ]
  clear hSb
  refine till_take (i := 2) (v := .pointer (some ⟨gm, 0, none⟩)) rfl (by kernel_rfl) (by kernel_rfl) (by kernel_rfl) (fun _ _ _ h => h) (fun L w => Iff.rfl) (Or.inl ⟨by rfl, fun w => by go_simp⟩) hS (fun hSb => ?_)
  simp only [List.getElem_toArray, List.getElem_cons_zero, List.getElem_cons_succ, Act.put, List.setIfInBounds_toArray, List.set_cons_zero, List.set_cons_succ]
  clear hS
  refine till_take (i := 3) (v := .pointer (some ⟨gm, 3, none⟩)) rfl (by kernel_rfl) (by kernel_rfl) (by kernel_rfl) (fun _ _ _ h => h) (fun L w => Iff.rfl) (Or.inl ⟨by rfl, fun w => by go_simp⟩) hSb (fun hS => ?_)
  simp only [List.getElem_toArray, List.getElem_cons_zero, List.getElem_cons_succ, Act.put, List.setIfInBounds_toArray, List.set_cons_zero, List.set_cons_succ]
  clear hSb
  refine till_read (i := 4) (c := 5) (v := bal s.aR s.aN) (T := fun W => Mq W gm g20 s a' m' c') rfl rfl (by kernel_rfl) (by kernel_rfl) (by kernel_rfl) (by kernel_rfl) (by kernel_rfl) (fun _ _ _ h => h) (fun L w => Iff.rfl) (fun L w h1 h2 => h2) (Or.inl ⟨by rfl, fun w h => by have q1 := h.c3; have q2 := h.c4; go_simp⟩) hS (fun hSb => ?_)
  simp only [List.getElem_toArray, List.getElem_cons_zero, List.getElem_cons_succ, Act.put, List.setIfInBounds_toArray, List.set_cons_zero, List.set_cons_succ]
  clear hS
  refine till_take (i := 5) (v := .bool true) rfl (by kernel_rfl) (by kernel_rfl) (by kernel_rfl) (fun _ _ _ h => h) (fun L w => Iff.rfl) (Or.inl ⟨by rfl, fun w => by go_simp⟩) hSb (fun hS => ?_)
  simp only [List.getElem_toArray, List.getElem_cons_zero, List.getElem_cons_succ, Act.put, List.setIfInBounds_toArray, List.set_cons_zero, List.set_cons_succ]
  clear hSb
  refine till_take (i := 6) (v := .bool true) rfl (by kernel_rfl) (by kernel_rfl) (by kernel_rfl) (fun _ _ _ h => h) (fun L w => Iff.rfl) (Or.inl ⟨by rfl, fun w => by go_simp⟩) hS (fun hSb => ?_)
  simp only [List.getElem_toArray, List.getElem_cons_zero, List.getElem_cons_succ, Act.put, List.setIfInBounds_toArray, List.set_cons_zero, List.set_cons_succ]
  clear hS
  refine till_take (i := 7) (v := .slice ya m yc) rfl (by kernel_rfl) (by kernel_rfl) (by kernel_rfl) (fun _ _ _ h => h) (fun L w => Iff.rfl) (Or.inl ⟨by rfl, fun w => by go_simp⟩) hSb (fun hS => ?_)
  simp only [List.getElem_toArray, List.getElem_cons_zero, List.getElem_cons_succ, Act.put, List.setIfInBounds_toArray, List.set_cons_zero, List.set_cons_succ]
  clear hSb
  refine till_take (i := 8) (v := .pointer (some ⟨gm, 0, none⟩)) rfl (by kernel_rfl) (by kernel_rfl) (by kernel_rfl) (fun _ _ _ h => h) (fun L w => Iff.rfl) (Or.inl ⟨by rfl, fun w => by go_simp⟩) hS (fun hSb => ?_)
  simp only [List.getElem_toArray, List.getElem_cons_zero, List.getElem_cons_succ, Act.put, List.setIfInBounds_toArray, List.set_cons_zero, List.set_cons_succ]
  clear hS
  refine till_take (i := 9) (v := .pointer (some ⟨gm, 0, none⟩)) rfl (by kernel_rfl) (by kernel_rfl) (by kernel_rfl) (fun _ _ _ h => h) (fun L w => Iff.rfl) (Or.inl ⟨by rfl, fun w => by go_simp⟩) hSb (fun hS => ?_)
  simp only [List.getElem_toArray, List.getElem_cons_zero, List.getElem_cons_succ, Act.put, List.setIfInBounds_toArray, List.set_cons_zero, List.set_cons_succ]
  clear hSb
  refine till_take (i := 10) (v := .pointer (some ⟨gm, 5, none⟩)) rfl (by kernel_rfl) (by kernel_rfl) (by kernel_rfl) (fun _ _ _ h => h) (fun L w => Iff.rfl) (Or.inl ⟨by rfl, fun w => by go_simp⟩) hS (fun hSb => ?_)
  simp only [List.getElem_toArray, List.getElem_cons_zero, List.getElem_cons_succ, Act.put, List.setIfInBounds_toArray, List.set_cons_zero, List.set_cons_succ]
  clear hS
  refine till_read (i := 11) (c := 12) (v := (.slice a' m' c')) (T := fun W => Mq W gm g20 s a' m' c') rfl rfl (by kernel_rfl) (by kernel_rfl) (by kernel_rfl) (by kernel_rfl) (by kernel_rfl) (fun _ _ _ h => h) (fun L w => Iff.rfl) (fun L w h1 h2 => h2) (Or.inl ⟨by rfl, fun w h => by have q1 := h.c5; go_simp⟩) hSb (fun hS => ?_)
  simp only [List.getElem_toArray, List.getElem_cons_zero, List.getElem_cons_succ, Act.put, List.setIfInBounds_toArray, List.set_cons_zero, List.set_cons_succ]
  clear hSb
  refine till_one (i := 12) (by kernel_rfl) rfl (fun K hK => ?_)
  simp only [List.getElem_toArray, List.getElem_cons_zero, List.getElem_cons_succ]
  rw [if_pos (by rfl)]
  go_simp
  go_wp2_with (go_at_call 22; refine (same_n CY CM).mono ?_; rintro e w3 ⟨rfl, H3⟩; rw [LE.out])
  have Q3 : Mq w3 gm g20 s a' m' c' := hS.below H3.out
  refine hK.out _ _ (Q3) (fun hSb => ?_)
  clear hK K
  try simp only [List.getElem_toArray, List.getElem_cons_zero, List.getElem_cons_succ, Act.put, List.setIfInBounds_toArray, List.set_cons_zero, List.set_cons_succ]
  clear hS
  refine till_take (i := 13) (v := .bool true) rfl (by kernel_rfl) (by kernel_rfl) (by kernel_rfl) (fun _ _ _ h => h) (fun L w => Iff.rfl) (Or.inl ⟨by rfl, fun w => by go_simp⟩) hSb (fun hS => ?_)
  simp only [List.getElem_toArray, List.getElem_cons_zero, List.getElem_cons_succ, Act.put, List.setIfInBounds_toArray, List.set_cons_zero, List.set_cons_succ]
  clear hSb
  refine till_take (i := 14) (v := .bool true) rfl (by kernel_rfl) (by kernel_rfl) (by kernel_rfl) (fun _ _ _ h => h) (fun L w => Iff.rfl) (Or.inl ⟨by rfl, fun w => by go_simp⟩) hS (fun hSb => ?_)
  simp only [List.getElem_toArray, List.getElem_cons_zero, List.getElem_cons_succ, Act.put, List.setIfInBounds_toArray, List.set_cons_zero, List.set_cons_succ]
  clear hS
  refine till_take (i := 15) (v := .pointer (some ⟨g, 0, none⟩)) rfl (by kernel_rfl) (by kernel_rfl) (by kernel_rfl) (fun _ _ _ h => h) (fun L w => Iff.rfl) (Or.inl ⟨by rfl, fun w => by go_simp⟩) hSb (fun hS => ?_)
  simp only [List.getElem_toArray, List.getElem_cons_zero, List.getElem_cons_succ, Act.put, List.setIfInBounds_toArray, List.set_cons_zero, List.set_cons_succ]
  clear hSb
  refine till_take (i := 17) (v := .pointer (some ⟨gm, 0, none⟩)) rfl (by kernel_rfl) (by kernel_rfl) (by kernel_rfl) (fun _ _ _ h => h) (fun L w => Iff.rfl) (Or.inl ⟨by rfl, fun w => by go_simp⟩) hS (fun hSb => ?_)
  simp only [List.getElem_toArray, List.getElem_cons_zero, List.getElem_cons_succ, Act.put, List.setIfInBounds_toArray, List.set_cons_zero, List.set_cons_succ]
  clear hS
  refine till_take (i := 18) (v := .pointer (some ⟨gm, 0, none⟩)) rfl (by kernel_rfl) (by kernel_rfl) (by kernel_rfl) (fun _ _ _ h => h) (fun L w => Iff.rfl) (Or.inl ⟨by rfl, fun w => by go_simp⟩) hSb (fun hS => ?_)
  simp only [List.getElem_toArray, List.getElem_cons_zero, List.getElem_cons_succ, Act.put, List.setIfInBounds_toArray, List.set_cons_zero, List.set_cons_succ]
  clear hSb
  refine till_take (i := 19) (v := .pointer (some ⟨gm, 1, none⟩)) rfl (by kernel_rfl) (by kernel_rfl) (by kernel_rfl) (fun _ _ _ h => h) (fun L w => Iff.rfl) (Or.inl ⟨by rfl, fun w => by go_simp⟩) hS (fun hSb => ?_)
  simp only [List.getElem_toArray, List.getElem_cons_zero, List.getElem_cons_succ, Act.put, List.setIfInBounds_toArray, List.set_cons_zero, List.set_cons_succ]
  clear hS
  refine till_read (i := 20) (c := 21) (v := bal s.pR s.pN) (T := fun W => Mq W gm g20 s a' m' c') rfl rfl (by kernel_rfl) (by kernel_rfl) (by kernel_rfl) (by kernel_rfl) (by kernel_rfl) (fun _ _ _ h => h) (fun L w => Iff.rfl) (fun L w h1 h2 => h2) (Or.inl ⟨by rfl, fun w h => by have q1 := h.c1; have q2 := h.c2; go_simp⟩) hSb (fun hS => ?_)
  simp only [List.getElem_toArray, List.getElem_cons_zero, List.getElem_cons_succ, Act.put, List.setIfInBounds_toArray, List.set_cons_zero, List.set_cons_succ]
  clear hSb
  refine till_one (i := 16) (by kernel_rfl) rfl (fun K hK => ?_)
  simp only [List.getElem_toArray, List.getElem_cons_zero, List.getElem_cons_succ]
  rw [if_pos (by rfl)]
  go_simp
  go_wp2_with (go_at_call 14; refine (promised_n (show Hid _ from A2.out.below H3.out)).mono ?_; rintro e w4 ⟨rfl, H4⟩)
  have Q4 : Mq w4 gm g20 s a' m' c' := Q3.below H4.out
  refine hK.out _ _ (Q4) (fun hSb => ?_)
  clear hK K
  try simp only [List.getElem_toArray, List.getElem_cons_zero, List.getElem_cons_succ, Act.put, List.setIfInBounds_toArray, List.set_cons_zero, List.set_cons_succ]
  clear hS
  refine till_take (i := 21) (v := .bool true) rfl (by kernel_rfl) (by kernel_rfl) (by kernel_rfl) (fun _ _ _ h => h) (fun L w => Iff.rfl) (Or.inl ⟨by rfl, fun w => by go_simp⟩) hSb (fun hS => ?_)
  simp only [List.getElem_toArray, List.getElem_cons_zero, List.getElem_cons_succ, Act.put, List.setIfInBounds_toArray, List.set_cons_zero, List.set_cons_succ]
  clear hSb
  refine till_take (i := 22) (v := .bool true) rfl (by kernel_rfl) (by kernel_rfl) (by kernel_rfl) (fun _ _ _ h => h) (fun L w => Iff.rfl) (Or.inl ⟨by rfl, fun w => by go_simp⟩) hS (fun hSb => ?_)
  simp only [List.getElem_toArray, List.getElem_cons_zero, List.getElem_cons_succ, Act.put, List.setIfInBounds_toArray, List.set_cons_zero, List.set_cons_succ]
  clear hS
  refine till_one (i := 23) (by kernel_rfl) rfl (fun K hK => ?_)
  simp only [List.getElem_toArray, List.getElem_cons_zero, List.getElem_cons_succ]
  rw [if_pos (by rfl)]
  go_simp
  refine hK.out _ _ (hSb) (fun hS => ?_)
  clear hK K
  try simp only [List.getElem_toArray, List.getElem_cons_zero, List.getElem_cons_succ, Act.put, List.setIfInBounds_toArray, List.set_cons_zero, List.set_cons_succ]
  clear hSb
  refine till_done (by kernel_rfl) ?_ _
  clear hS
  have B4 : Below w2.heap.size w2 w4 := H3.out.trans (H4.out.mono H3.out.size)
  have O4 : Hid (Oc w4 wo.heap.size ya m yc Y) := O2.out.below B4
  have A4 : Hid (Acc w4 84 G g s a m c X) := A2.out.below B4
  have M4 : Hid (Acc w4 37 G gm s a' m' c' X') := M2.out.below B4
  have C4 : Hid (Ch w w4 (fun j => j = g ∨ j = gm)) := Ch.below (Bo.out.trans ((B2.out.trans (B4.mono B2.out.size)).mono Bo.out.size))
  clear B4 Q3 Q4
  go_wp2_with (go_at_call 26; refine (spoil_n O4).mono ?_; rintro e w5 ⟨rfl, H5⟩)
  go_ret
  refine ⟨rfl, s, a, m, c, X, a', m', c', X', spoil_acc A4.out H5.out (fun h => by have := OB.out g h; have := GB.out; omega) (fun j hj h => by have h1 := (Ao.out.cms.fp_lt hj).2; have := OB.out j h; omega), spoil_acc M4.out H5.out (fun h => by have := OB.out gm h; have := GB.out; omega) (fun j hj h => by have h1 := (Mo.out.cms.fp_lt hj).2; have := OB.out j h; omega), hOk.out, C4.out.then H5.out (fun j _ h => h) (fun j hj h => by have := OB.out j h; have := Bo.out.size; omega)⟩
theorem play_n {E : Nat → Addr} {w : World} {G g gm : Nat} {s : As} {a : Option Addr} {m c : Nat} {X : List Cx} {a' : Option Addr} {m' c' : Nat} {X' : List Cx} (hA : Hid (Acc w 84 G g s a m c X)) (hB : Hid (Acc w 37 G gm s a' m' c' X')) (hE : Hid (Sent w 18 E)) (hG : Hid (G ≤ w.heap.size)) (NGM : Hid (gm ≠ g)) (hOk : Hid (Okk s)) (g18 : Hid (18 ≤ g ∧ 18 ≤ gm)) (EB : Hid (∀ k, k < 18 → (E k).block ≠ g ∧ (E k).block ≠ gm)) (x : Opt) (hL : Hid (Cms w 0 x.a x.m x.X)) (XZ : Hid (x.a = none → x.c = 0)) (hlo : Hid (∀ q, fpc x.a x.m x.X q → q ≠ g ∧ q ≠ gm)) : Calls Tryd.prog 10 #[.pointer (some ⟨g, 0, none⟩), .pointer (some ⟨gm, 0, none⟩), opv x] w fun e w' => e = .returned (.bool true) ∧ Hid (PairP w w' G g gm) := by
  by_cases h1 : x.kind = 1
  · exact play_prep hA hB hE hG NGM hOk g18 EB x hL XZ hlo h1
  · by_cases h2 : x.kind = 2
    · exact play_acc hA hB hE hG NGM hOk g18 EB x hL XZ hlo h2
    · by_cases h3 : x.kind = 3
      · exact play_claim hA hB hE hG NGM hOk g18 EB x hL XZ hlo h3
      · exact play_ask hA hB hE hG NGM hOk g18 EB x hL XZ hlo h1 h2 h3
end Go.Proofs.YtdfnjcjpblkmcaaDoor
