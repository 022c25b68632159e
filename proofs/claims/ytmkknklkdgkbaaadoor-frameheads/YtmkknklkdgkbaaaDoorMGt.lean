import Derived.Test.YtmkknklkdgkbaaaDoorMGq
/- Gt -/
/- The document's Head, for all bytes. -/
namespace Go.Proofs.YtmkknklkdgkbaaaDoor
open Go.ChangeShapes Go.WideShapes Go.ChangeAt Go.RowKit
set_option maxRecDepth 20000
set_option linter.unusedVariables false
set_option linter.unusedSimpArgs false
theorem rrb_z {w : World} {g : Nat} {a : Option Addr} {n c : Nat} {l : List Nat} {p : Nat} {z : Int} (hR : Hid (Rrf w g a n c l p)) (h0 : Hid ((rdB l p z).2.1 = 0)) :
    Calls Tryd.prog 38 #[.pointer (some ⟨g, 0, none⟩), .int .i64 z] w fun e w' => ∃ a' m c', e = .returned (.tuple #[.slice a' m c', .int .i64 0]) ∧ Hid (Own w' w.heap.size a' m c' (rdB l p z).1 ∧ Rrf w' g a n c l (rdB l p z).2.2 ∧ Wfr w w' g none) := by
  refine (refrbytes_any hR).mono ?_
  rintro e w' ⟨a', m, c', q, h1, H⟩
  have h2 := H.out.2.1
  rw [h0.out] at h2
  rw [h1, h2]
  exact ⟨a', m, c', rfl, H.out.1, H.out.2.2⟩
theorem rrb_e {w : World} {g : Nat} {a : Option Addr} {n c : Nat} {l : List Nat} {p : Nat} {z : Int} (hR : Hid (Rrf w g a n c l p)) (h0 : Hid ((rdB l p z).2.1 ≠ 0)) :
    Calls Tryd.prog 38 #[.pointer (some ⟨g, 0, none⟩), .int .i64 z] w fun e w' => ∃ a' m c', e = .returned (.tuple #[.slice a' m c', .int .i64 5]) ∧ Hid (Wfr w w' g none) := by
  refine (refrbytes_any hR).mono ?_
  rintro e w' ⟨a', m, c', q, h1, H⟩
  have h2 := H.out.2.1
  rw [rdB_five h0.out] at h2
  rw [h1, h2]
  exact ⟨a', m, c', rfl, H.out.2.2.2⟩
theorem rop_z {w : World} {a : Option Addr} {n c : Nat} {l : List Nat} (h : Hid (Sln w a n l)) (hc : Hid (a = none → c = 0)) (hnc : n ≤ c) (h0 : Hid ((opn l).2 = 0)) :
    Calls Tryd.prog 39 #[.slice a n c] w fun e w' => ∃ a' N c', e = .returned (.tuple #[.slice a' N c', .int .i64 0]) ∧ Hid (Own w' w.heap.size a' N c' (opn l).1 ∧ Below w.heap.size w w') := by
  refine (refopen_any h hc hnc).mono ?_
  rintro e w' ⟨a', m, c', q, h1, H⟩
  have h2 := H.out.1
  rw [h0.out] at h2
  rw [h1, h2]
  exact ⟨a', m, c', rfl, H.out.2⟩
theorem rop_e {w : World} {a : Option Addr} {n c k : Nat} {l : List Nat} (h : Hid (Sln w a n l)) (hc : Hid (a = none → c = 0)) (hnc : n ≤ c) (h0 : Hid ((opn l).2 = k)) :
    Calls Tryd.prog 39 #[.slice a n c] w fun e w' => ∃ a' N c', e = .returned (.tuple #[.slice a' N c', .int .i64 (k : Int)]) ∧ Hid (Below w.heap.size w w') := by
  refine (refopen_any h hc hnc).mono ?_
  rintro e w' ⟨a', m, c', q, h1, H⟩
  have h2 := H.out.1
  rw [h0.out] at h2
  rw [h1, h2]
  exact ⟨a', m, c', rfl, H.out.2.2⟩
theorem rrn_z {w : World} {g : Nat} {a : Option Addr} {n c : Nat} {l : List Nat} {p : Nat} {z : Int} (hR : Hid (Rrf w g a n c l p)) (h0 : Hid ((rdN l p z).2.1 = 0)) :
    Calls Tryd.prog 40 #[.pointer (some ⟨g, 0, none⟩), .int .i64 z] w fun e w' => ∃ x : Nat, e = .returned (.tuple #[.int .i64 (x : Int), .int .i64 0]) ∧ Hid (x = (rdN l p z).1 ∧ Rrf w' g a n c l (rdN l p z).2.2 ∧ Wfr w w' g none) := by
  refine (refrnum_any hR).mono ?_
  rintro e w' ⟨k, q, h1, H⟩
  have h2 := H.out.2.1
  rw [h0.out] at h2
  rw [h1, h2]
  exact ⟨k, rfl, H.out.1, H.out.2.2⟩
theorem rrn_e {w : World} {g : Nat} {a : Option Addr} {n c : Nat} {l : List Nat} {p : Nat} {z : Int} (hR : Hid (Rrf w g a n c l p)) (h0 : Hid ((rdN l p z).2.1 ≠ 0)) :
    Calls Tryd.prog 40 #[.pointer (some ⟨g, 0, none⟩), .int .i64 z] w fun e w' => e = .returned (.tuple #[.int .i64 0, .int .i64 5]) ∧ Hid (Rrf w' g a n c l p ∧ Wfr w w' g none) := by
  refine (refrnum_any hR).mono ?_
  rintro e w' ⟨k, q, h1, H⟩
  have h3 := rdN_five h0.out
  rw [h3] at H
  rw [h1, H.out.2.1, H.out.1]
  exact ⟨rfl, H.out.2.2⟩
def RhEnd (w : World) (F : List Nat) (e : Ending) (w' : World) : Prop := Below w.heap.size w w' ∧
  ((∃ x0 x1 x2 x3 x4 x5 x6 p, hdF F = (0, [x0, x1, x2, x3, x4, x5, x6], p) ∧ e = .returned (.tuple #[.agg (cs .i64 [x1, x2, x3, x4, x5]), .int .i64 (x6 : Int), .int .i64 (p : Int), .int .i64 0])) ∨ (∃ k : Nat, k ≠ 0 ∧ (hdF F).1 = k ∧ e = .returned (.tuple #[.agg (cs .i64 Z5), .int .i64 0, .int .i64 0, .int .i64 (k : Int)])))
theorem rh_bad {w wX : World} {F : List Nat} {k : Nat} (hb : Below w.heap.size w wX) (hk : k ≠ 0) (h : (hdF F).1 = k) : RhEnd w F (.returned (.tuple #[.agg (cs .i64 Z5), .int .i64 0, .int .i64 0, .int .i64 (k : Int)])) (wX.setRow w.heap.size (cs .i64 Z5)) := ⟨(Oth.setRow _).below hb (Nat.le_refl _), .inr ⟨k, hk, h, rfl⟩⟩
theorem sli_lt {w : World} {a : Option Addr} {n : Nat} {l : List Nat} (h : Sln w a n l) : ∀ b off, l ≠ [] → a = some ⟨b, off, none⟩ → b < w.heap.size := by
  intro b off h1 h2
  obtain ⟨b', off', h3, h4, _⟩ := h.sli.2.2.resolve_left h1
  rw [h3] at h2
  cases h2
  exact h4
set_option maxHeartbeats 8000000 in
theorem refHead_n {w : World} {a : Option Addr} {n c : Nat} {F : List Nat} (hS : Hid (Sln w a n F)) (hc : Hid (a = none → c = 0)) (hnc : n ≤ c) :
    Calls Tryd.prog 19 #[.slice a n c] w fun e w' => RhEnd w F e w' := by
  obtain ⟨W1, HW1⟩ : ∃ W1, Hid ((w.alloc (.cells #[.int .i64 0, .int .i64 0, .int .i64 0, .int .i64 0, .int .i64 0] 25)).alloc (.cells #[.slice a n c, .int .i64 0] 74) = W1) := ⟨_, rfl⟩
  have b1 : Hid (Below w.heap.size w W1 ∧ W1.heap.size = w.heap.size + 2) := by rw [← HW1.out]; exact ⟨((Below.refl _ w).alloc (Nat.le_refl _) _).alloc (by simp) _, by simp⟩
  have t2 := two w (.cells #[.int .i64 0, .int .i64 0, .int .i64 0, .int .i64 0, .int .i64 0] 25) (.cells #[.slice a n c, .int .i64 0] 74)
  rw [HW1.out] at t2
  have A1 : Hid (Arr .i64 25 W1 w.heap.size Z5) := t2.1
  have DA : Hid (∀ b off, F ≠ [] → a = some ⟨b, off, none⟩ → b < w.heap.size) := sli_lt hS.out
  have R1 : Hid (Rrf W1 (w.heap.size + 1) a n c F 0) := ⟨t2.2, hS.out.below b1.out.1, hnc, hc.out, fun b off h1 h2 => by have := DA.out b off h1 h2; omega, by omega⟩
  clear t2
  by_cases h1 : (rdB F 0 256).2.1 = 0
  · have H1 : Hid ((rdB F 0 256).2.1 = 0) := h1
    by_cases h2 : (opn (rdB F 0 256).1).2 = 0
    · have H2 : Hid ((opn (rdB F 0 256).1).2 = 0) := h2
      obtain ⟨O, HO⟩ : ∃ O, Hid ((opn (rdB F 0 256).1).1 = O) := ⟨_, rfl⟩
      obtain ⟨p1, HP1⟩ : ∃ p1, Hid ((rdB F 0 256).2.2 = p1) := ⟨_, rfl⟩
      have NO : Hid (hdN O = none → (hdF F).1 = 5) := fun h => by rw [hdF_none h1 h2 (by rw [HO.out]; exact h)]
      have YES : Hid (∀ ns, hdN O = some ns → hdF F = (0, ns, p1)) := fun ns h => by rw [hdF_some h1 h2 (by rw [HO.out]; exact h), HP1.out]
      have OL : Hid (O.length ≤ 140737488352256) := by rw [← HO.out]; exact opn_small F
      clear h1 h2
      go_enter Tryd.func19, Tryd.ntmps19
      go_upto_region 8 with (first
        | (go_at_call 38; rw [HW1.out]; refine (rrb_z R1 H1).mono ?_; rintro e w2 ⟨a2, m2, c2, rfl, G2⟩
           have S2 : Hid (Sln w2 a2 m2 (rdB F 0 256).1) := G2.out.1.sln (by rw [G2.out.1.len]; exact rdB_small F)
           have Z2 : Hid (a2 = none → c2 = 0) := G2.out.1.cap0
           have N2 : m2 ≤ c2 := G2.out.1.cap
           have w1s := b1.out.2
           have A2 : Hid (Arr .i64 25 w2 w.heap.size Z5) := (G2.out.2.2.block _ A1.out.lt (by omega) (by simp [blkOf])).trans A1.out
           have B2 : Hid (Below w.heap.size w w2) := G2.out.2.2.below b1.out.1 (by omega) (fun q hq => by simp [blkOf] at hq) (by omega)
           have R2 : Hid (Rrf w2 (w.heap.size + 1) a n c F p1) := by rw [← HP1.out]; exact G2.out.2.1
           have W12 : Hid (w.heap.size + 2 ≤ w2.heap.size) := by have := G2.out.2.2.size; show _ ≤ _; omega
           clear w1s)
        | (go_at_call 39; refine (rop_z S2 Z2 N2 H2).mono ?_; rintro e w3 ⟨a3, m3, c3, rfl, G3⟩))
      have O3 : Hid (Own w3 w2.heap.size a3 m3 c3 O) := by rw [← HO.out]; exact G3.out.1
      have A3 : Hid (Arr .i64 25 w3 w.heap.size Z5) := A2.out.below G3.out.2 A2.out.lt
      have B3 : Hid (Below w.heap.size w w3) := B2.out.trans (G3.out.2.mono B2.out.size)
      have R3 : Hid (Rrf w3 (w.heap.size + 1) a n c F p1) := R2.out.below G3.out.2
      have W13 : Hid (w.heap.size + 2 ≤ w3.heap.size) := Nat.le_trans W12.out G3.out.2.size
      obtain ⟨g2, HG2⟩ : ∃ g2, Hid (w3.heap.size = g2) := ⟨_, rfl⟩
      obtain ⟨W5, HW5⟩ : ∃ W5, Hid ((w3.alloc (.cells #[.slice a3 m3 c3, .int .i64 0] 74)).alloc (.cells #[] 3) = W5) := ⟨_, rfl⟩
      have R5 : Hid (Rh w W5 (w.heap.size + 1) g2 (g2 + 1) 0 0 a n c F p1 a3 m3 c3 O 0 []) := by
        have b5 : Below w3.heap.size w3 W5 := by rw [← HW5.out]; exact ((Below.refl _ w3).alloc (Nat.le_refl _) _).alloc (by simp) _
        have t5 := two w3 (.cells #[.slice a3 m3 c3, .int .i64 0] 74) (.cells #[] 3)
        rw [HW5.out] at t5
        rw [← HG2.out]
        have s3 := O3.out.sln (by rw [O3.out.len]; exact OL.out)
        refine ⟨A3.out.below b5 A3.out.lt, R3.out.below b5, ⟨t5.1, s3.below b5, O3.out.cap, O3.out.cap0, fun b off h3 h4 => by have := sli_lt s3 b off h3 h4; omega, by omega⟩, ?_, by omega, by have := W13.out; omega, DA.out, sli_lt s3, B3.out.trans (b5.mono B3.out.size)⟩
        rw [← HW5.out]
        have h6 := World.ownsRow_made (base := w3.heap.size + 1) (e := 3) (size := 1) (w3.alloc (.cells #[.slice a3 m3 c3, .int .i64 0] 74)) #[] 0 (by simp) (by unfold maxLen; omega) (by simp)
        rw [World.size_alloc] at h6
        exact h6
      clear S2 Z2 N2 A2 B2 R2 W12 G2 G3 O3 A3 B3 R3 A1 R1
      go_wp2
      rw [HG2.out]
      refine (show _ = W5 from HW5.out) ▸ ?_
      clear HW5 HG2 W13
      go_loopw [11] (fun t wr => ∃ (k gi ci p2 : Nat) (ns : List Nat), k ≤ 7 ∧ t = .slice (some ⟨gi, 0, none⟩) k ci ∧ Hid (rdS O bigL k = some (ns, p2) ∧ Rh w wr (w.heap.size + 1) g2 gi k ci a n c F p1 a3 m3 c3 O p2 ns)) (fun t _ => 7 - slen t)
      case atStart => exact ⟨0, g2 + 1, 0, 0, [], by omega, rfl, rfl, R5.out⟩
      case round =>
        clear R5
        obtain ⟨k, gi, ci, p2, ns, hk, rfl, HK⟩ := hrel
        have RK : Hid (Rrf wr g2 a3 m3 c3 O p2) := HK.out.2.r2
        by_cases hlt : k < 7
        · have i1 : (k : Int) < 7 := by omega
          have HLT : Hid (k < 7) := hlt
          have BG : Hid (bigL.getD k 0 = 1099511627776) := by
            have : ∀ i, i < 7 → bigL.getD i 0 = 1099511627776 := by decide
            exact this k hlt
          by_cases hz : (rdN O p2 1099511627776).2.1 = 0
          · have HZ : Hid ((rdN O p2 1099511627776).2.1 = 0) := hz
            clear hz
            go_wp2_with (first
              | (go_at_call 40; refine (rrn_z RK HZ).mono ?_; rintro e w6 ⟨x, rfl, G6⟩
                 have R6 : Hid (Rh w w6 (w.heap.size + 1) g2 gi k ci a n c F p1 a3 m3 c3 O (rdN O p2 1099511627776).2.2 ns) := HK.out.2.step G6.out.2.1 G6.out.2.2
                 have lg := R6.out.row.ge
                 obtain ⟨g7, c7, w7, AP, row7, gr7⟩ := app_int w6 (g2 + 1) gi k ci x ns R6.out.row (by omega) (by have := HLT.out; omega)
                 have R7 : Hid (Rh w w7 (w.heap.size + 1) g2 g7 (k + 1) c7 a n c F p1 a3 m3 c3 O (rdN O p2 1099511627776).2.2 (ns ++ [x])) := by
                   refine R6.out.up ?_ row7
                   have b6 : Below (g2 + 1) w6 (w6.alloc (.cells #[.int .i64 (x : Int)] 3)) := (Below.refl _ w6).alloc (by omega) _
                   exact b6.grown gr7 (by simp; omega) (fun j e => by cases e; omega)
                 have RS : Hid (rdS O bigL (k + 1) = some (ns ++ [x], (rdN O p2 1099511627776).2.2)) := by
                   have h6 := rdS_ok HK.out.1 (by rw [BG.out]; exact HZ.out)
                   rw [BG.out, ← G6.out.1] at h6
                   exact h6
                 clear lg row7 gr7)
              | (at_builtin; refine wpList_app59 (by rfl) (.tmp 52) (.tmp 54) (by rfl) (by rfl) (by rfl) (by rfl) AP ?_))
            go_roundw
            case rel => exact ⟨k + 1, g7, c7, (rdN O p2 1099511627776).2.2, ns ++ [x], by omega, rfl, RS.out, R7.out⟩
            case measure => simp [slen]; omega
          · have HZ : Hid ((rdN O p2 1099511627776).2.1 ≠ 0) := hz
            have HF : Hid ((hdF F).1 = 5) := by
              refine NO.out (hdN_bigNone ?_)
              have h6 := rdS_none (rdS_bad HK.out.1 (by rw [BG.out]; exact hz)) (7 - (k + 1))
              rw [show k + 1 + (7 - (k + 1)) = 7 by omega] at h6
              exact h6
            clear hz
            go_wp2_with (first
              | (go_at_call 40; refine (rrn_e RK HZ).mono ?_; rintro e w6 ⟨rfl, G6⟩
                 have R6 : Hid (Rh w w6 (w.heap.size + 1) g2 gi k ci a n c F p1 a3 m3 c3 O p2 ns) := HK.out.2.step G6.out.1 G6.out.2
                 have A6 : Hid (Arr .i64 25 w6 w.heap.size Z5) := R6.out.out)
              | (refine wpList_st0 (k := .i64) (t := 25) (l := Z5) (l2 := Z5) (by rfl) (by rfl) 25 (.tmp 2) (.tmp 50) (by rfl) (by rfl) (by rfl) A6 sz25s (by rfl) ?_))
            have FIN := rh_bad (k := 5) R6.out.bel (by omega) HF.out
            refine bodyPost_ret (res_arr4 (by rfl) (by rfl) (A6.out.setRow Z5) und25s sz25s) rfl ?_
            exact FIN
        · obtain rfl : k = 7 := by omega
          obtain ⟨x0, x1, x2, x3, x4, x5, x6, rfl⟩ := seven (rdS_len HK.out.1)
          have RK2 := HK.out.2.row
          have y1 := RK2.cell (i := 1) (by omega)
          have y2 := RK2.cell (i := 2) (by omega)
          have y3 := RK2.cell (i := 3) (by omega)
          have y4 := RK2.cell (i := 4) (by omega)
          have y5 := RK2.cell (i := 5) (by omega)
          have S0 : wr.drew.cell? ⟨gi, 1, none⟩ = some (.int .i64 (x1 : Int)) ∧ wr.drew.cell? ⟨gi, 2, none⟩ = some (.int .i64 (x2 : Int)) ∧ wr.drew.cell? ⟨gi, 3, none⟩ = some (.int .i64 (x3 : Int)) ∧ wr.drew.cell? ⟨gi, 4, none⟩ = some (.int .i64 (x4 : Int)) ∧ wr.drew.cell? ⟨gi, 5, none⟩ = some (.int .i64 (x5 : Int)) := ⟨y1, y2, y3, y4, y5⟩
          have gg := RK2.ge
          have SA : (wr.alloc (.cells (cs .i64 Z5) 25)).drew.cell? ⟨gi, 1, none⟩ = some (.int .i64 (x1 : Int)) ∧ (wr.alloc (.cells (cs .i64 Z5) 25)).drew.cell? ⟨gi, 2, none⟩ = some (.int .i64 (x2 : Int)) ∧ (wr.alloc (.cells (cs .i64 Z5) 25)).drew.cell? ⟨gi, 3, none⟩ = some (.int .i64 (x3 : Int)) ∧ (wr.alloc (.cells (cs .i64 Z5) 25)).drew.cell? ⟨gi, 4, none⟩ = some (.int .i64 (x4 : Int)) ∧ (wr.alloc (.cells (cs .i64 Z5) 25)).drew.cell? ⟨gi, 5, none⟩ = some (.int .i64 (x5 : Int)) := by
            have b8 : Below wr.heap.size wr (wr.alloc (.cells (cs .i64 Z5) 25)).drew := ((Below.refl _ _).alloc (Nat.le_refl _) _).drew
            exact ⟨(b8.cell (p := ⟨gi, 1, none⟩) gg.2).trans y1, (b8.cell (p := ⟨gi, 2, none⟩) gg.2).trans y2, (b8.cell (p := ⟨gi, 3, none⟩) gg.2).trans y3, (b8.cell (p := ⟨gi, 4, none⟩) gg.2).trans y4, (b8.cell (p := ⟨gi, 5, none⟩) gg.2).trans y5⟩
          obtain ⟨W6, HW6⟩ : ∃ W6, Hid ((wr.alloc (.cells (cs .i64 Z5) 25)).drew.setRow wr.heap.size (cs .i64 [x1, x2, x3, x4, x5]) = W6) := ⟨_, rfl⟩
          have b9 : Below wr.heap.size wr W6 := by rw [← HW6.out]; exact (Oth.setRow _).below (((Below.refl _ wr).alloc (Nat.le_refl _) _).drew) (Nat.le_refl _)
          have SB : W6.cell? ⟨gi, 1, none⟩ = some (.int .i64 (x1 : Int)) ∧ W6.cell? ⟨gi, 2, none⟩ = some (.int .i64 (x2 : Int)) ∧ W6.cell? ⟨gi, 3, none⟩ = some (.int .i64 (x3 : Int)) ∧ W6.cell? ⟨gi, 4, none⟩ = some (.int .i64 (x4 : Int)) ∧ W6.cell? ⟨gi, 5, none⟩ = some (.int .i64 (x5 : Int)) := ⟨(b9.cell (p := ⟨gi, 1, none⟩) gg.2).trans y1, (b9.cell (p := ⟨gi, 2, none⟩) gg.2).trans y2, (b9.cell (p := ⟨gi, 3, none⟩) gg.2).trans y3, (b9.cell (p := ⟨gi, 4, none⟩) gg.2).trans y4, (b9.cell (p := ⟨gi, 5, none⟩) gg.2).trans y5⟩
          have R6 : Hid (Rh w W6 (w.heap.size + 1) g2 gi 7 ci a n c F p1 a3 m3 c3 O p2 [x0, x1, x2, x3, x4, x5, x6]) := HK.out.2.up (b9.mono (by omega)) (RK2.block (b9.block gi gg.2))
          have AN : Arr .i64 25 (wr.alloc (.cells (cs .i64 Z5) 25)).drew wr.heap.size Z5 := Arr.new wr .i64 25 Z5
          have AS0 : Hid (Arr .i64 25 W6 wr.heap.size [x1, x2, x3, x4, x5]) := by rw [← HW6.out]; exact AN.setRow _
          have GL : Hid (gi < wr.heap.size) := gg.2
          have GG : Hid (g2 + 1 ≤ W6.heap.size) := by have h6 := b9.size; show _ ≤ _; omega
          have RS : Hid (rdS O bigL 7 = some ([x0, x1, x2, x3, x4, x5, x6], p2)) := HK.out.1
          have ML : Hid (m3 = O.length) := HK.out.2.r2.sl.len
          rw [← HW6.out] at SB
          clear RK2 y1 y2 y3 y4 y5 b9 gg RK HK
          go_wp2
          refine wp_region_till (S := fun L W => W.cell? ⟨gi, 1, none⟩ = some (.int .i64 (x1 : Int)) ∧ W.cell? ⟨gi, 2, none⟩ = some (.int .i64 (x2 : Int)) ∧ W.cell? ⟨gi, 3, none⟩ = some (.int .i64 (x3 : Int)) ∧ W.cell? ⟨gi, 4, none⟩ = some (.int .i64 (x4 : Int)) ∧ W.cell? ⟨gi, 5, none⟩ = some (.int .i64 (x5 : Int))) (by kernel_rfl) S0 (fun hS => ?_)
          clear S0
          refine till_take (i := 0) (v := .slice (some ⟨gi, 0, none⟩) 7 ci) rfl (by kernel_rfl) (by kernel_rfl) (by kernel_rfl) (fun _ _ _ h => h) (fun L w => Iff.rfl) (Or.inl ⟨by rfl, fun w => by go_simp⟩) hS (fun hSb => ?_)
          simp only [List.getElem_toArray, List.getElem_cons_zero, List.getElem_cons_succ, Act.put, List.setIfInBounds_toArray, List.set_cons_zero, List.set_cons_succ]
          clear hS
          refine till_take (i := 1) (v := .pointer (some ⟨gi, 1, none⟩)) rfl (by kernel_rfl) (by kernel_rfl) (by kernel_rfl) (fun _ _ _ h => h) (fun L w => Iff.rfl) (Or.inl ⟨by rfl, fun w => by go_simp⟩) hSb (fun hS => ?_)
          simp only [List.getElem_toArray, List.getElem_cons_zero, List.getElem_cons_succ, Act.put, List.setIfInBounds_toArray, List.set_cons_zero, List.set_cons_succ]
          clear hSb
          refine till_take (i := 3) (v := .slice (some ⟨gi, 0, none⟩) 7 ci) rfl (by kernel_rfl) (by kernel_rfl) (by kernel_rfl) (fun _ _ _ h => h) (fun L w => Iff.rfl) (Or.inl ⟨by rfl, fun w => by go_simp⟩) hS (fun hSb => ?_)
          simp only [List.getElem_toArray, List.getElem_cons_zero, List.getElem_cons_succ, Act.put, List.setIfInBounds_toArray, List.set_cons_zero, List.set_cons_succ]
          clear hS
          refine till_take (i := 4) (v := .pointer (some ⟨gi, 2, none⟩)) rfl (by kernel_rfl) (by kernel_rfl) (by kernel_rfl) (fun _ _ _ h => h) (fun L w => Iff.rfl) (Or.inl ⟨by rfl, fun w => by go_simp⟩) hSb (fun hS => ?_)
          simp only [List.getElem_toArray, List.getElem_cons_zero, List.getElem_cons_succ, Act.put, List.setIfInBounds_toArray, List.set_cons_zero, List.set_cons_succ]
          clear hSb
          refine till_take (i := 6) (v := .slice (some ⟨gi, 0, none⟩) 7 ci) rfl (by kernel_rfl) (by kernel_rfl) (by kernel_rfl) (fun _ _ _ h => h) (fun L w => Iff.rfl) (Or.inl ⟨by rfl, fun w => by go_simp⟩) hS (fun hSb => ?_)
          simp only [List.getElem_toArray, List.getElem_cons_zero, List.getElem_cons_succ, Act.put, List.setIfInBounds_toArray, List.set_cons_zero, List.set_cons_succ]
          clear hS
          refine till_take (i := 7) (v := .pointer (some ⟨gi, 3, none⟩)) rfl (by kernel_rfl) (by kernel_rfl) (by kernel_rfl) (fun _ _ _ h => h) (fun L w => Iff.rfl) (Or.inl ⟨by rfl, fun w => by go_simp⟩) hSb (fun hS => ?_)
          simp only [List.getElem_toArray, List.getElem_cons_zero, List.getElem_cons_succ, Act.put, List.setIfInBounds_toArray, List.set_cons_zero, List.set_cons_succ]
          clear hSb
          refine till_take (i := 10) (v := .slice (some ⟨gi, 0, none⟩) 7 ci) rfl (by kernel_rfl) (by kernel_rfl) (by kernel_rfl) (fun _ _ _ h => h) (fun L w => Iff.rfl) (Or.inl ⟨by rfl, fun w => by go_simp⟩) hS (fun hSb => ?_)
          simp only [List.getElem_toArray, List.getElem_cons_zero, List.getElem_cons_succ, Act.put, List.setIfInBounds_toArray, List.set_cons_zero, List.set_cons_succ]
          clear hS
          refine till_take (i := 11) (v := .pointer (some ⟨gi, 4, none⟩)) rfl (by kernel_rfl) (by kernel_rfl) (by kernel_rfl) (fun _ _ _ h => h) (fun L w => Iff.rfl) (Or.inl ⟨by rfl, fun w => by go_simp⟩) hSb (fun hS => ?_)
          simp only [List.getElem_toArray, List.getElem_cons_zero, List.getElem_cons_succ, Act.put, List.setIfInBounds_toArray, List.set_cons_zero, List.set_cons_succ]
          clear hSb
          refine till_take (i := 13) (v := .slice (some ⟨gi, 0, none⟩) 7 ci) rfl (by kernel_rfl) (by kernel_rfl) (by kernel_rfl) (fun _ _ _ h => h) (fun L w => Iff.rfl) (Or.inl ⟨by rfl, fun w => by go_simp⟩) hS (fun hSb => ?_)
          simp only [List.getElem_toArray, List.getElem_cons_zero, List.getElem_cons_succ, Act.put, List.setIfInBounds_toArray, List.set_cons_zero, List.set_cons_succ]
          clear hS
          refine till_take (i := 14) (v := .pointer (some ⟨gi, 5, none⟩)) rfl (by kernel_rfl) (by kernel_rfl) (by kernel_rfl) (fun _ _ _ h => h) (fun L w => Iff.rfl) (Or.inl ⟨by rfl, fun w => by go_simp⟩) hSb (fun hS => ?_)
          simp only [List.getElem_toArray, List.getElem_cons_zero, List.getElem_cons_succ, Act.put, List.setIfInBounds_toArray, List.set_cons_zero, List.set_cons_succ]
          clear hSb
          refine till_read (i := 2) (c := 9) (v := .int .i64 (x1 : Int)) (T := fun W => W.cell? ⟨gi, 1, none⟩ = some (.int .i64 (x1 : Int))) rfl rfl (by kernel_rfl) (by kernel_rfl) (by kernel_rfl) (by kernel_rfl) (by kernel_rfl) (fun _ _ _ h => h) (fun L w => Iff.rfl) (fun L w h1 h2 => h2.1) (Or.inl ⟨by rfl, fun w hSw => by go_simp⟩) hS (fun hSb => ?_)
          simp only [List.getElem_toArray, List.getElem_cons_zero, List.getElem_cons_succ, Act.put, List.setIfInBounds_toArray, List.set_cons_zero, List.set_cons_succ]
          clear hS
          refine till_read (i := 5) (c := 9) (v := .int .i64 (x2 : Int)) (T := fun W => W.cell? ⟨gi, 2, none⟩ = some (.int .i64 (x2 : Int))) rfl rfl (by kernel_rfl) (by kernel_rfl) (by kernel_rfl) (by kernel_rfl) (by kernel_rfl) (fun _ _ _ h => h) (fun L w => Iff.rfl) (fun L w h1 h2 => h2.2.1) (Or.inl ⟨by rfl, fun w hSw => by go_simp⟩) hSb (fun hS => ?_)
          simp only [List.getElem_toArray, List.getElem_cons_zero, List.getElem_cons_succ, Act.put, List.setIfInBounds_toArray, List.set_cons_zero, List.set_cons_succ]
          clear hSb
          refine till_read (i := 8) (c := 9) (v := .int .i64 (x3 : Int)) (T := fun W => W.cell? ⟨gi, 3, none⟩ = some (.int .i64 (x3 : Int))) rfl rfl (by kernel_rfl) (by kernel_rfl) (by kernel_rfl) (by kernel_rfl) (by kernel_rfl) (fun _ _ _ h => h) (fun L w => Iff.rfl) (fun L w h1 h2 => h2.2.2.1) (Or.inl ⟨by rfl, fun w hSw => by go_simp⟩) hS (fun hSb => ?_)
          simp only [List.getElem_toArray, List.getElem_cons_zero, List.getElem_cons_succ, Act.put, List.setIfInBounds_toArray, List.set_cons_zero, List.set_cons_succ]
          clear hS
          refine till_read (i := 12) (c := 16) (v := .int .i64 (x4 : Int)) (T := fun W => W.cell? ⟨gi, 4, none⟩ = some (.int .i64 (x4 : Int))) rfl rfl (by kernel_rfl) (by kernel_rfl) (by kernel_rfl) (by kernel_rfl) (by kernel_rfl) (fun _ _ _ h => h) (fun L w => Iff.rfl) (fun L w h1 h2 => h2.2.2.2.1) (Or.inl ⟨by rfl, fun w hSw => by go_simp⟩) hSb (fun hS => ?_)
          simp only [List.getElem_toArray, List.getElem_cons_zero, List.getElem_cons_succ, Act.put, List.setIfInBounds_toArray, List.set_cons_zero, List.set_cons_succ]
          clear hSb
          refine till_read (i := 15) (c := 16) (v := .int .i64 (x5 : Int)) (T := fun W => W.cell? ⟨gi, 5, none⟩ = some (.int .i64 (x5 : Int))) rfl rfl (by kernel_rfl) (by kernel_rfl) (by kernel_rfl) (by kernel_rfl) (by kernel_rfl) (fun _ _ _ h => h) (fun L w => Iff.rfl) (fun L w h1 h2 => h2.2.2.2.2) (Or.inl ⟨by rfl, fun w hSw => by go_simp⟩) hS (fun hSb => ?_)
          simp only [List.getElem_toArray, List.getElem_cons_zero, List.getElem_cons_succ, Act.put, List.setIfInBounds_toArray, List.set_cons_zero, List.set_cons_succ]
          clear hS
          refine till_take (i := 9) (v := .agg #[.int .i64 (x1 : Int), .int .i64 (x2 : Int), .int .i64 (x3 : Int)]) rfl (by kernel_rfl) (by kernel_rfl) (by kernel_rfl) (fun _ _ _ h => h) (fun L w => Iff.rfl) (Or.inl ⟨by rfl, fun w => by go_simp⟩) hSb (fun hS => ?_)
          simp only [List.getElem_toArray, List.getElem_cons_zero, List.getElem_cons_succ, Act.put, List.setIfInBounds_toArray, List.set_cons_zero, List.set_cons_succ]
          clear hSb
          refine till_take (i := 16) (v := .agg #[.int .i64 (x1 : Int), .int .i64 (x2 : Int), .int .i64 (x3 : Int), .int .i64 (x4 : Int), .int .i64 (x5 : Int)]) rfl (by kernel_rfl) (by kernel_rfl) (by kernel_rfl) (fun _ _ _ h => h) (fun L w => Iff.rfl) (Or.inl ⟨by rfl, fun w => by go_simp⟩) hS (fun hSb => ?_)
          simp only [List.getElem_toArray, List.getElem_cons_zero, List.getElem_cons_succ, Act.put, List.setIfInBounds_toArray, List.set_cons_zero, List.set_cons_succ]
          clear hS
          refine till_one (i := 17) (by kernel_rfl) rfl (fun K hK => ?_)
          simp only [List.getElem_toArray, List.getElem_cons_zero, List.getElem_cons_succ]
          rw [if_pos (by rfl)]
          go_simp
          refine hK.out _ _ (SA) (fun hS => ?_)
          clear hK K
          try simp only [List.getElem_toArray, List.getElem_cons_zero, List.getElem_cons_succ, Act.put, List.setIfInBounds_toArray, List.set_cons_zero, List.set_cons_succ]
          clear hSb
          refine till_one (i := 18) (by kernel_rfl) rfl (fun K hK => ?_)
          simp only [List.getElem_toArray, List.getElem_cons_zero, List.getElem_cons_succ]
          rw [if_pos (by rfl)]
          refine wp_st (k := .i64) (t := 25) (l := Z5) (l2 := [x1, x2, x3, x4, x5]) (by rfl) 25 (.tmp 14) (.tmp 72) (by rfl) (by rfl) (by rfl) AN sz25s (by rfl) ?_
          refine hK.out _ _ (SB) (fun hSb => ?_)
          clear hK K
          try simp only [List.getElem_toArray, List.getElem_cons_zero, List.getElem_cons_succ, Act.put, List.setIfInBounds_toArray, List.set_cons_zero, List.set_cons_succ]
          clear hS
          refine till_done (by kernel_rfl) ?_ _
          clear hSb
          refine (show _ = W6 from HW6.out) ▸ ?_
          obtain ⟨gs, HGS⟩ : ∃ gs, Hid (wr.heap.size = gs) := ⟨_, rfl⟩
          rw [HGS.out]
          rw [HGS.out] at AS0
          have AS : Hid (Arr .i64 25 W6 gs [x1, x2, x3, x4, x5]) := AS0.out
          have GNE : Hid (gs ≠ w.heap.size ∧ gi ≠ w.heap.size) := by have h6 := R6.out.h1; have h7 := R6.out.h2; have h8 := R6.out.row.ge; have h9 := GL.out; have h10 := HGS.out; exact ⟨by omega, by omega⟩
          clear SA SB HW6 AS0 HGS AN
          have z0 := R6.out.row.cell (i := 0) (by omega)
          have v1 := R6.out.r2.c1
          have q0 := AS.out.cell (i := 0) (by simp)
          have q1 := AS.out.cell (i := 1) (by simp)
          have q2 := AS.out.cell (i := 2) (by simp)
          have q3 := AS.out.cell (i := 3) (by simp)
          have q4 := AS.out.cell (i := 4) (by simp)
          have A6 : Hid (Arr .i64 25 W6 w.heap.size Z5) := R6.out.out
          simp only [List.getD_cons_zero, List.getD_cons_succ] at z0 q0 q1 q2 q3 q4
          by_cases c1 : x0 = 1
          · have i1 : ((x0 : Int) == 1) = true := by simp; omega
            have i2 : ((x0 : Int) != 1) = false := by simp; omega
            by_cases c2 : p2 = m3
            · have i3 : ((p2 : Int) == (m3 : Int)) = true := by simp; omega
              have i4 : ((p2 : Int) != (m3 : Int)) = false := by simp; omega
              obtain ⟨ob, OKB⟩ : ∃ ob, Hid (okN [1, (x1 : Int), x2, x3, x4, x5, 0] = ob) := ⟨_, rfl⟩
              have C12 : Hid (x0 = 1 ∧ p2 = m3) := ⟨c1, c2⟩
              clear c1 c2
              cases ob with
              | false =>
                have HF : Hid ((hdF F).1 = 5) := NO.out (hdN_nodoc RS.out (fun h => by rw [h.1.2.1] at OKB; cases OKB.out))
                go_wp2_with (first
                  | (go_at_call 13; refine (refInForm_n (x1 : Int) x2 x3 x4 x5 _).mono ?_; rintro e w7 ⟨rfl, G7⟩
                     rw [OKB.out]
                     have R7 : Hid (Rh w w7 (w.heap.size + 1) g2 gi 7 ci a n c F p1 a3 m3 c3 O p2 [x0, x1, x2, x3, x4, x5, x6]) := R6.out.up (G7.out.mono GG.out) (R6.out.row.block (G7.out.block gi R6.out.row.ge.2))
                     have A7 : Hid (Arr .i64 25 w7 w.heap.size Z5) := R7.out.out
                     have y6 := R7.out.row.cell (i := 6) (by omega)
                     have AS7 : Hid (Arr .i64 25 w7 gs [x1, x2, x3, x4, x5]) := AS.out.below G7.out AS.out.lt)
                  | (refine wpList_st0 (k := .i64) (t := 25) (l := Z5) (l2 := Z5) (by rfl) (by rfl) 25 (.tmp 2) (.tmp 97) (by rfl) (by rfl) (by rfl) A7 sz25s (by rfl) ?_))
                have FIN := rh_bad (k := 5) R7.out.bel (by omega) HF.out
                refine bodyPost_ret (res_arr4 (by rfl) (by rfl) (A7.out.setRow Z5) und25s sz25s) rfl ?_
                exact FIN
              | true =>
                by_cases d6 : x6 ≤ 1024
                · have i5 : ¬ ((1024 : Int) < (x6 : Int)) := by omega
                  have HF : Hid (hdF F = (0, [x0, x1, x2, x3, x4, x5, x6], p1)) := YES.out _ (hdN_doc RS.out ⟨C12.out.1, OKB.out, d6⟩ (by rw [C12.out.2]; exact ML.out))
                  go_wp2_with (go_at_call 13; refine (refInForm_n (x1 : Int) x2 x3 x4 x5 _).mono ?_; rintro e w7 ⟨rfl, G7⟩
                               rw [OKB.out]
                               have R7 : Hid (Rh w w7 (w.heap.size + 1) g2 gi 7 ci a n c F p1 a3 m3 c3 O p2 [x0, x1, x2, x3, x4, x5, x6]) := R6.out.up (G7.out.mono GG.out) (R6.out.row.block (G7.out.block gi R6.out.row.ge.2))
                               have A7 : Hid (Arr .i64 25 w7 w.heap.size Z5) := R7.out.out
                               have y6 := R7.out.row.cell (i := 6) (by omega)
                               have AS7 : Hid (Arr .i64 25 w7 gs [x1, x2, x3, x4, x5]) := AS.out.below G7.out AS.out.lt)
                  have gne : Hid (gs ≠ w.heap.size ∧ gi ≠ w.heap.size) := GNE.out
                  have c6 : w7.drew.cell? ⟨gi, 6, none⟩ = some (.int .i64 (x6 : Int)) := y6
                  have cp : w7.drew.cell? ⟨w.heap.size + 1, 1, none⟩ = some (.int .i64 (p1 : Int)) := R7.out.r1.c1
                  have AW : Hid (Arr .i64 25 w7.drew w.heap.size Z5) := A7.out
                  have BW : Hid (Below w.heap.size w w7.drew) := R7.out.bel.drew
                  have SC : Rng .i64 w7.drew gs 0 [x1, x2, x3, x4, x5] ∧ w7.drew.cell? ⟨gi, 6, none⟩ = some (.int .i64 (x6 : Int)) ∧ w7.drew.cell? ⟨w.heap.size + 1, 1, none⟩ = some (.int .i64 (p1 : Int)) := ⟨AS7.out.rng, c6, cp⟩
                  have SD : Rng .i64 (w7.drew.setRow w.heap.size (cs .i64 [x1, x2, x3, x4, x5])) gs 0 [x1, x2, x3, x4, x5] ∧ (w7.drew.setRow w.heap.size (cs .i64 [x1, x2, x3, x4, x5])).cell? ⟨gi, 6, none⟩ = some (.int .i64 (x6 : Int)) ∧ (w7.drew.setRow w.heap.size (cs .i64 [x1, x2, x3, x4, x5])).cell? ⟨w.heap.size + 1, 1, none⟩ = some (.int .i64 (p1 : Int)) :=
                    ⟨(Arr.setRow_ne (w := w7.drew) AS7.out _ gne.out.1).rng, (World.cell?_of_block (setRow_other w7.drew w.heap.size gi _ gne.out.2)).trans c6, (World.cell?_of_block (setRow_other w7.drew w.heap.size (w.heap.size + 1) _ (by omega))).trans cp⟩
                  refine wp_region_till (S := fun L W => Rng .i64 W gs 0 [x1, x2, x3, x4, x5] ∧ W.cell? ⟨gi, 6, none⟩ = some (.int .i64 (x6 : Int)) ∧ W.cell? ⟨w.heap.size + 1, 1, none⟩ = some (.int .i64 (p1 : Int))) (by kernel_rfl) SC (fun hS => ?_)
                  clear SC c6 cp y6
                  refine till_take (i := 1) (v := .slice (some ⟨gi, 0, none⟩) 7 ci) rfl (by kernel_rfl) (by kernel_rfl) (by kernel_rfl) (fun _ _ _ h => h) (fun L w => Iff.rfl) (Or.inl ⟨by rfl, fun w => by go_simp⟩) hS (fun hSb => ?_)
                  simp only [List.getElem_toArray, List.getElem_cons_zero, List.getElem_cons_succ, Act.put, List.setIfInBounds_toArray, List.set_cons_zero, List.set_cons_succ]
                  clear hS
                  refine till_take (i := 2) (v := .pointer (some ⟨gi, 6, none⟩)) rfl (by kernel_rfl) (by kernel_rfl) (by kernel_rfl) (fun _ _ _ h => h) (fun L w => Iff.rfl) (Or.inl ⟨by rfl, fun w => by go_simp⟩) hSb (fun hS => ?_)
                  simp only [List.getElem_toArray, List.getElem_cons_zero, List.getElem_cons_succ, Act.put, List.setIfInBounds_toArray, List.set_cons_zero, List.set_cons_succ]
                  clear hSb
                  refine till_take (i := 4) (v := .pointer (some ⟨w.heap.size + 1, 0, none⟩)) rfl (by kernel_rfl) (by kernel_rfl) (by kernel_rfl) (fun _ _ _ h => h) (fun L w => Iff.rfl) (Or.inl ⟨by rfl, fun w => by go_simp⟩) hS (fun hSb => ?_)
                  simp only [List.getElem_toArray, List.getElem_cons_zero, List.getElem_cons_succ, Act.put, List.setIfInBounds_toArray, List.set_cons_zero, List.set_cons_succ]
                  clear hS
                  refine till_take (i := 5) (v := .pointer (some ⟨w.heap.size + 1, 0, none⟩)) rfl (by kernel_rfl) (by kernel_rfl) (by kernel_rfl) (fun _ _ _ h => h) (fun L w => Iff.rfl) (Or.inl ⟨by rfl, fun w => by go_simp⟩) hSb (fun hS => ?_)
                  simp only [List.getElem_toArray, List.getElem_cons_zero, List.getElem_cons_succ, Act.put, List.setIfInBounds_toArray, List.set_cons_zero, List.set_cons_succ]
                  clear hSb
                  refine till_take (i := 6) (v := .pointer (some ⟨w.heap.size + 1, 1, none⟩)) rfl (by kernel_rfl) (by kernel_rfl) (by kernel_rfl) (fun _ _ _ h => h) (fun L w => Iff.rfl) (Or.inl ⟨by rfl, fun w => by go_simp⟩) hS (fun hSb => ?_)
                  simp only [List.getElem_toArray, List.getElem_cons_zero, List.getElem_cons_succ, Act.put, List.setIfInBounds_toArray, List.set_cons_zero, List.set_cons_succ]
                  clear hS
                  refine till_read (i := 0) (c := 8) (v := .agg (cs .i64 [x1, x2, x3, x4, x5])) (T := fun W => Rng .i64 W gs 0 [x1, x2, x3, x4, x5]) rfl rfl (by kernel_rfl) (by kernel_rfl) (by kernel_rfl) (by kernel_rfl) (by kernel_rfl) (fun _ _ _ h => h) (fun L w => Iff.rfl) (fun L w h1 h2 => h2.1) (yieldsIf_ld (by rfl) 25 (.tmp 14) (by rfl) (by rfl) (fun w h => h) und25s sz25s) hSb (fun hS => ?_)
                  simp only [List.getElem_toArray, List.getElem_cons_zero, List.getElem_cons_succ, Act.put, List.setIfInBounds_toArray, List.set_cons_zero, List.set_cons_succ]
                  clear hSb
                  refine till_read (i := 3) (c := 9) (v := .int .i64 (x6 : Int)) (T := fun W => W.cell? ⟨gi, 6, none⟩ = some (.int .i64 (x6 : Int))) rfl rfl (by kernel_rfl) (by kernel_rfl) (by kernel_rfl) (by kernel_rfl) (by kernel_rfl) (fun _ _ _ h => h) (fun L w => Iff.rfl) (fun L w h1 h2 => h2.2.1) (Or.inl ⟨by rfl, fun w hSw => by go_simp⟩) hS (fun hSb => ?_)
                  simp only [List.getElem_toArray, List.getElem_cons_zero, List.getElem_cons_succ, Act.put, List.setIfInBounds_toArray, List.set_cons_zero, List.set_cons_succ]
                  clear hS
                  refine till_read (i := 7) (c := 10) (v := .int .i64 (p1 : Int)) (T := fun W => W.cell? ⟨w.heap.size + 1, 1, none⟩ = some (.int .i64 (p1 : Int))) rfl rfl (by kernel_rfl) (by kernel_rfl) (by kernel_rfl) (by kernel_rfl) (by kernel_rfl) (fun _ _ _ h => h) (fun L w => Iff.rfl) (fun L w h1 h2 => h2.2.2) (Or.inl ⟨by rfl, fun w hSw => by go_simp⟩) hSb (fun hS => ?_)
                  simp only [List.getElem_toArray, List.getElem_cons_zero, List.getElem_cons_succ, Act.put, List.setIfInBounds_toArray, List.set_cons_zero, List.set_cons_succ]
                  clear hSb
                  refine till_one (i := 8) (by kernel_rfl) rfl (fun K hK => ?_)
                  simp only [List.getElem_toArray, List.getElem_cons_zero, List.getElem_cons_succ]
                  rw [if_pos (by rfl)]
                  refine wp_st (k := .i64) (t := 25) (l := Z5) (l2 := [x1, x2, x3, x4, x5]) (by rfl) 25 (.tmp 2) (.tmp 98) (by rfl) (by rfl) (by rfl) AW.out sz25s (by rfl) ?_
                  refine hK.out _ _ (SD) (fun hSb => ?_)
                  clear hK K
                  try simp only [List.getElem_toArray, List.getElem_cons_zero, List.getElem_cons_succ, Act.put, List.setIfInBounds_toArray, List.set_cons_zero, List.set_cons_succ]
                  clear hS
                  refine till_one (i := 9) (by kernel_rfl) rfl (fun K hK => ?_)
                  simp only [List.getElem_toArray, List.getElem_cons_zero, List.getElem_cons_succ]
                  rw [if_pos (by rfl)]
                  go_simp
                  refine hK.out _ _ (hSb) (fun hS => ?_)
                  clear hK K
                  try simp only [List.getElem_toArray, List.getElem_cons_zero, List.getElem_cons_succ, Act.put, List.setIfInBounds_toArray, List.set_cons_zero, List.set_cons_succ]
                  clear hSb
                  refine till_one (i := 10) (by kernel_rfl) rfl (fun K hK => ?_)
                  simp only [List.getElem_toArray, List.getElem_cons_zero, List.getElem_cons_succ]
                  rw [if_pos (by rfl)]
                  go_simp
                  refine hK.out _ _ (hS) (fun hSb => ?_)
                  clear hK K
                  try simp only [List.getElem_toArray, List.getElem_cons_zero, List.getElem_cons_succ, Act.put, List.setIfInBounds_toArray, List.set_cons_zero, List.set_cons_succ]
                  clear hS
                  refine till_one (i := 11) (by kernel_rfl) rfl (fun K hK => ?_)
                  simp only [List.getElem_toArray, List.getElem_cons_zero, List.getElem_cons_succ]
                  rw [if_pos (by rfl)]
                  go_simp
                  refine hK.out _ _ (hSb) (fun hS => ?_)
                  clear hK K
                  try simp only [List.getElem_toArray, List.getElem_cons_zero, List.getElem_cons_succ, Act.put, List.setIfInBounds_toArray, List.set_cons_zero, List.set_cons_succ]
                  clear hSb
                  refine till_done (by kernel_rfl) ?_ _
                  clear hS
                  go_wp2
                  have FIN : RhEnd w F (.returned (.tuple #[.agg (cs .i64 [x1, x2, x3, x4, x5]), .int .i64 (x6 : Int), .int .i64 (p1 : Int), .int .i64 0])) (w7.drew.setRow w.heap.size (cs .i64 [x1, x2, x3, x4, x5])) := ⟨(Oth.setRow _).below BW.out (Nat.le_refl _), .inl ⟨x0, x1, x2, x3, x4, x5, x6, p1, HF.out, rfl⟩⟩
                  refine bodyPost_ret (res_arr4 (by rfl) (by rfl) (AW.out.setRow [x1, x2, x3, x4, x5]) und25s sz25s) rfl ?_
                  exact FIN
                · have i5 : (1024 : Int) < (x6 : Int) := by omega
                  have HF : Hid ((hdF F).1 = 5) := NO.out (hdN_nodoc RS.out (fun h => d6 h.1.2.2))
                  clear d6
                  go_wp2_with (first
                    | (go_at_call 13; refine (refInForm_n (x1 : Int) x2 x3 x4 x5 _).mono ?_; rintro e w7 ⟨rfl, G7⟩
                       rw [OKB.out]
                       have R7 : Hid (Rh w w7 (w.heap.size + 1) g2 gi 7 ci a n c F p1 a3 m3 c3 O p2 [x0, x1, x2, x3, x4, x5, x6]) := R6.out.up (G7.out.mono GG.out) (R6.out.row.block (G7.out.block gi R6.out.row.ge.2))
                       have A7 : Hid (Arr .i64 25 w7 w.heap.size Z5) := R7.out.out
                       have y6 := R7.out.row.cell (i := 6) (by omega)
                       have AS7 : Hid (Arr .i64 25 w7 gs [x1, x2, x3, x4, x5]) := AS.out.below G7.out AS.out.lt)
                    | (refine wpList_st0 (k := .i64) (t := 25) (l := Z5) (l2 := Z5) (by rfl) (by rfl) 25 (.tmp 2) (.tmp 97) (by rfl) (by rfl) (by rfl) A7 sz25s (by rfl) ?_))
                  have FIN := rh_bad (k := 5) R7.out.bel (by omega) HF.out
                  refine bodyPost_ret (res_arr4 (by rfl) (by rfl) (A7.out.setRow Z5) und25s sz25s) rfl ?_
                  exact FIN
            · have i3 : ((p2 : Int) == (m3 : Int)) = false := by simp; omega
              have i4 : ((p2 : Int) != (m3 : Int)) = true := by simp; omega
              have HF : Hid ((hdF F).1 = 5) := NO.out (hdN_nodoc RS.out (fun h => c2 (by rw [ML.out]; exact h.2)))
              clear c1 c2
              go_wp2_with (refine wpList_st0 (k := .i64) (t := 25) (l := Z5) (l2 := Z5) (by rfl) (by rfl) 25 (.tmp 2) (.tmp 97) (by rfl) (by rfl) (by rfl) A6 sz25s (by rfl) ?_)
              have FIN := rh_bad (k := 5) R6.out.bel (by omega) HF.out
              refine bodyPost_ret (res_arr4 (by rfl) (by rfl) (A6.out.setRow Z5) und25s sz25s) rfl ?_
              exact FIN
          · have i1 : ((x0 : Int) == 1) = false := by simp; omega
            have i2 : ((x0 : Int) != 1) = true := by simp; omega
            have HF : Hid ((hdF F).1 = 5) := NO.out (hdN_nodoc RS.out (fun h => c1 h.1.1))
            clear c1
            go_wp2_with (refine wpList_st0 (k := .i64) (t := 25) (l := Z5) (l2 := Z5) (by rfl) (by rfl) 25 (.tmp 2) (.tmp 97) (by rfl) (by rfl) (by rfl) A6 sz25s (by rfl) ?_)
            have FIN := rh_bad (k := 5) R6.out.bel (by omega) HF.out
            refine bodyPost_ret (res_arr4 (by rfl) (by rfl) (A6.out.setRow Z5) und25s sz25s) rfl ?_
            exact FIN
    · obtain ⟨kk, HKK⟩ : ∃ kk, Hid ((opn (rdB F 0 256).1).2 = kk) := ⟨_, rfl⟩
      have HF : Hid ((hdF F).1 = kk) := by rw [hdF_open h1 h2]; exact HKK.out
      have k0 : kk ≠ 0 := by rw [← HKK.out]; exact h2
      have i1 : ((kk : Int) == 0) = false := by simp; exact k0
      have i2 : ((kk : Int) != 0) = true := by simp; exact k0
      have K0 : Hid (kk ≠ 0) := k0
      clear h1 h2 k0
      go_enter Tryd.func19, Tryd.ntmps19
      go_wp2_with (first
        | (go_at_call 38; rw [HW1.out]; refine (rrb_z R1 H1).mono ?_; rintro e w2 ⟨a2, m2, c2, rfl, G2⟩
           have S2 : Hid (Sln w2 a2 m2 (rdB F 0 256).1) := G2.out.1.sln (by rw [G2.out.1.len]; exact rdB_small F)
           have Z2 : Hid (a2 = none → c2 = 0) := G2.out.1.cap0
           have N2 : m2 ≤ c2 := G2.out.1.cap
           have w1s := b1.out.2
           have A2 : Hid (Arr .i64 25 w2 w.heap.size Z5) := (G2.out.2.2.block _ A1.out.lt (by omega) (by simp [blkOf])).trans A1.out
           have B2 : Hid (Below w.heap.size w w2) := G2.out.2.2.below b1.out.1 (by omega) (fun q hq => by simp [blkOf] at hq) (by omega)
           clear w1s)
        | (go_at_call 39; refine (rop_e S2 Z2 N2 HKK).mono ?_; rintro e w3 ⟨a3, m3, c3, rfl, G3⟩
           have A3 : Hid (Arr .i64 25 w3 w.heap.size Z5) := A2.out.below G3.out A2.out.lt
           have B3 : Hid (Below w.heap.size w w3) := B2.out.trans (G3.out.mono B2.out.size))
        | (refine wpList_st0 (k := .i64) (t := 25) (l := Z5) (l2 := Z5) (by rfl) (by rfl) 25 (.tmp 2) (.tmp 34) (by rfl) (by rfl) (by rfl) A3 sz25s (by rfl) ?_))
      have FIN := rh_bad B3.out K0.out HF.out
      refine bodyPost_ret (res_arr4 (by rfl) (by rfl) (A3.out.setRow Z5) und25s sz25s) rfl ?_
      exact FIN
  · have H1 : Hid ((rdB F 0 256).2.1 ≠ 0) := h1
    have HF : Hid ((hdF F).1 = 5) := by rw [hdF_list h1]; exact rfl
    clear h1
    go_enter Tryd.func19, Tryd.ntmps19
    go_wp2_with (first
      | (go_at_call 38; rw [HW1.out]; refine (rrb_e R1 H1).mono ?_; rintro e w2 ⟨a2, m2, c2, rfl, G2⟩
         have w1s := b1.out.2
         have A2 : Hid (Arr .i64 25 w2 w.heap.size Z5) := (G2.out.block _ A1.out.lt (by omega) (by simp [blkOf])).trans A1.out
         have B2 : Hid (Below w.heap.size w w2) := G2.out.below b1.out.1 (by omega) (fun q hq => by simp [blkOf] at hq) (by omega)
         clear w1s)
      | (refine wpList_st0 (k := .i64) (t := 25) (l := Z5) (l2 := Z5) (by rfl) (by rfl) 25 (.tmp 2) (.tmp 25) (by rfl) (by rfl) (by rfl) A2 sz25s (by rfl) ?_))
    have FIN := rh_bad (k := 5) B2.out (by omega) HF.out
    refine bodyPost_ret (res_arr4 (by rfl) (by rfl) (A2.out.setRow Z5) und25s sz25s) rfl ?_
    exact FIN
end Go.Proofs.YtmkknklkdgkbaaaDoor
