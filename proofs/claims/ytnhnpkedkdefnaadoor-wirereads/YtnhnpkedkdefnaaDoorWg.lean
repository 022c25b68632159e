/- The law WireBack walked: it returns true, and changes nothing that was there. -/
import Derived.Test.YtnhnpkedkdefnaaDoorWf
import Derived.Test.YtnhnpkedkdefnaaDoorVi
import Derived.Deep.CutBlock
import Derived.Deep.DeepCutAuto
namespace Go.Proofs.YtnhnpkedkdefnaaDoor
open Go.ChangeShapes Go.WideShapes Go.ChangeAt Go.RowKit
set_option linter.unusedVariables false
set_option linter.unusedSimpArgs false
theorem Ops.below {W W' : World} {a : Option Addr} {n : Nat} {L : List Opt} (h : Ops W a n L) (hb : Below W.heap.size W W') : Ops W' a n L := by
  refine ⟨h.len, ?_⟩
  rcases h.row with h0 | ⟨b, o, ha, hlt, hall⟩
  · exact .inl h0
  · refine .inr ⟨b, o, ha, Nat.lt_of_lt_of_le hlt hb.size, fun i hi => ?_⟩
    obtain ⟨a', n', c', hc⟩ := hall i hi
    exact ⟨a', n', c', hc.below hb⟩
theorem Loc.wfa {w w' : World} {q g : Nat} {x : Opt} {ab a : Option Addr} {nb cb : Nat} (h : Loc w q x ab nb cb) (f : Wfr w w' g a) (hne : q ≠ g) (ha : some q ≠ blkOf a) : Loc w' q x ab nb cb := ⟨(f.block q (Array.getElem?_eq_some_iff.1 h.blk).1 hne ha).trans h.blk⟩
/- while the script is written -/
structure Wst (w wr : World) (g : Nat) (a : Option Addr) (n c : Nat) (X : List Nat) : Prop where
  wri : Wri wr g w.heap.size a n c X false
  bel : Below w.heap.size w wr
  ge : w.heap.size ≤ g
theorem Wst.step {w w5 w6 : World} {g : Nat} {a a' : Option Addr} {n n' c c' : Nat} {X X' : List Nat} (h : Wst w w5 g a n c X) (h1 : Wri w6 g w.heap.size a' n' c' X' false) (f : Wfr w5 w6 g a) : Wst w w6 g a' n' c' X' :=
  ⟨h1, Wfr.below h.bel f h.ge (fun j hj => (h.wri.own.ge j hj).1) h.bel.size, h.ge⟩
set_option maxHeartbeats 4000000 in
theorem back_n {w : World} {a : Option Addr} {n c : Nat} {L : List Opt} {z : Int} {E : Nat → Addr} (hO : Hid (Ops w a n L)) (hnc : n ≤ c) (hT : Hid (tot L ≤ 1048576)) (wz : (Lit.int .i64 z).wf = true) (hE : Hid (Sent w 2 E)) :
    Calls Tryd.prog 6 #[.slice a n c, .int .i64 z] w fun e w' => e = .returned (.bool true) ∧ Hid (Below w.heap.size w w') := by
  have bz := bounds_i64 wz
  have hn : n ≤ 1048576 := by rw [hO.out.len]; exact Nat.le_trans (len_tot L) hT.out
  go_enter Tryd.func6, Tryd.ntmps6
  go_upto_region 6 with (first
    | (go_at_call 9; refine (alive_n w).mono ?_; rintro e w1 ⟨rfl, B1⟩)
    | (go_at_call 10; refine (newWriter_n w1).mono ?_; rintro e w2 ⟨rfl, h2⟩
       have W2 : Hid (Wri w2 w1.heap.size w.heap.size none 0 0 [] false) := by rw [h2.out]; exact Wri.new w1 _
       have B2 : Hid (Below w.heap.size w w2) := by rw [h2.out]; exact B1.out.alloc B1.out.size _
       have G2 : Hid (w.heap.size ≤ w1.heap.size) := B1.out.size
       obtain ⟨g, Hg⟩ : ∃ g, Hid (w1.heap.size = g) := ⟨_, rfl⟩
       rw [Hg.out] at W2 G2 ⊢
       clear h2))
  clear Hg B1
  have P3 : Hid (Wst w w2 g none 0 0 (wd (L.take 0))) := ⟨W2.out, B2.out, G2.out⟩
  clear W2 B2 G2
  go_wp2
  go_loopw [20] (fun ti wr => ∃ (k : Nat) (a1 : Option Addr) (n1 c1 : Nat), k ≤ n ∧ ti = .int .i64 k ∧ Hid (Wst w wr g a1 n1 c1 (wd (L.take k)))) (fun ti _ => n - (intOf ti).toNat)
  case atStart => exact ⟨0, none, 0, 0, by omega, rfl, P3.out⟩
  case round =>
    clear P3
    obtain ⟨k, a1, n1, c1, hk, rfl, H4⟩ := hrel
    by_cases hlt : k < n
    · obtain ⟨b, o, rfl, hb, hall⟩ := hO.out.row.resolve_left (by omega)
      obtain ⟨ab, nb, cb, hop⟩ := hall k hlt
      have hkL : k < L.length := by rw [← hO.out.len]; exact hlt
      have LN := wd_next hkL
      have HP : Hid (Opc wr b (o + k * 4) (L.getD k o0) ab nb cb) := hop.below H4.out.bel
      obtain ⟨x, Hx⟩ : ∃ x, Hid (L.getD k o0 = x) := ⟨_, rfl⟩
      obtain ⟨X, HX⟩ : ∃ X, Hid (wd (L.take k) = X) := ⟨_, rfl⟩
      have tk : tot (L.take (k + 1)) = tot (L.take k) + x.bs.length + 1 := by rw [take_opt hkL, tot_snoc, Hx.out]
      have tl := Nat.le_trans (tot_take L (k + 1)) hT.out
      have n1l : n1 ≤ 9 * tot (L.take k) := by have h1 := wd_len (L.take k) (by omega); have h2 := H4.out.wri.own.len; omega
      rw [Hx.out] at HP LN
      rw [HX.out] at LN H4
      have LN2 : Hid (wd (L.take (k + 1)) = X ++ eop x) := LN
      have d0 := HP.out.c0
      have d1 := HP.out.c1
      have d2 := HP.out.c2
      have d3 := HP.out.c3
      have S0 : Hid (Sln w ab nb x.bs) := by rw [← Hx.out]; exact hop.sl
      have ZB : Hid (ab = none → cb = 0) := hop.z
      have NB : Hid (nb = x.bs.length) := S0.out.len
      have K5 : Hid (n1 + 9 ≤ 140737488352256) := by show _ ≤ _; omega
      have K6 : Hid (n1 + nb + 18 ≤ 140737488352256) := by have := NB.out; show _ ≤ _; omega
      obtain ⟨dd, HL⟩ : ∃ dd, Hid (n = k + 1 + dd) := ⟨n - k - 1, by show _ = _; omega⟩
      clear hop hall LN hkL tk tl n1l HX
      go_upto_region 9 with (fail)
      obtain ⟨w5, W5⟩ : ∃ w5, Hid (wr.alloc (.cells #[.int .i64 x.kind, .int .i64 x.which, .int .i64 x.num, .slice ab nb cb] 31) = w5) := ⟨_, rfl⟩
      obtain ⟨q, Hq⟩ : ∃ q, Hid (wr.heap.size = q) := ⟨_, rfl⟩
      have Q5 : Hid (Loc w5 q x ab nb cb) := ⟨by rw [← W5.out, ← Hq.out]; exact heap_alloc_new wr _⟩
      have A5 : Hid (Below wr.heap.size wr w5) := by rw [← W5.out]; exact (Below.refl _ _).alloc (Nat.le_refl _) _
      have P5 : Hid (Wst w w5 g a1 n1 c1 X) := ⟨H4.out.wri.below A5.out, H4.out.bel.trans (A5.out.mono H4.out.bel.size), H4.out.ge⟩
      have R5 : Hid (Wri w5 g w.heap.size a1 n1 c1 X false) := P5.out.wri
      have Z5 : Hid (w.heap.size ≤ w5.heap.size) := P5.out.bel.size
      have S5 : Hid (Sln w5 ab nb x.bs) := S0.out.below P5.out.bel
      have CV := conv_n (k := cb) S5
      have LT : Hid (∀ y ∈ x.bs, y < 256) := S0.out.lt
      have AP : Hid (∀ b off, x.bs ≠ [] → ab = some ⟨b, off, none⟩ → b ≠ g ∧ some b ≠ blkOf a1) := by
        intro b off hne hab
        obtain ⟨b', off', h1, h2, _⟩ := S0.out.sli.2.2.resolve_left hne
        rw [hab] at h1
        simp only [Option.some.injEq, Addr.mk.injEq, and_true] at h1
        have h3 := P5.out.ge
        refine ⟨by omega, fun e => ?_⟩
        have := (P5.out.wri.own.ge b e.symm).1
        omega
      have e0 := Q5.out.c0
      have e2 := Q5.out.c2
      have e3 := Q5.out.c3
      rw [W5.out, Hq.out]
      clear d0 d1 d2 d3 HP W5 Hq A5 H4
      obtain ⟨kd, Hk⟩ : ∃ kd, Hid (x.kind = kd) := ⟨_, rfl⟩
      rw [Hk.out] at e0
      by_cases h1 : kd = 1
      · subst h1
        obtain ⟨v, Hv⟩ : ∃ v, Hid (msk x.num = v) := ⟨_, rfl⟩
        have em : bits .and .i64 x.num 9223372036854775807 = (v : Int) := by rw [msk_and, Hv.out]
        have hv : v < 9223372036854775808 := by rw [← Hv.out]; exact msk_lt _
        have EO : Hid (eop x = enc v) := by rw [eop1 Hk.out, Hv.out]; exact rfl
        go_wp2_with (first
          | (go_at_call 11; refine (num_n R5 hv Z5 K5).mono ?_; rintro e w6 ⟨a2, n2, c2, rfl, H6⟩
             have P6 : Hid (Wst w w6 g a2 n2 c2 (wd (L.take (k + 1)))) := by rw [LN2.out, EO.out]; exact P5.out.step H6.out.1 H6.out.2.1
             clear H6))
        go_roundw
        case rel => have hl := HL.out; exact ⟨k + 1, a2, n2, c2, by omega, by go_num, P6.out⟩
        case measure => have hl := HL.out; simp [intOf]; omega
      · have i1 : ¬ (kd = 1) := h1
        by_cases h2 : kd = 2
        · subst h2
          have EO : Hid (eop x = enc nb ++ x.bs) := by rw [eop2 Hk.out, NB.out]; exact rfl
          go_wp2_with (first
            | (go_at_call 13; refine (text_n R5 LT NB Z5 K6).mono ?_; rintro e w6 ⟨a2, n2, c2, rfl, H6⟩
               have P6 : Hid (Wst w w6 g a2 n2 c2 (wd (L.take (k + 1)))) := by rw [LN2.out, EO.out]; exact P5.out.step H6.out.1 H6.out.2.1
               clear H6))
          go_roundw
          case rel => have hl := HL.out; exact ⟨k + 1, a2, n2, c2, by omega, by go_num, P6.out⟩
          case measure => have hl := HL.out; simp [intOf]; omega
        · have i2 : ¬ (kd = 2) := h2
          by_cases h3 : kd = 3
          · subst h3
            have EO : Hid (eop x = enc nb ++ x.bs) := by rw [eop3 Hk.out, NB.out]; exact rfl
            go_wp2_with (first
              | (go_at_call 16; refine (wbytes_n R5 S5 ZB AP Z5 K6).mono ?_; rintro e w6 ⟨a2, n2, c2, rfl, H6⟩
                 have P6 : Hid (Wst w w6 g a2 n2 c2 (wd (L.take (k + 1)))) := by rw [LN2.out, EO.out]; exact P5.out.step H6.out.1 H6.out.2.1
                 clear H6))
            go_roundw
            case rel => have hl := HL.out; exact ⟨k + 1, a2, n2, c2, by omega, by go_num, P6.out⟩
            case measure => have hl := HL.out; simp [intOf]; omega
          · have i3 : ¬ (kd = 3) := h3
            have P6 : Hid (Wst w w5 g a1 n1 c1 (wd (L.take (k + 1)))) := by rw [LN2.out, eop0 (by rw [Hk.out]; exact i1) (by rw [Hk.out]; exact i2) (by rw [Hk.out]; exact i3), List.append_nil]; exact P5.out
            clear h1 h2 h3
            go_wp2
            go_roundw
            case rel => have hl := HL.out; exact ⟨k + 1, a1, n1, c1, by omega, by go_num, P6.out⟩
            case measure => have hl := HL.out; simp [intOf]; omega
    · have ek : k = L.length := by rw [← hO.out.len]; omega
      have eL : L.take k = L := by rw [ek, List.take_length]
      rw [eL] at H4
      have n1l : n1 ≤ 9 * 1048576 := by have h1 := wd_len L hT.out; have h2 := H4.out.wri.own.len; have h3 := hT.out; omega
      have NX : Hid ((wd L).length = n1) := H4.out.wri.own.len.symm
      have R4 : Hid (Wri wr g w.heap.size a1 n1 c1 (wd L) false) := H4.out.wri
      have B4 : Hid (Below w.heap.size w wr) := H4.out.bel
      have K4 : Hid (n1 ≤ 140737488352256) := by show _ ≤ _; omega
      clear H4 eL ek
      go_upto_region 18 with (first
        | (go_at_call 18; refine (done_n R4 K4).mono ?_; rintro e w5 ⟨a5, c5, rfl, H5⟩))
      have B5 : Hid (Below w.heap.size w w5) := B4.out.trans (H5.out.2.mono B4.out.size)
      have S5 : Hid (Sln w5 a5 n1 (wd L)) := H5.out.1.sln K4.out
      have S5' : Hid (Sln w5 a5 n1 ((wd L).take n1)) := by rw [← NX.out, List.take_length, NX.out]; exact S5.out
      have Z5 : Hid (a5 = none → c5 = 0) := H5.out.1.cap0
      have C5 : n1 ≤ c5 := H5.out.1.cap
      have O5 : Hid (Ops w5 a n L) := hO.out.below B5.out
      have E5 : Hid (Sent w5 2 E) := hE.out.below B5.out
      have NL : Hid (n1 ≤ (wd L).length) := by rw [NX.out]; exact Nat.le_refl _
      have RT : Hid (true = decide (n1 = (wd L).length)) := by rw [NX.out]; simp [Hid]
      clear H5 R4 B4 K4
      go_upto_region 21 with (first
        | (go_at_call 35; refine (read_n S5' Z5 NL O5 hT E5 RT).mono ?_; rintro e w6 ⟨rfl, H6⟩))
      have B6 : Hid (Below w.heap.size w w6) := B5.out.trans (H6.out.mono B5.out.size)
      by_cases h0 : n1 = 0
      · subst h0
        go_wp2
        go_ret
        exact ⟨rfl, B6.out⟩
      · obtain ⟨t, r, e1, t1, t2, e2, hr⟩ := pick_place z n1 (by omega)
        have N0 : ¬ ((n1 : Int) = 0) := by omega
        have ir : (r : Int) ≤ (c5 : Int) := by omega
        have S6 : Hid (Sln w6 a5 r ((wd L).take r)) := (S5.out.below H6.out).take (by omega)
        have Z6 : Hid (a5 = none → r = 0) := fun e => by have := Z5.out e; omega
        have O6 : Hid (Ops w6 a n L) := O5.out.below H6.out
        have E6 : Hid (Sent w6 2 E) := E5.out.below H6.out
        have NR : Hid (r ≤ (wd L).length) := by rw [NX.out]; show _ ≤ _; omega
        have RF : Hid (false = decide (r = (wd L).length)) := by rw [NX.out]; simp [Hid]; omega
        clear H6
        go_wp2_with (first
          | (go_at_call 35; refine (read_n S6 Z6 NR O6 hT E6 RF).mono ?_; rintro e w7 ⟨rfl, H7⟩))
        go_ret
        exact ⟨rfl, B6.out.trans (H7.out.mono B6.out.size)⟩
end Go.Proofs.YtnhnpkedkdefnaaDoor
