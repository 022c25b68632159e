/- The law's own read walked: all that was put is read back, and nothing is left; what is cut is not. -/
import Derived.Test.YtnhnpkedkdefnaaDoorWd
import Derived.Test.YtnhnpkedkdefnaaDoorWe
import Derived.Deep.RegionHeld
namespace Go.Proofs.YtnhnpkedkdefnaaDoor
open Go.ChangeShapes Go.WideShapes Go.ChangeAt Go.RowKit
set_option linter.unusedVariables false
set_option linter.unusedSimpArgs false
theorem Opc.below {W W' : World} {b o : Nat} {x : Opt} {a : Option Addr} {n c : Nat} (h : Opc W b o x a n c) (hb : Below W.heap.size W W') : Opc W' b o x a n c := by
  have hl : b < W.heap.size := cell_lt h.c0
  exact ⟨(hb.cell (p := ⟨b, o, none⟩) hl).trans h.c0, (hb.cell (p := ⟨b, o + 1, none⟩) hl).trans h.c1, (hb.cell (p := ⟨b, o + 2, none⟩) hl).trans h.c2, (hb.cell (p := ⟨b, o + 3, none⟩) hl).trans h.c3, h.w0, h.w1, h.w2, h.sl.below hb, h.nc, h.cap, h.z⟩
theorem len_tot (L : List Opt) : L.length ≤ tot L := by
  induction L with
  | nil => simp [tot]
  | cons x r ih => simp [tot] at ih ⊢; omega
/- while the script is read -/
structure Rst (w wr : World) (g : Nat) (a1 : Option Addr) (n1 c1 : Nat) (X : List Nat) (p : Nat) : Prop where
  rdr : Rdr wr g w.heap.size a1 n1 c1 X p
  bel : Below w.heap.size w wr
  ge : w.heap.size ≤ g
/- the local op's cells -/
structure Loc (w : World) (q : Nat) (x : Opt) (ab : Option Addr) (nb cb : Nat) : Prop where
  blk : w.heap[q]? = some (.cells #[.int .i64 x.kind, .int .i64 x.which, .int .i64 x.num, .slice ab nb cb] 31 (0, 0))
theorem Loc.c0 {w : World} {q : Nat} {x : Opt} {ab : Option Addr} {nb cb : Nat} (h : Loc w q x ab nb cb) : w.cell? ⟨q, 0, none⟩ = some (.int .i64 x.kind) := by have := h.blk; simp [World.cell?, this]
theorem Loc.c2 {w : World} {q : Nat} {x : Opt} {ab : Option Addr} {nb cb : Nat} (h : Loc w q x ab nb cb) : w.cell? ⟨q, 2, none⟩ = some (.int .i64 x.num) := by have := h.blk; simp [World.cell?, this]
theorem Loc.c3 {w : World} {q : Nat} {x : Opt} {ab : Option Addr} {nb cb : Nat} (h : Loc w q x ab nb cb) : w.cell? ⟨q, 3, none⟩ = some (.slice ab nb cb) := by have := h.blk; simp [World.cell?, this]
theorem Loc.wfr {w w' : World} {q g : Nat} {x : Opt} {ab : Option Addr} {nb cb : Nat} (h : Loc w q x ab nb cb) (f : Wfr w w' g none) (hne : q ≠ g) : Loc w' q x ab nb cb := ⟨(f.block q (Array.getElem?_eq_some_iff.1 h.blk).1 hne (by simp [blkOf])).trans h.blk⟩
theorem Rst.step {w w5 w6 : World} {g : Nat} {a1 : Option Addr} {n1 c1 : Nat} {X : List Nat} {p p' : Nat} (h : Rst w w5 g a1 n1 c1 X p) (hr : Rdr w6 g w.heap.size a1 n1 c1 X p') (f : Wfr w5 w6 g none) : Rst w w6 g a1 n1 c1 X p' := ⟨hr, Wfr.below h.bel f h.ge (by simp [blkOf]) h.bel.size, h.ge⟩
/- what is read of a text's or a list's bytes -/
theorem piece_take {X u bs : List Nat} {p ns nb : Nat} (hX : X.drop p = ((enc nb ++ bs) ++ u).take (ns - p)) (hn : nb = bs.length) (hb : nb < 9223372036854775808) (hfit : (enc nb ++ bs).length ≤ ns - p) :
    nat 9 (X.drop p) 0 0 = (nb, (enc nb).length, true) ∧ (X.drop (p + (enc nb).length)).take nb = bs := by
  have h1 := nat_take (r := ns - p) (bs ++ u) hb
  rw [← List.append_assoc, ← hX] at h1
  have h2 : (enc nb).length + nb ≤ ns - p := by rw [List.length_append] at hfit; omega
  rw [if_pos (by omega)] at h1
  refine ⟨h1, ?_⟩
  rw [← List.drop_drop, hX, List.append_assoc, List.drop_take, List.drop_left, List.take_take, Nat.min_eq_left (by omega), List.take_append_of_le_length (by omega), List.take_of_length_le (by omega)]
theorem piece_short {X u bs : List Nat} {p ns nb : Nat} (hX : X.drop p = ((enc nb ++ bs) ++ u).take (ns - p)) (hn : nb = bs.length) (hb : nb < 9223372036854775808) (hp : p ≤ ns) (hfit : ¬ (enc nb ++ bs).length ≤ ns - p) :
    ∃ N S ok, nat 9 (X.drop p) 0 0 = (N, S, ok) ∧ (N : Int) ≤ (nb : Int) ∧ (ok = true → ns < p + S + N) := by
  have h1 := nat_take (r := ns - p) (bs ++ u) hb
  rw [← List.append_assoc, ← hX] at h1
  rw [List.length_append] at hfit
  split at h1
  · exact ⟨nb, (enc nb).length, true, h1, by omega, fun _ => by omega⟩
  · exact ⟨0, 0, false, h1, by omega, fun h => by cases h⟩
set_option maxHeartbeats 4000000 in
theorem read_n {w : World} {sa : Option Addr} {ns cs : Nat} {a : Option Addr} {n c : Nat} {L : List Opt} {E : Nat → Addr} {r : Bool} (hS : Hid (Sln w sa ns ((wd L).take ns))) (hc : Hid (sa = none → cs = 0)) (hns : Hid (ns ≤ (wd L).length)) (hO : Hid (Ops w a n L)) (hT : Hid (tot L ≤ 1048576)) (hE : Hid (Sent w 2 E)) (hr : Hid (r = decide (ns = (wd L).length))) :
    Calls Tryd.prog 35 #[.slice sa ns cs, .slice a n c] w fun e w' => e = .returned (.tuple #[.bool r, .bool r]) ∧ Hid (Below w.heap.size w w') := by
  have hn : n ≤ 1048576 := by rw [hO.out.len]; exact Nat.le_trans (len_tot L) hT.out
  obtain ⟨X, HX⟩ : ∃ X, Hid ((wd L).take ns = X) := ⟨_, rfl⟩
  rw [HX.out] at hS
  go_enter Tryd.func35, Tryd.ntmps35
  go_wp2_with (first
    | (go_at_call 19; refine (newReader_n hS hc).mono ?_; rintro e w1 ⟨g, a1, c1, rfl, H1⟩))
  have R1 : Hid (Rst w w1 g a1 ns c1 X (wd (L.take 0)).length) := ⟨H1.out.1, H1.out.2.2, H1.out.2.1⟩
  clear H1
  go_loopw [21] (fun ti wr => ∃ k : Nat, k ≤ n ∧ ti = .int .i64 k ∧ Hid (Rst w wr g a1 ns c1 X (wd (L.take k)).length)) (fun ti _ => n - (intOf ti).toNat)
  case atStart => exact ⟨0, by omega, rfl, R1.out⟩
  case round =>
    clear R1
    obtain ⟨k, hk, rfl, H4⟩ := hrel
    by_cases hlt : k < n
    · obtain ⟨b, o, rfl, hb, hall⟩ := hO.out.row.resolve_left (by omega)
      obtain ⟨ab, nb, cb, hop⟩ := hall k hlt
      have hkL : k < L.length := by rw [← hO.out.len]; exact hlt
      have LA := left_at (nb := ns) hkL
      have LE := wd_le hkL
      have LN := wd_next hkL
      have HP : Hid (Opc wr b (o + k * 4) (L.getD k o0) ab nb cb) := hop.below H4.out.bel
      obtain ⟨x, Hx⟩ : ∃ x, Hid (L.getD k o0 = x) := ⟨_, rfl⟩
      obtain ⟨p, Hp⟩ : ∃ p, Hid ((wd (L.take k)).length = p) := ⟨_, rfl⟩
      rw [Hx.out] at HP LA LE LN
      rw [HX.out, Hp.out] at LA
      rw [Hp.out] at LE H4
      have LN2 : Hid ((wd (L.take (k + 1))).length = p + (eop x).length) := by rw [LN, List.length_append, Hp.out]; exact rfl
      have LA2 : Hid (X.drop p = (eop x ++ wd (L.drop (k + 1))).take (ns - p)) := LA
      have LE2 : Hid (p + (eop x).length ≤ (wd L).length) := LE
      have d0 := HP.out.c0
      have d1 := HP.out.c1
      have d2 := HP.out.c2
      have d3 := HP.out.c3
      have S0 : Hid (Sln w ab nb x.bs) := by rw [← Hx.out]; exact hop.sl
      have ZB : Hid (ab = none → cb = 0) := hop.z
      have NB : Hid (nb = x.bs.length) := S0.out.len
      have nbs : nb ≤ 140737488351232 := Nat.le_trans hop.nc hop.cap
      obtain ⟨dd, HL⟩ : ∃ dd, Hid (n = k + 1 + dd) := ⟨n - k - 1, by show _ = _; omega⟩
      clear hop hall LA LE LN hkL Hp
      go_upto_region 7 with (fail)
      obtain ⟨w5, W5⟩ : ∃ w5, Hid (wr.alloc (.cells #[.int .i64 x.kind, .int .i64 x.which, .int .i64 x.num, .slice ab nb cb] 31) = w5) := ⟨_, rfl⟩
      obtain ⟨q, Hq⟩ : ∃ q, Hid (wr.heap.size = q) := ⟨_, rfl⟩
      have Q5 : Hid (Loc w5 q x ab nb cb) := ⟨by rw [← W5.out, ← Hq.out]; exact heap_alloc_new wr _⟩
      have A5 : Hid (Below wr.heap.size wr w5) := by rw [← W5.out]; exact (Below.refl _ _).alloc (Nat.le_refl _) _
      have P5 : Hid (Rst w w5 g a1 ns c1 X p) := ⟨H4.out.rdr.below A5.out, H4.out.bel.trans (A5.out.mono H4.out.bel.size), H4.out.ge⟩
      have R5 : Hid (Rdr w5 g w.heap.size a1 ns c1 X p) := P5.out.rdr
      have E5 : Hid (Sent w5 2 E) := hE.out.below P5.out.bel
      have gq : Hid (q ≠ g) := by have h1 := H4.out.rdr.lt; rw [← Hq.out]; show _ ≠ _; omega
      have NP : Hid (p ≤ ns) := H4.out.rdr.le
      have e0 := Q5.out.c0
      rw [W5.out, Hq.out]
      clear d0 d1 d2 d3 HP W5 Hq A5 H4
      obtain ⟨kd, Hk⟩ : ∃ kd, Hid (x.kind = kd) := ⟨_, rfl⟩
      rw [Hk.out] at e0
      have e3 := Q5.out.c3
      by_cases h1 : kd = 1
      · subst h1
        obtain ⟨v, Hv⟩ : ∃ v, Hid (msk x.num = v) := ⟨_, rfl⟩
        have em : bits .and .i64 x.num 9223372036854775807 = (v : Int) := by rw [msk_and, Hv.out]
        have hv : v < 9223372036854775808 := by rw [← Hv.out]; exact msk_lt _
        have EO : Hid (eop x = enc v) := by rw [eop1 Hk.out, Hv.out]; exact rfl
        have NT := nat_take (r := ns - p) (wd (L.drop (k + 1))) hv
        rw [← EO.out, ← LA2.out] at NT
        by_cases hfit : (eop x).length ≤ ns - p
        · rw [if_pos hfit] at NT
          have NN : Hid (nat 9 (X.drop p) 0 0 = (v, (eop x).length, true)) := NT
          have vz : (v : Int) ≤ 9223372036854775807 := by omega
          clear NT hfit hv
          go_wp2_with (first
            | (go_at_call 20; refine (rnum_ok R5 NN vz (Int.le_refl _)).mono ?_; rintro e w6 ⟨rfl, H6⟩
               have P6 : Hid (Rst w w6 g a1 ns c1 X (wd (L.take (k + 1))).length) := by rw [LN2.out]; exact P5.out.step H6.out.1 H6.out.2
               have e2 := (Q5.out.wfr H6.out.2 gq.out).c2
               clear H6))
          go_roundw
          case rel => have hl := HL.out; exact ⟨k + 1, by omega, by go_num, P6.out⟩
          case measure => have hl := HL.out; simp [intOf]; omega
        · rw [if_neg hfit] at NT
          have NN : Hid (nat 9 (X.drop p) 0 0 = (0, 0, false)) := NT
          have hrf : r = false := by rw [hr.out]; have h2 := LE2.out; have h3 := NP.out; simp; omega
          subst hrf
          clear NT hfit hv
          go_wp2_with (first
            | (go_at_call 20; refine (rnum_bad R5 NN E5 (Nat.le_refl _)).mono ?_; rintro e w6 ⟨rfl, H6⟩
               have B6 : Hid (Below w.heap.size w w6) := by obtain ⟨j, hj⟩ := H6.out; rw [hj]; exact below_drewN P5.out.bel j))
          go_ret2
          exact ⟨rfl, B6.out⟩
      · have i1 : ¬ (kd = 1) := h1
        have hnb : nb < 9223372036854775808 := by omega
        have CB : Hid (∀ W', Below w.heap.size w W' → (convert 27 9 (.slice ab nb cb)).run Tryd.prog W' = .ok (.string (spell x.bs)) W') := fun W' hB => conv_n (S0.out.below hB)
        have zz : (nb : Int) ≤ 9223372036854775807 := by omega
        by_cases h2 : kd = 2
        · subst h2
          have EO : Hid (eop x = enc nb ++ x.bs) := by rw [eop2 Hk.out, NB.out]; exact rfl
          have LA3 : Hid (X.drop p = ((enc nb ++ x.bs) ++ wd (L.drop (k + 1))).take (ns - p)) := by rw [← EO.out]; exact LA2.out
          by_cases hfit : (enc nb ++ x.bs).length ≤ ns - p
          · have PT := piece_take LA3.out NB.out hnb hfit
            have NN : Hid (nat 9 (X.drop p) 0 0 = (nb, (enc nb).length, true)) := PT.1
            have PB : Hid ((X.drop (p + (enc nb).length)).take nb = x.bs) := PT.2
            have FF : p + (enc nb).length + nb ≤ ns := by have h3 := NP.out; have h4 := NB.out; rw [List.length_append] at hfit; omega
            have LN3 : Hid ((wd (L.take (k + 1))).length = p + (enc nb).length + nb) := by have h4 := NB.out; show _ = _; rw [LN2.out, EO.out, List.length_append]; omega
            clear PT hfit hnb
            go_upto_region 14 with (first
              | (go_at_call 23; refine (rtext_ok R5 NN (Int.le_refl _) zz FF).mono ?_; rintro e w6 ⟨rfl, H6⟩; rw [PB.out]))
            have P6 : Hid (Rst w w6 g a1 ns c1 X (wd (L.take (k + 1))).length) := by rw [LN3.out]; exact P5.out.step H6.out.1 H6.out.2
            have e4 := (Q5.out.wfr H6.out.2 gq.out).c3
            have CV := CB.out w6 P6.out.bel
            clear H6 e3 zz FF
            go_wp2
            go_roundw
            case rel => have hl := HL.out; exact ⟨k + 1, by omega, by go_num, P6.out⟩
            case measure => have hl := HL.out; simp [intOf]; omega
          · obtain ⟨N, S, ok, h5, h6, h7⟩ := piece_short LA3.out NB.out hnb NP.out hfit
            have NN : Hid (nat 9 (X.drop p) 0 0 = (N, S, ok)) := h5
            have hrf : r = false := by rw [hr.out]; have h2 := LE2.out; have h3 := NP.out; rw [EO.out] at h2; simp; omega
            subst hrf
            clear h5 hnb
            go_upto_region 14 with (first
              | (go_at_call 23; refine (rtext_bad R5 NN h6 zz h7 E5 (Nat.le_refl _)).mono ?_; rintro e w6 ⟨rfl, H6⟩))
            have B6 : Hid (Below w.heap.size w w6) := by obtain ⟨j, hj⟩ := H6.out; rw [hj]; exact below_drewN P5.out.bel j
            clear h6 h7 zz H6
            go_wp2
            go_ret2
            exact ⟨rfl, B6.out⟩
        · have i2 : ¬ (kd = 2) := h2
          by_cases h3 : kd = 3
          · subst h3
            have EO : Hid (eop x = enc nb ++ x.bs) := by rw [eop3 Hk.out, NB.out]; exact rfl
            have LA3 : Hid (X.drop p = ((enc nb ++ x.bs) ++ wd (L.drop (k + 1))).take (ns - p)) := by rw [← EO.out]; exact LA2.out
            by_cases hfit : (enc nb ++ x.bs).length ≤ ns - p
            · have PT := piece_take LA3.out NB.out hnb hfit
              have NN : Hid (nat 9 (X.drop p) 0 0 = (nb, (enc nb).length, true)) := PT.1
              have PB : Hid ((X.drop (p + (enc nb).length)).take nb = x.bs) := PT.2
              have FF : p + (enc nb).length + nb ≤ ns := by have h3 := NP.out; have h4 := NB.out; rw [List.length_append] at hfit; omega
              have LN3 : Hid ((wd (L.take (k + 1))).length = p + (enc nb).length + nb) := by have h4 := NB.out; show _ = _; rw [LN2.out, EO.out, List.length_append]; omega
              clear PT hfit hnb
              go_upto_region 18 with (first
                | (go_at_call 25; refine (rbytes_ok R5 NN (Int.le_refl _) zz FF).mono ?_; rintro e w6 ⟨a6, m6, c6, rfl, H6⟩))
              have P6 : Hid (Rst w w6 g a1 ns c1 X (wd (L.take (k + 1))).length) := by rw [LN3.out]; exact P5.out.step H6.out.2.1 H6.out.2.2.1
              have e4 := (Q5.out.wfr H6.out.2.2.1 gq.out).c3
              have CV := CB.out w6 P6.out.bel
              have CW : (convert 27 9 (.slice a6 m6 c6)).run Tryd.prog w6 = .ok (.string (spell x.bs)) w6 := by
                have h8 := H6.out.2.2.2
                have h9 := H6.out.1
                rw [PB.out] at h9
                exact conv_n (h9.sln (by omega))
              clear H6 e3 zz FF
              go_wp2
              go_roundw
              case rel => have hl := HL.out; exact ⟨k + 1, by omega, by go_num, P6.out⟩
              case measure => have hl := HL.out; simp [intOf]; omega
            · obtain ⟨N, S, ok, h5, h6, h7⟩ := piece_short LA3.out NB.out hnb NP.out hfit
              have NN : Hid (nat 9 (X.drop p) 0 0 = (N, S, ok)) := h5
              have hrf : r = false := by rw [hr.out]; have h2 := LE2.out; have h3 := NP.out; rw [EO.out] at h2; simp; omega
              subst hrf
              clear h5 hnb
              go_upto_region 18 with (first
                | (go_at_call 25; refine (rbytes_bad R5 NN h6 zz h7 E5 (Nat.le_refl _)).mono ?_; rintro e w6 ⟨a6, c6, rfl, H6⟩))
              have B6 : Hid (Below w.heap.size w w6) := Wfr.below P5.out.bel H6.out P5.out.ge (by simp [blkOf]) P5.out.bel.size
              clear h6 h7 zz H6
              go_wp2
              go_ret2
              exact ⟨rfl, B6.out⟩
          · have i3 : ¬ (kd = 3) := h3
            have LN3 : Hid ((wd (L.take (k + 1))).length = p) := by show _ = _; rw [LN2.out, eop0 (by rw [Hk.out]; exact i1) (by rw [Hk.out]; exact i2) (by rw [Hk.out]; exact i3)]; rfl
            have P6 : Hid (Rst w w5 g a1 ns c1 X (wd (L.take (k + 1))).length) := by rw [LN3.out]; exact P5.out
            clear h1 h2 h3
            go_wp2
            go_roundw
            case rel => have hl := HL.out; exact ⟨k + 1, by omega, by go_num, P6.out⟩
            case measure => have hl := HL.out; simp [intOf]; omega
    · have ek : k = L.length := by rw [← hO.out.len]; omega
      have hp : Hid ((wd (L.take k)).length = ns) := by
        have h1 := H4.out.rdr.le
        have h2 := hns.out
        rw [ek, List.take_length] at h1
        show _ = _
        rw [ek, List.take_length]
        omega
      have hrt : r = true := by rw [hr.out]; have h3 := hp.out; rw [ek, List.take_length] at h3; simp; omega
      subst hrt
      have R4 : Hid (Rdr wr.drew g w.heap.size a1 ns c1 X (wd (L.take k)).length) := H4.out.rdr.drewN 1
      have B4 : Hid (Below w.heap.size w wr.drew) := below_drewN H4.out.bel 1
      go_upto_region 21 with (fail)
      go_region_with (go_at_call 26; refine (end_ok R4 hp).mono ?_; rintro e w5 ⟨rfl, H5⟩)
      all_goals
        go_wp2
        go_ret2
        exact ⟨rfl, by obtain ⟨j, hj⟩ := H5.out; rw [hj]; exact below_drewN B4.out j⟩
end Go.Proofs.YtnhnpkedkdefnaaDoor
