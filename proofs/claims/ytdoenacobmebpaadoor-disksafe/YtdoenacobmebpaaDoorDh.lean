/- DiskSafe: of one file: what was synced last is there behind a crash. -/
import Derived.Test.YtdoenacobmebpaaDoorDf
import Derived.Test.YtdoenacobmebpaaDoorVo
namespace Go.Proofs.YtdoenacobmebpaaDoor
open Go.ChangeShapes Go.WideShapes Go.ChangeAt Go.RowKit
set_option maxRecDepth 20000
set_option linter.unusedVariables false
set_option linter.unusedSimpArgs false
/- a drive whose names are all one has at most one file -/
theorem size_one {w : World} {m n : Nat} {D : DataW Unit} (h : w.ownsMap Tryd.prog 9 Rf m n D) (s : ByteArray) (hs : ∀ t, t ≠ s → vw D t = none) : Maps.size D ≤ 1 := by
  obtain ⟨es, e, hk⟩ := h.keysOf
  obtain ⟨es2, e2, hp⟩ := h.tidy klaw
  rw [e] at e2
  cases e2
  subst e
  have one : ∀ p ∈ es, p.1 = kl s := by
    intro p hp1
    obtain ⟨v, hv⟩ := hk p hp1
    obtain ⟨x, _, hx, _⟩ := Maps.keyOf_str Tryd.underlying9 hv
    have h1 : Maps.has (.map es) (kl ⟨x.toArray⟩) = true := by
      rw [Maps.has_eq, List.any_eq_true]
      refine ⟨p, hp1, ?_⟩
      rw [hx]
      simp [kl, Lit.sameKey]
    by_cases h2 : (⟨x.toArray⟩ : ByteArray) = s
    · rw [hx, ← h2]
      simp [kl]
    · have h3 := hs _ h2
      rw [← vw_some, h3] at h1
      cases h1
  rw [Maps.size_eq]
  match es, hp, one with
  | [], _, _ => simp
  | [p], _, _ => simp
  | p :: q :: r, hp, one =>
    exfalso
    have h1 := (List.pairwise_cons.1 hp).1 q (by simp)
    exact h1 ((one p (by simp)).trans (one q (by simp)).symm)
theorem Dv.one {w : World} {d m : Nat} {v : ByteArray → Option Fl} {k : Nat} (h : Dv w d m v k) (s : ByteArray) (hs : ∀ t, t ≠ s → v t = none) : Dv w d m v 1 := by
  obtain ⟨D, h1, h2, h3⟩ := h
  exact ⟨D, h1, h2, size_one h1.own s (fun t ht => (h2 t).trans (hs t ht))⟩
/- the file as the law has it: is it there, is anything kept, what it holds, what is safe -/
def fo (th kp : Bool) (n s : List Nat) : Option Fl := if th = true then some ⟨spell n, if kp = true then spell s else ⟨#[]⟩, kp⟩ else none
structure Sy (w0 w : World) (d m : Nat) (th kp : Bool) (n s : List Nat) : Prop where
  dv : ∃ v, Dv w d m v 1 ∧ (∀ t, t ≠ nF → v t = none) ∧ v nF = fo th kp n s
  imp : kp = true → th = true
  bel : Below w0.heap.size w0 w
  ld : w0.heap.size ≤ d
  lm : w0.heap.size ≤ m
section
variable {w0 w w' : World} {d m : Nat} {th kp : Bool} {n s : List Nat}
theorem Sy.below (h : Sy w0 w d m th kp n s) (hb : Below w.heap.size w w') : Sy w0 w' d m th kp n s := by
  obtain ⟨⟨v, h1, h2, h3⟩, h4, h5, h6, h7⟩ := h
  exact ⟨⟨v, h1.below hb, h2, h3⟩, h4, h5.trans (hb.mono h5.size), h6, h7⟩
theorem Sy.next (h : Sy w0 w d m th kp n s) {v : ByteArray → Option Fl} {k : Nat} {th' kp' : Bool} {n' s' : List Nat} (hv : Dv w' d m v k) (h1 : ∀ t, t ≠ nF → v t = none) (h2 : v nF = fo th' kp' n' s') (h3 : kp' = true → th' = true) (hc : ChD w w' d m) : Sy w0 w' d m th' kp' n' s' :=
  ⟨⟨v, hv.one nF h1, h1, h2⟩, h3, h.bel.trans (hc.below h.ld h.lm h.bel.size), h.ld, h.lm⟩
theorem sy_w {a : Option Addr} {k c : Nat} {l : List Nat} (hq : Hid (Sy w0 w d m th kp n s)) (hS : Hid (Sln w a k l)) : Calls Tryd.prog 13 #[.pointer (some ⟨d, 0, none⟩), .string ⟨#[102]⟩, .slice a k c] w fun e w' => e = .returned .nilIface ∧ Hid (Sy w0 w' d m true kp l s ∧ ChD w w' d m) := by
  obtain ⟨v, h1, h2, h3⟩ := hq.out.dv
  refine (write_v (c := c) (show Hid (Dv w d m v 1) from h1) (show Hid (1 < 512) from by show _ < _; omega) nF hS nm_f).mono ?_
  rintro e w' ⟨rfl, H⟩
  refine ⟨rfl, hq.out.next H.out.1 (fun t ht => by rw [upd_other _ _ ht]; exact h2 t ht) ?_ (fun _ => rfl) H.out.2, H.out.2⟩
  rw [upd_same, h3]
  have him := hq.out.imp
  cases th with
  | true => simp [fo]
  | false =>
    cases kp with
    | true => cases him rfl
    | false => rfl
theorem sy_s1 (hq : Hid (Sy w0 w d m true kp n s)) : Calls Tryd.prog 14 #[.pointer (some ⟨d, 0, none⟩), .string ⟨#[102]⟩] w fun e w' => e = .returned .nilIface ∧ Hid (Sy w0 w' d m true true n n) := by
  obtain ⟨v, h1, h2, h3⟩ := hq.out.dv
  refine (sync_v (show Hid (Dv w d m v 1) from h1) nF ⟨spell n, if kp = true then spell s else ⟨#[]⟩, kp⟩ nm_f h3).mono ?_
  rintro e w' ⟨rfl, H⟩
  exact ⟨rfl, hq.out.next H.out.1 (fun t ht => by rw [upd_other _ _ ht]; exact h2 t ht) (by rw [upd_same]; rfl) (fun _ => rfl) H.out.2⟩
theorem sy_s0 {E : Nat → Addr} (hE : Hid (Er w0 E)) (hq : Hid (Sy w0 w d m false kp n s)) : Calls Tryd.prog 14 #[.pointer (some ⟨d, 0, none⟩), .string ⟨#[102]⟩] w fun e w' => e = .returned (er (E 8)) ∧ Hid (Sy w0 w' d m false kp n s) := by
  obtain ⟨v, h1, h2, h3⟩ := hq.out.dv
  refine (sync_gone_v (show Hid (Dv w d m v 1) from h1) nF (show Hid (Er w E) from hE.out.below hq.out.bel) nm_f h3).mono ?_
  rintro e w' ⟨rfl, H⟩
  exact ⟨rfl, hq.out.next H.out.1 h2 h3 hq.out.imp H.out.2⟩
theorem sy_d1 (hq : Hid (Sy w0 w d m true kp n s)) : Calls Tryd.prog 15 #[.pointer (some ⟨d, 0, none⟩), .string ⟨#[102]⟩] w fun e w' => e = .returned .nilIface ∧ Hid (Sy w0 w' d m false false n s) := by
  obtain ⟨v, h1, h2, h3⟩ := hq.out.dv
  refine (delete_v (show Hid (Dv w d m v 1) from h1) nF ⟨spell n, if kp = true then spell s else ⟨#[]⟩, kp⟩ nm_f h3).mono ?_
  rintro e w' ⟨rfl, H⟩
  exact ⟨rfl, hq.out.next H.out.1 (fun t ht => by rw [upd_other _ _ ht]; exact h2 t ht) (by rw [upd_same]; rfl) (fun h => by cases h) H.out.2⟩
theorem sy_d0 {E : Nat → Addr} (hE : Hid (Er w0 E)) (hq : Hid (Sy w0 w d m false kp n s)) : Calls Tryd.prog 15 #[.pointer (some ⟨d, 0, none⟩), .string ⟨#[102]⟩] w fun e w' => e = .returned (er (E 8)) ∧ Hid (Sy w0 w' d m false false n s) := by
  obtain ⟨v, h1, h2, h3⟩ := hq.out.dv
  refine (delete_gone_v (show Hid (Dv w d m v 1) from h1) nF (show Hid (Er w E) from hE.out.below hq.out.bel) nm_f h3).mono ?_
  rintro e w' ⟨rfl, H⟩
  exact ⟨rfl, hq.out.next H.out.1 h2 h3 (fun h => by cases h) H.out.2⟩
theorem sy_c (hq : Hid (Sy w0 w d m th kp n s)) : Calls Tryd.prog 11 #[.pointer (some ⟨d, 0, none⟩)] w fun e w' => e = .returned (.tuple #[]) ∧ Hid (Sy w0 w' d m kp kp s s) := by
  obtain ⟨v, h1, h2, h3⟩ := hq.out.dv
  refine (crash_v (show Hid (Dv w d m v 1) from h1)).mono ?_
  rintro e w' ⟨rfl, H⟩
  refine ⟨rfl, hq.out.next H.out.1 (fun t ht => by rw [h2 t ht]; rfl) ?_ (fun h => h) H.out.2⟩
  rw [h3]
  have him := hq.out.imp
  cases kp with
  | true => cases him rfl; rfl
  | false => cases th <;> rfl
theorem sy_r1 (hq : Hid (Sy w0 w d m true true s s)) (hb : Hid (s.length ≤ 140737488352256)) : Calls Tryd.prog 16 #[.pointer (some ⟨d, 0, none⟩), .string ⟨#[102]⟩] w fun e w' => ∃ g k' c, e = .returned (.tuple #[.slice (some ⟨g, 0, none⟩) k' c, .nilIface]) ∧ Hid (Sln w' (some ⟨g, 0, none⟩) k' (bytesOf (spell s)) ∧ Below w0.heap.size w0 w') := by
  obtain ⟨v, h1, h2, h3⟩ := hq.out.dv
  refine (read_v (show Hid (Dv w d m v 1) from h1) nF ⟨spell s, spell s, true⟩ nm_f h3 (by rw [spell_size]; exact hb.out)).mono ?_
  rintro e w' ⟨g, k', c, rfl, H⟩
  exact ⟨g, k', c, rfl, H.out.1, hq.out.bel.trans (H.out.2.1.mono hq.out.bel.size)⟩
theorem sy_r0 {E : Nat → Addr} (hE : Hid (Er w0 E)) (hq : Hid (Sy w0 w d m false kp n s)) : Calls Tryd.prog 16 #[.pointer (some ⟨d, 0, none⟩), .string ⟨#[102]⟩] w fun e w' => e = .returned (.tuple #[.slice none 0 0, er (E 8)]) ∧ Hid (Below w0.heap.size w0 w') := by
  obtain ⟨v, h1, h2, h3⟩ := hq.out.dv
  refine (read_gone_v (show Hid (Dv w d m v 1) from h1) nF (show Hid (Er w E) from hE.out.below hq.out.bel) nm_f h3).mono ?_
  rintro e w' ⟨rfl, H⟩
  exact ⟨rfl, hq.out.bel.trans (H.out.1.mono hq.out.bel.size)⟩
end
theorem nil_sln (w : World) : Sln w none 0 [] := ⟨rfl, by simp, by simp, .inl rfl⟩
set_option maxHeartbeats 8000000 in
theorem safe_n {w : World} {E : Nat → Addr} {a : Option Addr} {n c : Nat} {L : List Opt} {x : Int} (hO : Hid (Ops w a n L)) (hn : n ≤ 140737488351232) (hE : Hid (Er w E)) :
    Calls Tryd.prog 4 #[.slice a n c, .int .i64 x] w fun e w' => e = .returned (.bool true) ∧ Hid (Below w.heap.size w w') := by
  go_enter Tryd.func4, Tryd.ntmps4
  go_wp2_with (first
    | (go_at_call 7; refine (alive_n hE).mono ?_; rintro e w1 ⟨rfl, H1⟩)
    | (go_at_call 8; refine (new_v _).mono ?_; rintro e w2 ⟨d, m, rfl, H2⟩
       have Q2 : Hid (Sy w w2 d m false false [] []) := by
         have b2 : Below w.heap.size w w2 := H1.out.trans (H2.out.2.2.2.mono H1.out.size)
         have h1 := H1.out.size
         exact ⟨⟨_, H2.out.1.one nF (fun t _ => rfl), fun t _ => rfl, rfl⟩, (fun h => by cases h), b2, by have := H2.out.2.1; omega, by have := H2.out.2.2.1; omega⟩
       clear H1 H2))
  have R0 : Hid (Sln w none 0 [] ∧ Sln w none 0 [] ∧ Sy w w2 d m false false [] []) := ⟨nil_sln w, nil_sln w, Q2.out⟩
  clear Q2
  go_loopw [6, 7, 8, 9, 21] (fun t6 t7 t8 t9 ti wr => ∃ (i : Nat) (th kp : Bool) (an : Option Addr) (nn cn : Nat) (nL : List Nat) (az : Option Addr) (ns cs : Nat) (sL : List Nat), i ≤ n ∧ ti = .int .i64 i ∧ t7 = .bool kp ∧ t8 = .bool th ∧ t9 = .slice an nn cn ∧ t6 = .slice az ns cs ∧ Hid (Sln w an nn nL ∧ Sln w az ns sL ∧ Sy w wr d m th kp nL sL)) (fun _ _ _ _ ti _ => n - (intOf ti).toNat)
  case atStart => exact ⟨0, false, false, none, 0, 0, [], none, 0, 0, [], by omega, rfl, rfl, rfl, rfl, rfl, R0.out⟩
  case round =>
    obtain ⟨i, th, kp, an, nn, cn, nL, az, ns, cs, sL, hi, rfl, rfl, rfl, rfl, rfl, HI⟩ := hrel
    clear R0
    by_cases hlt : i < n
    · obtain ⟨b, o, rfl, hb, hrow⟩ := hO.out.row.resolve_left (by omega)
      obtain ⟨a', n', c', hop⟩ := hrow i hlt
      have BL : Below w.heap.size w wr := HI.out.2.2.bel
      obtain ⟨y, Hy⟩ : ∃ y, Hid (L.getD i o0 = y) := ⟨_, rfl⟩
      rw [Hy.out] at hop
      obtain ⟨kd, wh, nu, nam, too, bs⟩ := y
      have OP := hop.below BL
      have c0 : wr.cell? ⟨b, o + i * 6, none⟩ = some (.int .i64 kd) := OP.c0
      have c1 : wr.cell? ⟨b, o + i * 6 + 1, none⟩ = some (.int .i64 wh) := OP.c1
      have c2 : wr.cell? ⟨b, o + i * 6 + 2, none⟩ = some (.int .i64 nu) := OP.c2
      have c3 : wr.cell? ⟨b, o + i * 6 + 3, none⟩ = some (.string nam) := OP.c3
      have c4 : wr.cell? ⟨b, o + i * 6 + 4, none⟩ = some (.string too) := OP.c4
      have c5 : wr.cell? ⟨b, o + i * 6 + 5, none⟩ = some (.slice a' n' c') := OP.c5
      have SB : Hid (Sln w a' n' bs) := hop.sl
      have SX : ∀ ob, Hid (Sln (wr.alloc ob) a' n' bs) := fun ob => SB.out.below (BL.trans ((alloc1 wr ob).mono BL.size))
      have SN : Hid (Sln w an nn nL) := HI.out.1
      have SS : Hid (Sln w az ns sL) := HI.out.2.1
      have IMP : Hid (kp = true → th = true) := HI.out.2.2.imp
      have i2 : (i : Int) < (n : Int) := by omega
      have QW : Hid (Sy w wr d m th kp nL sL) := HI.out.2.2
      obtain ⟨q, Hq⟩ : ∃ q, ((i : Int) == x) = q := ⟨_, rfl⟩
      have DL : Hid (d < wr.heap.size ∧ m < wr.heap.size) := by
        obtain ⟨v, h1, _⟩ := QW.out.dv
        exact h1.lt
      clear hop OP HI hrow BL hb
      cases kp with
      | true =>
        obtain rfl : th = true := IMP.out rfl
        have QX : ∀ ob, Hid (Sy w (wr.alloc ob) d m true true nL sL) := fun ob => QW.out.below (alloc1 wr ob)
        by_cases k1 : kd = 1
        · subst k1
          cases q
          all_goals
            go_wp2_with (first
              | (go_at_call 13; refine (sy_w (QX _) (SX _)).mono ?_; rintro e w3 ⟨rfl, H3x⟩
                 have H3 : Hid (Sy w w3 d m true _ bs sL) := H3x.out.1
                 have q5 : w3.cell? ⟨wr.heap.size, 5, none⟩ = some (.slice a' n' c') := (World.cell?_of_block (a := ⟨wr.heap.size, 5, none⟩) (H3x.out.2.block wr.heap.size (by simp) (by have := DL.out; omega) (by have := DL.out; omega))).trans (by simp)
                 clear H3x)
              | (go_at_call 14; refine (sy_s1 (QX _)).mono ?_; rintro e w3 ⟨rfl, H3⟩)
              | (go_at_call 14; refine (sy_s0 hE (QX _)).mono ?_; rintro e w3 ⟨rfl, H3⟩)
              | (go_at_call 15; refine (sy_d1 (QX _)).mono ?_; rintro e w3 ⟨rfl, H3⟩)
              | (go_at_call 15; refine (sy_d0 hE (QX _)).mono ?_; rintro e w3 ⟨rfl, H3⟩)
              | (go_at_call 11; refine (sy_c H3).mono ?_; rintro e w4 ⟨rfl, H4⟩)
              | (go_at_call 11; refine (sy_c (QX _)).mono ?_; rintro e w4 ⟨rfl, H4⟩))
            go_roundw
            case rel => exact ⟨i + 1, _, _, _, _, _, _, _, _, _, _, by omega, by go_num, rfl, rfl, rfl, rfl, by first | exact SB.out | exact SN.out | exact SS.out, by first | exact SN.out | exact SS.out, by first | exact H4.out | exact H3.out | exact (QX _).out⟩
            case measure => simp [intOf]; omega
        · by_cases k2 : kd = 2
          · subst k2
            cases q
            all_goals
              go_wp2_with (first
                | (go_at_call 13; refine (sy_w (QX _) (SX _)).mono ?_; rintro e w3 ⟨rfl, H3x⟩
                   have H3 : Hid (Sy w w3 d m true _ bs sL) := H3x.out.1
                   have q5 : w3.cell? ⟨wr.heap.size, 5, none⟩ = some (.slice a' n' c') := (World.cell?_of_block (a := ⟨wr.heap.size, 5, none⟩) (H3x.out.2.block wr.heap.size (by simp) (by have := DL.out; omega) (by have := DL.out; omega))).trans (by simp)
                   clear H3x)
                | (go_at_call 14; refine (sy_s1 (QX _)).mono ?_; rintro e w3 ⟨rfl, H3⟩)
                | (go_at_call 14; refine (sy_s0 hE (QX _)).mono ?_; rintro e w3 ⟨rfl, H3⟩)
                | (go_at_call 15; refine (sy_d1 (QX _)).mono ?_; rintro e w3 ⟨rfl, H3⟩)
                | (go_at_call 15; refine (sy_d0 hE (QX _)).mono ?_; rintro e w3 ⟨rfl, H3⟩)
                | (go_at_call 11; refine (sy_c H3).mono ?_; rintro e w4 ⟨rfl, H4⟩)
                | (go_at_call 11; refine (sy_c (QX _)).mono ?_; rintro e w4 ⟨rfl, H4⟩))
              go_roundw
              case rel => exact ⟨i + 1, _, _, _, _, _, _, _, _, _, _, by omega, by go_num, rfl, rfl, rfl, rfl, by first | exact SB.out | exact SN.out | exact SS.out, by first | exact SN.out | exact SS.out, by first | exact H4.out | exact H3.out | exact (QX _).out⟩
              case measure => simp [intOf]; omega
          · by_cases k4 : kd = 4
            · subst k4
              cases q
              all_goals
                go_wp2_with (first
                  | (go_at_call 13; refine (sy_w (QX _) (SX _)).mono ?_; rintro e w3 ⟨rfl, H3x⟩
                     have H3 : Hid (Sy w w3 d m true _ bs sL) := H3x.out.1
                     have q5 : w3.cell? ⟨wr.heap.size, 5, none⟩ = some (.slice a' n' c') := (World.cell?_of_block (a := ⟨wr.heap.size, 5, none⟩) (H3x.out.2.block wr.heap.size (by simp) (by have := DL.out; omega) (by have := DL.out; omega))).trans (by simp)
                     clear H3x)
                  | (go_at_call 14; refine (sy_s1 (QX _)).mono ?_; rintro e w3 ⟨rfl, H3⟩)
                  | (go_at_call 14; refine (sy_s0 hE (QX _)).mono ?_; rintro e w3 ⟨rfl, H3⟩)
                  | (go_at_call 15; refine (sy_d1 (QX _)).mono ?_; rintro e w3 ⟨rfl, H3⟩)
                  | (go_at_call 15; refine (sy_d0 hE (QX _)).mono ?_; rintro e w3 ⟨rfl, H3⟩)
                  | (go_at_call 11; refine (sy_c H3).mono ?_; rintro e w4 ⟨rfl, H4⟩)
                  | (go_at_call 11; refine (sy_c (QX _)).mono ?_; rintro e w4 ⟨rfl, H4⟩))
                go_roundw
                case rel => exact ⟨i + 1, _, _, _, _, _, _, _, _, _, _, by omega, by go_num, rfl, rfl, rfl, rfl, by first | exact SB.out | exact SN.out | exact SS.out, by first | exact SN.out | exact SS.out, by first | exact H4.out | exact H3.out | exact (QX _).out⟩
                case measure => simp [intOf]; omega
            · cases q
              all_goals
                go_wp2_with (first
                  | (go_at_call 13; refine (sy_w (QX _) (SX _)).mono ?_; rintro e w3 ⟨rfl, H3x⟩
                     have H3 : Hid (Sy w w3 d m true _ bs sL) := H3x.out.1
                     have q5 : w3.cell? ⟨wr.heap.size, 5, none⟩ = some (.slice a' n' c') := (World.cell?_of_block (a := ⟨wr.heap.size, 5, none⟩) (H3x.out.2.block wr.heap.size (by simp) (by have := DL.out; omega) (by have := DL.out; omega))).trans (by simp)
                     clear H3x)
                  | (go_at_call 14; refine (sy_s1 (QX _)).mono ?_; rintro e w3 ⟨rfl, H3⟩)
                  | (go_at_call 14; refine (sy_s0 hE (QX _)).mono ?_; rintro e w3 ⟨rfl, H3⟩)
                  | (go_at_call 15; refine (sy_d1 (QX _)).mono ?_; rintro e w3 ⟨rfl, H3⟩)
                  | (go_at_call 15; refine (sy_d0 hE (QX _)).mono ?_; rintro e w3 ⟨rfl, H3⟩)
                  | (go_at_call 11; refine (sy_c H3).mono ?_; rintro e w4 ⟨rfl, H4⟩)
                  | (go_at_call 11; refine (sy_c (QX _)).mono ?_; rintro e w4 ⟨rfl, H4⟩))
                go_roundw
                case rel => exact ⟨i + 1, _, _, _, _, _, _, _, _, _, _, by omega, by go_num, rfl, rfl, rfl, rfl, by first | exact SB.out | exact SN.out | exact SS.out, by first | exact SN.out | exact SS.out, by first | exact H4.out | exact H3.out | exact (QX _).out⟩
                case measure => simp [intOf]; omega
      | false =>
        cases th with
        | true =>
          have QX : ∀ ob, Hid (Sy w (wr.alloc ob) d m true false nL sL) := fun ob => QW.out.below (alloc1 wr ob)
          by_cases k1 : kd = 1
          · subst k1
            cases q
            all_goals
              go_wp2_with (first
                | (go_at_call 13; refine (sy_w (QX _) (SX _)).mono ?_; rintro e w3 ⟨rfl, H3x⟩
                   have H3 : Hid (Sy w w3 d m true _ bs sL) := H3x.out.1
                   have q5 : w3.cell? ⟨wr.heap.size, 5, none⟩ = some (.slice a' n' c') := (World.cell?_of_block (a := ⟨wr.heap.size, 5, none⟩) (H3x.out.2.block wr.heap.size (by simp) (by have := DL.out; omega) (by have := DL.out; omega))).trans (by simp)
                   clear H3x)
                | (go_at_call 14; refine (sy_s1 (QX _)).mono ?_; rintro e w3 ⟨rfl, H3⟩)
                | (go_at_call 14; refine (sy_s0 hE (QX _)).mono ?_; rintro e w3 ⟨rfl, H3⟩)
                | (go_at_call 15; refine (sy_d1 (QX _)).mono ?_; rintro e w3 ⟨rfl, H3⟩)
                | (go_at_call 15; refine (sy_d0 hE (QX _)).mono ?_; rintro e w3 ⟨rfl, H3⟩)
                | (go_at_call 11; refine (sy_c H3).mono ?_; rintro e w4 ⟨rfl, H4⟩)
                | (go_at_call 11; refine (sy_c (QX _)).mono ?_; rintro e w4 ⟨rfl, H4⟩))
              go_roundw
              case rel => exact ⟨i + 1, _, _, _, _, _, _, _, _, _, _, by omega, by go_num, rfl, rfl, rfl, rfl, by first | exact SB.out | exact SN.out | exact SS.out, by first | exact SN.out | exact SS.out, by first | exact H4.out | exact H3.out | exact (QX _).out⟩
              case measure => simp [intOf]; omega
          · by_cases k2 : kd = 2
            · subst k2
              cases q
              all_goals
                go_wp2_with (first
                  | (go_at_call 13; refine (sy_w (QX _) (SX _)).mono ?_; rintro e w3 ⟨rfl, H3x⟩
                     have H3 : Hid (Sy w w3 d m true _ bs sL) := H3x.out.1
                     have q5 : w3.cell? ⟨wr.heap.size, 5, none⟩ = some (.slice a' n' c') := (World.cell?_of_block (a := ⟨wr.heap.size, 5, none⟩) (H3x.out.2.block wr.heap.size (by simp) (by have := DL.out; omega) (by have := DL.out; omega))).trans (by simp)
                     clear H3x)
                  | (go_at_call 14; refine (sy_s1 (QX _)).mono ?_; rintro e w3 ⟨rfl, H3⟩)
                  | (go_at_call 14; refine (sy_s0 hE (QX _)).mono ?_; rintro e w3 ⟨rfl, H3⟩)
                  | (go_at_call 15; refine (sy_d1 (QX _)).mono ?_; rintro e w3 ⟨rfl, H3⟩)
                  | (go_at_call 15; refine (sy_d0 hE (QX _)).mono ?_; rintro e w3 ⟨rfl, H3⟩)
                  | (go_at_call 11; refine (sy_c H3).mono ?_; rintro e w4 ⟨rfl, H4⟩)
                  | (go_at_call 11; refine (sy_c (QX _)).mono ?_; rintro e w4 ⟨rfl, H4⟩))
                go_roundw
                case rel => exact ⟨i + 1, _, _, _, _, _, _, _, _, _, _, by omega, by go_num, rfl, rfl, rfl, rfl, by first | exact SB.out | exact SN.out | exact SS.out, by first | exact SN.out | exact SS.out, by first | exact H4.out | exact H3.out | exact (QX _).out⟩
                case measure => simp [intOf]; omega
            · by_cases k4 : kd = 4
              · subst k4
                cases q
                all_goals
                  go_wp2_with (first
                    | (go_at_call 13; refine (sy_w (QX _) (SX _)).mono ?_; rintro e w3 ⟨rfl, H3x⟩
                       have H3 : Hid (Sy w w3 d m true _ bs sL) := H3x.out.1
                       have q5 : w3.cell? ⟨wr.heap.size, 5, none⟩ = some (.slice a' n' c') := (World.cell?_of_block (a := ⟨wr.heap.size, 5, none⟩) (H3x.out.2.block wr.heap.size (by simp) (by have := DL.out; omega) (by have := DL.out; omega))).trans (by simp)
                       clear H3x)
                    | (go_at_call 14; refine (sy_s1 (QX _)).mono ?_; rintro e w3 ⟨rfl, H3⟩)
                    | (go_at_call 14; refine (sy_s0 hE (QX _)).mono ?_; rintro e w3 ⟨rfl, H3⟩)
                    | (go_at_call 15; refine (sy_d1 (QX _)).mono ?_; rintro e w3 ⟨rfl, H3⟩)
                    | (go_at_call 15; refine (sy_d0 hE (QX _)).mono ?_; rintro e w3 ⟨rfl, H3⟩)
                    | (go_at_call 11; refine (sy_c H3).mono ?_; rintro e w4 ⟨rfl, H4⟩)
                    | (go_at_call 11; refine (sy_c (QX _)).mono ?_; rintro e w4 ⟨rfl, H4⟩))
                  go_roundw
                  case rel => exact ⟨i + 1, _, _, _, _, _, _, _, _, _, _, by omega, by go_num, rfl, rfl, rfl, rfl, by first | exact SB.out | exact SN.out | exact SS.out, by first | exact SN.out | exact SS.out, by first | exact H4.out | exact H3.out | exact (QX _).out⟩
                  case measure => simp [intOf]; omega
              · cases q
                all_goals
                  go_wp2_with (first
                    | (go_at_call 13; refine (sy_w (QX _) (SX _)).mono ?_; rintro e w3 ⟨rfl, H3x⟩
                       have H3 : Hid (Sy w w3 d m true _ bs sL) := H3x.out.1
                       have q5 : w3.cell? ⟨wr.heap.size, 5, none⟩ = some (.slice a' n' c') := (World.cell?_of_block (a := ⟨wr.heap.size, 5, none⟩) (H3x.out.2.block wr.heap.size (by simp) (by have := DL.out; omega) (by have := DL.out; omega))).trans (by simp)
                       clear H3x)
                    | (go_at_call 14; refine (sy_s1 (QX _)).mono ?_; rintro e w3 ⟨rfl, H3⟩)
                    | (go_at_call 14; refine (sy_s0 hE (QX _)).mono ?_; rintro e w3 ⟨rfl, H3⟩)
                    | (go_at_call 15; refine (sy_d1 (QX _)).mono ?_; rintro e w3 ⟨rfl, H3⟩)
                    | (go_at_call 15; refine (sy_d0 hE (QX _)).mono ?_; rintro e w3 ⟨rfl, H3⟩)
                    | (go_at_call 11; refine (sy_c H3).mono ?_; rintro e w4 ⟨rfl, H4⟩)
                    | (go_at_call 11; refine (sy_c (QX _)).mono ?_; rintro e w4 ⟨rfl, H4⟩))
                  go_roundw
                  case rel => exact ⟨i + 1, _, _, _, _, _, _, _, _, _, _, by omega, by go_num, rfl, rfl, rfl, rfl, by first | exact SB.out | exact SN.out | exact SS.out, by first | exact SN.out | exact SS.out, by first | exact H4.out | exact H3.out | exact (QX _).out⟩
                  case measure => simp [intOf]; omega
        | false =>
          have QX : ∀ ob, Hid (Sy w (wr.alloc ob) d m false false nL sL) := fun ob => QW.out.below (alloc1 wr ob)
          by_cases k1 : kd = 1
          · subst k1
            cases q
            all_goals
              go_wp2_with (first
                | (go_at_call 13; refine (sy_w (QX _) (SX _)).mono ?_; rintro e w3 ⟨rfl, H3x⟩
                   have H3 : Hid (Sy w w3 d m true _ bs sL) := H3x.out.1
                   have q5 : w3.cell? ⟨wr.heap.size, 5, none⟩ = some (.slice a' n' c') := (World.cell?_of_block (a := ⟨wr.heap.size, 5, none⟩) (H3x.out.2.block wr.heap.size (by simp) (by have := DL.out; omega) (by have := DL.out; omega))).trans (by simp)
                   clear H3x)
                | (go_at_call 14; refine (sy_s1 (QX _)).mono ?_; rintro e w3 ⟨rfl, H3⟩)
                | (go_at_call 14; refine (sy_s0 hE (QX _)).mono ?_; rintro e w3 ⟨rfl, H3⟩)
                | (go_at_call 15; refine (sy_d1 (QX _)).mono ?_; rintro e w3 ⟨rfl, H3⟩)
                | (go_at_call 15; refine (sy_d0 hE (QX _)).mono ?_; rintro e w3 ⟨rfl, H3⟩)
                | (go_at_call 11; refine (sy_c H3).mono ?_; rintro e w4 ⟨rfl, H4⟩)
                | (go_at_call 11; refine (sy_c (QX _)).mono ?_; rintro e w4 ⟨rfl, H4⟩))
              go_roundw
              case rel => exact ⟨i + 1, _, _, _, _, _, _, _, _, _, _, by omega, by go_num, rfl, rfl, rfl, rfl, by first | exact SB.out | exact SN.out | exact SS.out, by first | exact SN.out | exact SS.out, by first | exact H4.out | exact H3.out | exact (QX _).out⟩
              case measure => simp [intOf]; omega
          · by_cases k2 : kd = 2
            · subst k2
              cases q
              all_goals
                go_wp2_with (first
                  | (go_at_call 13; refine (sy_w (QX _) (SX _)).mono ?_; rintro e w3 ⟨rfl, H3x⟩
                     have H3 : Hid (Sy w w3 d m true _ bs sL) := H3x.out.1
                     have q5 : w3.cell? ⟨wr.heap.size, 5, none⟩ = some (.slice a' n' c') := (World.cell?_of_block (a := ⟨wr.heap.size, 5, none⟩) (H3x.out.2.block wr.heap.size (by simp) (by have := DL.out; omega) (by have := DL.out; omega))).trans (by simp)
                     clear H3x)
                  | (go_at_call 14; refine (sy_s1 (QX _)).mono ?_; rintro e w3 ⟨rfl, H3⟩)
                  | (go_at_call 14; refine (sy_s0 hE (QX _)).mono ?_; rintro e w3 ⟨rfl, H3⟩)
                  | (go_at_call 15; refine (sy_d1 (QX _)).mono ?_; rintro e w3 ⟨rfl, H3⟩)
                  | (go_at_call 15; refine (sy_d0 hE (QX _)).mono ?_; rintro e w3 ⟨rfl, H3⟩)
                  | (go_at_call 11; refine (sy_c H3).mono ?_; rintro e w4 ⟨rfl, H4⟩)
                  | (go_at_call 11; refine (sy_c (QX _)).mono ?_; rintro e w4 ⟨rfl, H4⟩))
                go_roundw
                case rel => exact ⟨i + 1, _, _, _, _, _, _, _, _, _, _, by omega, by go_num, rfl, rfl, rfl, rfl, by first | exact SB.out | exact SN.out | exact SS.out, by first | exact SN.out | exact SS.out, by first | exact H4.out | exact H3.out | exact (QX _).out⟩
                case measure => simp [intOf]; omega
            · by_cases k4 : kd = 4
              · subst k4
                cases q
                all_goals
                  go_wp2_with (first
                    | (go_at_call 13; refine (sy_w (QX _) (SX _)).mono ?_; rintro e w3 ⟨rfl, H3x⟩
                       have H3 : Hid (Sy w w3 d m true _ bs sL) := H3x.out.1
                       have q5 : w3.cell? ⟨wr.heap.size, 5, none⟩ = some (.slice a' n' c') := (World.cell?_of_block (a := ⟨wr.heap.size, 5, none⟩) (H3x.out.2.block wr.heap.size (by simp) (by have := DL.out; omega) (by have := DL.out; omega))).trans (by simp)
                       clear H3x)
                    | (go_at_call 14; refine (sy_s1 (QX _)).mono ?_; rintro e w3 ⟨rfl, H3⟩)
                    | (go_at_call 14; refine (sy_s0 hE (QX _)).mono ?_; rintro e w3 ⟨rfl, H3⟩)
                    | (go_at_call 15; refine (sy_d1 (QX _)).mono ?_; rintro e w3 ⟨rfl, H3⟩)
                    | (go_at_call 15; refine (sy_d0 hE (QX _)).mono ?_; rintro e w3 ⟨rfl, H3⟩)
                    | (go_at_call 11; refine (sy_c H3).mono ?_; rintro e w4 ⟨rfl, H4⟩)
                    | (go_at_call 11; refine (sy_c (QX _)).mono ?_; rintro e w4 ⟨rfl, H4⟩))
                  go_roundw
                  case rel => exact ⟨i + 1, _, _, _, _, _, _, _, _, _, _, by omega, by go_num, rfl, rfl, rfl, rfl, by first | exact SB.out | exact SN.out | exact SS.out, by first | exact SN.out | exact SS.out, by first | exact H4.out | exact H3.out | exact (QX _).out⟩
                  case measure => simp [intOf]; omega
              · cases q
                all_goals
                  go_wp2_with (first
                    | (go_at_call 13; refine (sy_w (QX _) (SX _)).mono ?_; rintro e w3 ⟨rfl, H3x⟩
                       have H3 : Hid (Sy w w3 d m true _ bs sL) := H3x.out.1
                       have q5 : w3.cell? ⟨wr.heap.size, 5, none⟩ = some (.slice a' n' c') := (World.cell?_of_block (a := ⟨wr.heap.size, 5, none⟩) (H3x.out.2.block wr.heap.size (by simp) (by have := DL.out; omega) (by have := DL.out; omega))).trans (by simp)
                       clear H3x)
                    | (go_at_call 14; refine (sy_s1 (QX _)).mono ?_; rintro e w3 ⟨rfl, H3⟩)
                    | (go_at_call 14; refine (sy_s0 hE (QX _)).mono ?_; rintro e w3 ⟨rfl, H3⟩)
                    | (go_at_call 15; refine (sy_d1 (QX _)).mono ?_; rintro e w3 ⟨rfl, H3⟩)
                    | (go_at_call 15; refine (sy_d0 hE (QX _)).mono ?_; rintro e w3 ⟨rfl, H3⟩)
                    | (go_at_call 11; refine (sy_c H3).mono ?_; rintro e w4 ⟨rfl, H4⟩)
                    | (go_at_call 11; refine (sy_c (QX _)).mono ?_; rintro e w4 ⟨rfl, H4⟩))
                  go_roundw
                  case rel => exact ⟨i + 1, _, _, _, _, _, _, _, _, _, _, by omega, by go_num, rfl, rfl, rfl, rfl, by first | exact SB.out | exact SN.out | exact SS.out, by first | exact SN.out | exact SS.out, by first | exact H4.out | exact H3.out | exact (QX _).out⟩
                  case measure => simp [intOf]; omega
    · have hin : ¬ ((i : Int) < (n : Int)) := by omega
      have SS : Hid (Sln w az ns sL) := HI.out.2.1
      have QI : Hid (Sy w wr d m th kp nL sL) := HI.out.2.2
      have bS : Hid (sL.length ≤ 140737488352256) := SS.out.sli.2.1
      have IMP : Hid (kp = true → th = true) := QI.out.imp
      clear HI
      cases kp with
      | false =>
        cases th
        all_goals
          go_wp2_with (first
            | (go_at_call 11; refine (sy_c QI).mono ?_; rintro e wc ⟨rfl, HC⟩)
            | (go_at_call 16; refine (sy_r0 hE HC).mono ?_; rintro e wz ⟨rfl, HZ⟩))
          go_ret
          exact ⟨rfl, HZ.out⟩
      | true =>
        obtain rfl : th = true := IMP.out rfl
        go_wp2_with (first
          | (go_at_call 11; refine (sy_c QI).mono ?_; rintro e wc ⟨rfl, HC⟩)
          | (go_at_call 16; refine (sy_r1 HC bS).mono ?_; rintro e wz ⟨g, k', cz, rfl, HZ⟩
             have CV1 : (convert 32 9 (.slice (some ⟨g, 0, none⟩) k' cz)).run Tryd.prog wz = .ok (.string (spell sL)) wz := by
               have h := conv_n (k := cz) (show Hid (Sln wz (some ⟨g, 0, none⟩) k' (bytesOf (spell sL))) from HZ.out.1)
               rw [spell_bytesOf] at h
               exact h
             have CV2 : (convert 32 9 (.slice az ns cs)).run Tryd.prog wz = .ok (.string (spell sL)) wz := conv_n (k := cs) (show Hid (Sln wz az ns sL) from SS.out.below HZ.out.2)
             have BE : ((spell sL).toList == (spell sL).toList) = true := by simp))
        go_ret
        exact ⟨rfl, HZ.out.2⟩
end Go.Proofs.YtdoenacobmebpaaDoor
