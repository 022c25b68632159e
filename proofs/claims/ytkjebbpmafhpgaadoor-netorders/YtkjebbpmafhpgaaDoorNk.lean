/- NetOrders: the law's own walk. -/
import Derived.Test.YtkjebbpmafhpgaaDoorNj
namespace Go.Proofs.YtkjebbpmafhpgaaDoor
open Go.ChangeShapes Go.WideShapes Go.ChangeAt Go.RowKit
set_option maxRecDepth 20000
set_option linter.unusedVariables false
set_option linter.unusedSimpArgs false
theorem pl_del {k : Int} {X : List Lt} {p : Nat} : (X.eraseIdx p).map Lt.no = (X.take p).map Lt.no ++ (X.drop (p + 1)).map Lt.no := by
  rw [List.eraseIdx_eq_take_drop_succ, List.map_append]
theorem mapno_get {X : List Lt} {i : Nat} {x : Lt} (h : X[i]? = some x) : (X.map Lt.no).getD i 0 = x.no := by
  simp [List.getD, h]
set_option maxHeartbeats 16000000 in
theorem orders_n {w : World} {E : Nat → Addr} {a0 : Option Addr} {n c0 : Nat} {L : List Opt} (hO : Hid (Ops w a0 n L)) (hn : n ≤ 140737488351232) (hE : Hid (Sent w 3 E)) :
    Calls Tryd.prog 5 #[.slice a0 n c0] w fun e w' => e = .returned (.bool true) ∧ Hid (Below w.heap.size w w') := by
  go_enter Tryd.func5, Tryd.ntmps5
  go_upto_region 6 with (first
    | (go_at_call 6; refine (alive_n hE (by omega)).mono ?_; rintro e w1 ⟨rfl, H1⟩)
    | (go_at_call 7; refine (new_n w1 w.heap.size H1.out.size).mono ?_; rintro e w2 ⟨d, rfl, H2⟩))
  obtain ⟨q0, Hq0⟩ : ∃ q, Hid (w2.heap.size = q) := ⟨_, rfl⟩
  obtain ⟨w3, Hw3⟩ : ∃ v, Hid (w2.alloc (.cells #[] 3) = v) := ⟨_, rfl⟩
  have R0 : Hid (NO w w3 d none [] 0 (some ⟨q0, 0, none⟩) 0 0) := by
    have b2 : Below w.heap.size w w2 := H1.out.trans (H2.out.2.1.mono H1.out.size)
    have b3 : Below w2.heap.size w2 w3 := by rw [← Hw3.out]; exact alloc1 w2 _
    refine ⟨H2.out.1.below b3, ⟨rfl, .inr ⟨q0, 0, #[], rfl, by have := b2.size; have := Hq0.out; omega, by rw [← Hw3.out, ← Hq0.out]; exact heap_alloc_new w2 _, Nat.le_refl _, by unfold maxLen; omega, rfl, rfl⟩⟩, b2.trans (b3.mono b2.size)⟩
  clear H1 H2
  go_upto_region 8 with (fail)
  rw [Hq0.out, Hw3.out]
  go_wp2
  go_loopw [4, 5, 22] (fun t4 t5 ti wr => ∃ (i : Nat) (X : List Lt) (g : Int) (a b : Option Addr) (m cm : Nat), i ≤ n ∧ ti = .int .i64 i ∧ t4 = .slice b m cm ∧ t5 = .int .i64 g ∧ Hid (NO w wr d a X g b m cm ∧ g ≤ (i : Int))) (fun _ _ ti _ => n - (intOf ti).toNat)
  case atStart => exact ⟨0, [], 0, none, _, 0, 0, by omega, rfl, rfl, rfl, R0.out, by omega⟩
  case round =>
    obtain ⟨i, X, g, a, b, m, cm, hi, rfl, rfl, rfl, HI⟩ := hrel
    clear R0
    by_cases hlt : i < n
    · obtain ⟨bo, oo, rfl, hb, hrow⟩ := hO.out.row.resolve_left (by omega)
      obtain ⟨a', n', c', hop⟩ := hrow i hlt
      have BL : Hid (Below w.heap.size w wr) := HI.out.1.bel
      obtain ⟨y, Hy⟩ : ∃ y, Hid (L.getD i o0 = y) := ⟨_, rfl⟩
      rw [Hy.out] at hop
      obtain ⟨kd, wh, fr, tt, nu, bs⟩ := y
      have OP := hop.below BL.out
      have k0 : wr.cell? ⟨bo, oo + i * 6, none⟩ = some (.int .i64 kd) := OP.c0
      have k1 : wr.cell? ⟨bo, oo + i * 6 + 1, none⟩ = some (.int .i64 wh) := OP.c1
      have k2 : wr.cell? ⟨bo, oo + i * 6 + 2, none⟩ = some (.int .i64 fr) := OP.c2
      have k3 : wr.cell? ⟨bo, oo + i * 6 + 3, none⟩ = some (.int .i64 tt) := OP.c3
      have k4 : wr.cell? ⟨bo, oo + i * 6 + 4, none⟩ = some (.int .i64 nu) := OP.c4
      have k5 : wr.cell? ⟨bo, oo + i * 6 + 5, none⟩ = some (.slice a' n' c') := OP.c5
      have SB : Hid (Sln wr a' n' bs) := OP.sl
      have LB : Hid (bs.length ≤ 140737488351232) := by
        show _ ≤ _
        have h1 := hop.sl.len
        have h2 := hop.nc
        have h3 := hop.cap
        simp only at h1
        omega
      have i2 : (i : Int) < (n : Int) := by omega
      have GB : Hid (g < 4611686018427387904) := by show _ < _; have := HI.out.2; omega
      obtain ⟨p1, Hp1⟩ : ∃ q, Hid (wr.heap.size = q) := ⟨_, rfl⟩
      obtain ⟨v1, Hv1⟩ : ∃ v, Hid (wr.alloc (.cells #[.int .i64 kd, .int .i64 wh, .int .i64 fr, .int .i64 tt, .int .i64 nu, .slice a' n' c'] 34) = v) := ⟨_, rfl⟩
      have b1 : Hid (Below wr.heap.size wr v1) := by rw [← Hv1.out]; exact alloc1 wr _
      have BX : Hid (v1.heap[p1]? = some (.cells #[.int .i64 kd, .int .i64 wh, .int .i64 fr, .int .i64 tt, .int .i64 nu, .slice a' n' c'] 34 (0, 0))) := by rw [← Hv1.out, ← Hp1.out]; exact heap_alloc_new wr _
      have N1 : Hid (NO w v1 d a X g b m cm) := HI.out.1.below b1.out
      have GI : Hid (g ≤ (i : Int)) := HI.out.2
      have S1 : Hid (Sln v1 a' n' bs) := SB.out.below b1.out
      have E1 : Hid (Sent v1 3 E) := hE.out.below N1.out.bel
      have LM : Hid (m = X.length) := N1.out.len
      have j0 : v1.cell? ⟨p1, 0, none⟩ = some (.int .i64 kd) := by simp [World.cell?, BX.out]
      have j2 : v1.cell? ⟨p1, 2, none⟩ = some (.int .i64 fr) := by simp [World.cell?, BX.out]
      have j3 : v1.cell? ⟨p1, 3, none⟩ = some (.int .i64 tt) := by simp [World.cell?, BX.out]
      have j4 : v1.cell? ⟨p1, 4, none⟩ = some (.int .i64 nu) := by simp [World.cell?, BX.out]
      have j5 : v1.cell? ⟨p1, 5, none⟩ = some (.slice a' n' c') := by simp [World.cell?, BX.out]
      clear hop OP hrow hb SB HI BL
      go_upto_region 11 with (fail)
      rw [Hv1.out, Hp1.out]
      clear k0 k1 k2 k3 k4 k5 b1
      by_cases q1 : kd = 1
      · subst q1
        by_cases hnd : ndB fr = true ∧ ndB tt = true
        · have HA : Hid (ndB fr = true) := hnd.1
          have HB : Hid (ndB tt = true) := hnd.2
          clear hnd
          by_cases hf : X.length < 4096
          · have HL : Hid (X.length < 4096) := hf
            clear hf
            have wq : IntKind.i64.wrap (g + 1) = g + 1 := by rw [IntKind.wrap_i64]; have := GB.out; have := N1.out.nt.gz; omega
            go_upto_region 22 with (go_at_call 10; refine (send_ok (cb := c') (show Hid _ from N1.out.nt) GB S1 LB HA HB HL).mono ?_; rintro e w4 ⟨a4, rfl, H4⟩)
            have F4 := N1.out.nf H4.out.1 H4.out.2
            obtain ⟨p4, Hp4⟩ : ∃ q, Hid (w4.heap.size = q) := ⟨_, rfl⟩
            obtain ⟨w5, Hw5⟩ : ∃ v, Hid (w4.alloc (.cells #[.int .i64 (g + 1)] 3) = v) := ⟨_, rfl⟩
            have b5 : Hid (Below w4.heap.size w4 w5) := by rw [← Hw5.out]; exact alloc1 w4 _
            have J5 : w5.heap[p4]? = some (.cells ([.int .i64 (g + 1)] : List Value).toArray 3 (0, 0)) := by rw [← Hw5.out, ← Hp4.out]; exact heap_alloc_new w4 _
            have N4 : NO w w4 d a4 (X ++ [⟨g + 1, fr, tt, spell bs⟩]) (g + 1) b m cm → True := fun _ => trivial
            have O5 : w5.ownsRow w.heap.size 3 1 (.slice b m cm) m ((X.map Lt.no).map iv) := rown_bel F4.1 (fun q e => b5.out.block q (F4.1.lt q e).2)
            have mb : m ≤ 4096 := by rw [LM.out]; exact N1.out.nt.ln
            obtain ⟨b6, c6, w6, r1, r2, r3, r4⟩ := app_one (t := 53) (e := 3) Tryd.underlying53 info3 rfl (by decide) O5 J5 rfl (by intro u hu; simp at hu; subst hu; rfl) (by omega) (by unfold maxLen; omega) (by have := F4.2.size; have := b5.out.size; omega)
            have AP : Hid ((Builtin.append_ #[53, 53] 53 #[.slice b m cm, .slice (some ⟨w4.heap.size, 0, none⟩) 1 1]).run Tryd.prog (w4.alloc (.cells #[.int .i64 (g + 1)] 3)) = .ok (.slice b6 (m + 1) c6) w6) := by rw [Hw5.out, Hp4.out]; exact r1
            have NK : Hid (NO w w6 d a4 (X ++ [⟨g + 1, fr, tt, spell bs⟩]) (g + 1) b6 (m + 1) c6) := by
              have hb6 : Below w.heap.size w w6 := (F4.2.trans (b5.out.mono F4.2.size)).trans (grown_below r3 (Nat.le_trans F4.2.size b5.out.size) (fun q e => (F4.1.lt q (by rw [ownBlock_slice]; exact e)).1))
              have n5 : Nt w5 w.heap.size d a4 (X ++ [⟨g + 1, fr, tt, spell bs⟩]) (g + 1) := H4.out.1.below b5.out
              refine ⟨n5.keep (fun q hq => r3.block q (hq.elim (fun h => by rw [h]; exact n5.dlt) (fun h => (n5.alt h).2.1)) (fun e => ?_)), by rw [List.map_append, List.map_append]; exact r2, hb6⟩
              have h1 := N1.out.off (q := q) e.symm
              rcases hq with hq | hq
              · exact h1.2 (.inl hq)
              · rcases H4.out.2.nw q hq with h2 | h2
                · exact h1.2 (.inr h2)
                · omega
            clear r1 r2 r3 r4 O5 J5 N4
            obtain ⟨X6, HX6⟩ : ∃ q : List Lt, Hid (X ++ [(⟨g + 1, fr, tt, spell bs⟩ : Lt)] = q) := ⟨_, rfl⟩
            rw [HX6.out] at NK
            go_upto_region 40 with (at_builtin; refine wpList_app (by rfl) (.tmp 59) (.tmp 61) (by rfl) (by rfl) (by rfl) (by rfl) AP ?_)
            go_wp2_with (first
              | (go_at_call 15; refine (waiting_n (show Hid (Nt w6 w.heap.size d a4 X6 (g + 1)) from NK.out.nt)).mono ?_; rintro e w8 ⟨gq, rfl, H8⟩)
              | (go_at_call 16; refine (sameInts_n (lo := 0) (lo2 := w.heap.size) (l := (X6).map Lt.no) (r := (X6).map Lt.no) (show Hid _ from irow_blk H8.out.1 (by simp) NK.out.nt.ln) (show Hid _ from irow_own (NK.out.below H8.out.2.1).row (by have h1 := NK.out.len; have h2 := NK.out.nt.ln; omega))).mono ?_; rintro e w9 ⟨rfl, H9⟩; rw [decide_eq_true rfl]))
            go_roundw
            case rel => exact ⟨i + 1, X6, (g + 1), a4, b6, (m + 1), c6, by omega, by go_num, rfl, rfl, (NK.out.below H8.out.2.1).below H9.out, by have := GI.out; omega⟩
            case measure => simp [intOf]; omega
          · have HL : Hid (4096 ≤ X.length) := Nat.le_of_not_lt hf
            clear hf
            go_upto_region 40 with (go_at_call 10; refine (send_full (show Hid _ from N1.out.nt) E1 (by omega) HA HB HL).mono ?_; rintro e w4 ⟨rfl, H4⟩)
            have NK : Hid (NO w w4 d a X g b m cm) := N1.out.below H4.out
            go_wp2_with (first
              | (go_at_call 15; refine (waiting_n (show Hid (Nt w4 w.heap.size d a X g) from NK.out.nt)).mono ?_; rintro e w8 ⟨gq, rfl, H8⟩)
              | (go_at_call 16; refine (sameInts_n (lo := 0) (lo2 := w.heap.size) (l := (X).map Lt.no) (r := (X).map Lt.no) (show Hid _ from irow_blk H8.out.1 (by simp) NK.out.nt.ln) (show Hid _ from irow_own (NK.out.below H8.out.2.1).row (by have h1 := NK.out.len; have h2 := NK.out.nt.ln; omega))).mono ?_; rintro e w9 ⟨rfl, H9⟩; rw [decide_eq_true rfl]))
            go_roundw
            case rel => exact ⟨i + 1, X, g, a, b, m, cm, by omega, by go_num, rfl, rfl, (NK.out.below H8.out.2.1).below H9.out, by have := GI.out; omega⟩
            case measure => simp [intOf]; omega
        · have HN : Hid (notB fr tt) := hnd
          clear hnd
          go_upto_region 40 with (go_at_call 10; refine (send_bad (X := X) (a := a) (g := g) (lo := 0) E1 (by omega) HN).mono ?_; rintro e w4 ⟨rfl, H4⟩)
          have NK : Hid (NO w w4 d a X g b m cm) := N1.out.below H4.out
          go_wp2_with (first
            | (go_at_call 15; refine (waiting_n (show Hid (Nt w4 w.heap.size d a X g) from NK.out.nt)).mono ?_; rintro e w8 ⟨gq, rfl, H8⟩)
            | (go_at_call 16; refine (sameInts_n (lo := 0) (lo2 := w.heap.size) (l := (X).map Lt.no) (r := (X).map Lt.no) (show Hid _ from irow_blk H8.out.1 (by simp) NK.out.nt.ln) (show Hid _ from irow_own (NK.out.below H8.out.2.1).row (by have h1 := NK.out.len; have h2 := NK.out.nt.ln; omega))).mono ?_; rintro e w9 ⟨rfl, H9⟩; rw [decide_eq_true rfl]))
          go_roundw
          case rel => exact ⟨i + 1, X, g, a, b, m, cm, by omega, by go_num, rfl, rfl, (NK.out.below H8.out.2.1).below H9.out, by have := GI.out; omega⟩
          case measure => simp [intOf]; omega
      · by_cases q4 : kd = 4
        · subst q4
          by_cases hk : isL nu X = true
          · have HK : Hid (isL nu X = true) := hk
            obtain ⟨x, hx, hxn⟩ := isL_yes hk
            have HX : Hid (X[pl nu X]? = some x) := hx
            clear hk hx hxn
            by_cases hf : X.length < 4096
            · have HL : Hid (X.length < 4096) := hf
              clear hf
              have wq : IntKind.i64.wrap (g + 1) = g + 1 := by rw [IntKind.wrap_i64]; have := GB.out; have := N1.out.nt.gz; omega
              go_upto_region 22 with (go_at_call 12; refine (copy_ok (show Hid _ from N1.out.nt) GB HX HK HL).mono ?_; rintro e w4 ⟨a4, rfl, H4⟩)
              have F4 := N1.out.nf H4.out.1 H4.out.2
              obtain ⟨p4, Hp4⟩ : ∃ q, Hid (w4.heap.size = q) := ⟨_, rfl⟩
              obtain ⟨w5, Hw5⟩ : ∃ v, Hid (w4.alloc (.cells #[.int .i64 (g + 1)] 3) = v) := ⟨_, rfl⟩
              have b5 : Hid (Below w4.heap.size w4 w5) := by rw [← Hw5.out]; exact alloc1 w4 _
              have J5 : w5.heap[p4]? = some (.cells ([.int .i64 (g + 1)] : List Value).toArray 3 (0, 0)) := by rw [← Hw5.out, ← Hp4.out]; exact heap_alloc_new w4 _
              have N4 : NO w w4 d a4 (X ++ [⟨g + 1, x.fm, x.tt, x.bs⟩]) (g + 1) b m cm → True := fun _ => trivial
              have O5 : w5.ownsRow w.heap.size 3 1 (.slice b m cm) m ((X.map Lt.no).map iv) := rown_bel F4.1 (fun q e => b5.out.block q (F4.1.lt q e).2)
              have mb : m ≤ 4096 := by rw [LM.out]; exact N1.out.nt.ln
              obtain ⟨b6, c6, w6, r1, r2, r3, r4⟩ := app_one (t := 53) (e := 3) Tryd.underlying53 info3 rfl (by decide) O5 J5 rfl (by intro u hu; simp at hu; subst hu; rfl) (by omega) (by unfold maxLen; omega) (by have := F4.2.size; have := b5.out.size; omega)
              have AP : Hid ((Builtin.append_ #[53, 53] 53 #[.slice b m cm, .slice (some ⟨w4.heap.size, 0, none⟩) 1 1]).run Tryd.prog (w4.alloc (.cells #[.int .i64 (g + 1)] 3)) = .ok (.slice b6 (m + 1) c6) w6) := by rw [Hw5.out, Hp4.out]; exact r1
              have NK : Hid (NO w w6 d a4 (X ++ [⟨g + 1, x.fm, x.tt, x.bs⟩]) (g + 1) b6 (m + 1) c6) := by
                have hb6 : Below w.heap.size w w6 := (F4.2.trans (b5.out.mono F4.2.size)).trans (grown_below r3 (Nat.le_trans F4.2.size b5.out.size) (fun q e => (F4.1.lt q (by rw [ownBlock_slice]; exact e)).1))
                have n5 : Nt w5 w.heap.size d a4 (X ++ [⟨g + 1, x.fm, x.tt, x.bs⟩]) (g + 1) := H4.out.1.below b5.out
                refine ⟨n5.keep (fun q hq => r3.block q (hq.elim (fun h => by rw [h]; exact n5.dlt) (fun h => (n5.alt h).2.1)) (fun e => ?_)), by rw [List.map_append, List.map_append]; exact r2, hb6⟩
                have h1 := N1.out.off (q := q) e.symm
                rcases hq with hq | hq
                · exact h1.2 (.inl hq)
                · rcases H4.out.2.nw q hq with h2 | h2
                  · exact h1.2 (.inr h2)
                  · omega
              clear r1 r2 r3 r4 O5 J5 N4
              obtain ⟨X6, HX6⟩ : ∃ q : List Lt, Hid (X ++ [(⟨g + 1, x.fm, x.tt, x.bs⟩ : Lt)] = q) := ⟨_, rfl⟩
              rw [HX6.out] at NK
              go_upto_region 40 with (at_builtin; refine wpList_app (by rfl) (.tmp 59) (.tmp 61) (by rfl) (by rfl) (by rfl) (by rfl) AP ?_)
              go_wp2_with (first
                | (go_at_call 15; refine (waiting_n (show Hid (Nt w6 w.heap.size d a4 X6 (g + 1)) from NK.out.nt)).mono ?_; rintro e w8 ⟨gq, rfl, H8⟩)
                | (go_at_call 16; refine (sameInts_n (lo := 0) (lo2 := w.heap.size) (l := (X6).map Lt.no) (r := (X6).map Lt.no) (show Hid _ from irow_blk H8.out.1 (by simp) NK.out.nt.ln) (show Hid _ from irow_own (NK.out.below H8.out.2.1).row (by have h1 := NK.out.len; have h2 := NK.out.nt.ln; omega))).mono ?_; rintro e w9 ⟨rfl, H9⟩; rw [decide_eq_true rfl]))
              go_roundw
              case rel => exact ⟨i + 1, X6, (g + 1), a4, b6, (m + 1), c6, by omega, by go_num, rfl, rfl, (NK.out.below H8.out.2.1).below H9.out, by have := GI.out; omega⟩
              case measure => simp [intOf]; omega
            · have HL : Hid (4096 ≤ X.length) := Nat.le_of_not_lt hf
              clear hf
              go_upto_region 40 with (go_at_call 12; refine (copy_full (show Hid _ from N1.out.nt) E1 (by omega) HK HL).mono ?_; rintro e w4 ⟨rfl, H4⟩)
              have NK : Hid (NO w w4 d a X g b m cm) := N1.out.below H4.out
              go_wp2_with (first
                | (go_at_call 15; refine (waiting_n (show Hid (Nt w4 w.heap.size d a X g) from NK.out.nt)).mono ?_; rintro e w8 ⟨gq, rfl, H8⟩)
                | (go_at_call 16; refine (sameInts_n (lo := 0) (lo2 := w.heap.size) (l := (X).map Lt.no) (r := (X).map Lt.no) (show Hid _ from irow_blk H8.out.1 (by simp) NK.out.nt.ln) (show Hid _ from irow_own (NK.out.below H8.out.2.1).row (by have h1 := NK.out.len; have h2 := NK.out.nt.ln; omega))).mono ?_; rintro e w9 ⟨rfl, H9⟩; rw [decide_eq_true rfl]))
              go_roundw
              case rel => exact ⟨i + 1, X, g, a, b, m, cm, by omega, by go_num, rfl, rfl, (NK.out.below H8.out.2.1).below H9.out, by have := GI.out; omega⟩
              case measure => simp [intOf]; omega
          · have HK : Hid (isL nu X = false) := Bool.eq_false_iff.2 hk
            clear hk
            go_upto_region 40 with (go_at_call 12; refine (copy_gone (show Hid _ from N1.out.nt) E1 (by omega) HK).mono ?_; rintro e w4 ⟨rfl, H4⟩)
            have NK : Hid (NO w w4 d a X g b m cm) := N1.out.below H4.out
            go_wp2_with (first
              | (go_at_call 15; refine (waiting_n (show Hid (Nt w4 w.heap.size d a X g) from NK.out.nt)).mono ?_; rintro e w8 ⟨gq, rfl, H8⟩)
              | (go_at_call 16; refine (sameInts_n (lo := 0) (lo2 := w.heap.size) (l := (X).map Lt.no) (r := (X).map Lt.no) (show Hid _ from irow_blk H8.out.1 (by simp) NK.out.nt.ln) (show Hid _ from irow_own (NK.out.below H8.out.2.1).row (by have h1 := NK.out.len; have h2 := NK.out.nt.ln; omega))).mono ?_; rintro e w9 ⟨rfl, H9⟩; rw [decide_eq_true rfl]))
            go_roundw
            case rel => exact ⟨i + 1, X, g, a, b, m, cm, by omega, by go_num, rfl, rfl, (NK.out.below H8.out.2.1).below H9.out, by have := GI.out; omega⟩
            case measure => simp [intOf]; omega
        · by_cases q3 : kd = 3
          · subst q3
            have IR : Hid (Irow v1 w.heap.size b m (X.map Lt.no)) := irow_own N1.out.row (by have h1 := N1.out.len; have h2 := N1.out.nt.ln; omega)
            have mb : m ≤ 4096 := by rw [LM.out]; exact N1.out.nt.ln
            obtain ⟨Pk, HPk⟩ : ∃ q, Hid (pl nu X = q) := ⟨_, rfl⟩
            have PW : Hid (X.Pairwise (fun x y => x.no < y.no)) := N1.out.nt.rs.pw
            by_cases hk : isL nu X = true
            · have HK : Hid (isL nu X = true) := hk
              obtain ⟨x, hx, hxn⟩ := isL_yes hk
              rw [HPk.out] at hx
              have PX : Hid (X[Pk]? = some x ∧ x.no = nu) := ⟨hx, hxn⟩
              have Pm : Pk < m := by rw [LM.out]; exact (List.getElem?_eq_some_iff.1 hx).1
              clear hk hx hxn
              go_upto_region 26 with (fail)
              go_wp2
              go_loop [10, 68] (fun t10 tj => ∃ j : Nat, j ≤ m ∧ tj = .int .i64 (j : Int) ∧ ((j ≤ Pk ∧ t10 = .int .i64 (-1)) ∨ (Pk < j ∧ t10 = .int .i64 (Pk : Int)))) (fun _ tj => m - (intOf tj).toNat)
              case atStart => exact ⟨0, by omega, rfl, .inl ⟨by omega, rfl⟩⟩
              case round =>
                obtain ⟨j, hj, rfl, hat⟩ := hrel
                by_cases hlj : j < m
                · have i3 : (j : Int) < (m : Int) := by omega
                  have jX : j < X.length := by rw [← LM.out]; exact hlj
                  obtain ⟨b2, o2, rfl, e2⟩ := IR.out.at_ hlj
                  rw [mapno_get (List.getElem?_eq_getElem jX)] at e2
                  obtain ⟨z, Hz⟩ : ∃ z : Int, Hid (X[j].no = z) := ⟨X[j].no, (rfl : X[j].no = X[j].no)⟩
                  rw [Hz.out] at e2
                  have ZE : Hid (z = nu ↔ j = Pk) := by
                    constructor
                    · intro h
                      have := (pl_at (k := nu) PW.out (List.getElem?_eq_getElem jX) (by rw [Hz.out]; exact h)).1
                      rw [HPk.out] at this
                      exact this.symm
                    · rintro rfl
                      have h := PX.out.1
                      rw [List.getElem?_eq_getElem jX] at h
                      cases h
                      rw [← Hz.out]; exact PX.out.2
                  by_cases hz : z = nu
                  · have hjp := ZE.out.1 hz
                    subst hz
                    subst hjp
                    rcases hat with ⟨h1, rfl⟩ | ⟨h1, rfl⟩
                    · go_wp2
                      go_round
                      case rel => exact ⟨j + 1, by omega, by go_num, .inr ⟨by omega, rfl⟩⟩
                      case measure => simp [intOf]; omega
                    · omega
                  · have hjp : j ≠ Pk := fun h => hz (ZE.out.2 h)
                    rcases hat with ⟨h1, rfl⟩ | ⟨h1, rfl⟩
                    · go_wp2
                      go_round
                      case rel => exact ⟨j + 1, by omega, by go_num, .inl ⟨by omega, rfl⟩⟩
                      case measure => simp [intOf]; omega
                    · go_wp2
                      go_round
                      case rel => exact ⟨j + 1, by omega, by go_num, .inr ⟨by omega, rfl⟩⟩
                      case measure => simp [intOf]; omega
                · obtain rfl : j = m := by omega
                  rcases hat with ⟨h1, rfl⟩ | ⟨h1, rfl⟩
                  · omega
                  · have ip : (0 : Int) ≤ (Pk : Int) := by omega
                    have wq : IntKind.i64.wrap ((Pk : Int) + 1) = (Pk : Int) + 1 := by rw [IntKind.wrap_i64]; omega
                    go_upto_region 39 with (go_at_call 13; refine (drop_ok (show Hid _ from N1.out.nt) HK).mono ?_; rintro e w4 ⟨rfl, H4⟩; rw [HPk.out] at H4)
                    have F4 := N1.out.nf H4.out.1 H4.out.2
                    obtain ⟨b2, rfl, _, _, _⟩ := rown_at F4.1 (by omega)
                    have cmj : j ≤ cm := rown_cap F4.1
                    have i5 : Pk ≤ j := by omega
                    have i6 : Pk ≤ cm := by omega
                    have i7 : Pk + 1 ≤ j := by omega
                    have i8 : Pk + 1 ≤ cm := by omega
                    have i9 : (Pk : Int) ≤ (cm : Int) := by omega
                    have i10 : (Pk : Int) + 1 ≤ (j : Int) := by omega
                    have i11 : (0 : Int) ≤ (Pk : Int) + 1 := by omega
                    obtain ⟨sa, Hsa⟩ : ∃ sa : Option Addr, Hid (sa = if cm = Pk + 1 then some ⟨b2, 0, none⟩ else some ⟨b2, Pk + 1, none⟩) := ⟨_, rfl⟩
                    obtain ⟨v4, Hv4⟩ : ∃ v, Hid (w4.drew = v) := ⟨_, rfl⟩
                    obtain ⟨p5, Hp5⟩ : ∃ q, Hid (v4.heap.size = q) := ⟨_, rfl⟩
                    obtain ⟨w5, Hw5⟩ : ∃ v, Hid (v4.alloc (.cells #[] 3) = v) := ⟨_, rfl⟩
                    have D4 : Hid (Below w4.heap.size w4 v4) := by rw [← Hv4.out]; exact (Below.refl _ _).drew
                    have b5 : Hid (Below w4.heap.size w4 w5) := by rw [← Hw5.out, ← Hv4.out]; exact (Below.refl _ _).drew.alloc (Nat.le_refl _) _
                    have z4 : w4.heap.size = p5 := by rw [← Hp5.out, ← Hv4.out]; rfl
                    have z5 : w5.heap.size = p5 + 1 := by rw [← Hw5.out, ← Hp5.out]; simp
                    have zw : w.heap.size ≤ p5 := by rw [← z4]; exact F4.2.size
                    have O5 : w5.ownsRow w.heap.size 3 1 (.slice (some ⟨b2, 0, none⟩) j cm) j ((X.map Lt.no).map iv) := rown_bel F4.1 (fun q e => b5.out.block q (F4.1.lt q e).2)
                    have J5 : w5.ownsRow p5 3 1 (.slice (some ⟨p5, 0, none⟩) 0 0) 0 (([] : List Int).map iv) := ⟨rfl, .inr ⟨p5, 0, #[], rfl, Nat.le_refl _, by rw [← Hw5.out, ← Hp5.out]; exact heap_alloc_new v4 _, Nat.le_refl _, by unfold maxLen; omega, rfl, rfl⟩⟩
                    have I5 : Irow w5 w.heap.size (some ⟨b2, 0, none⟩) j (X.map Lt.no) := irow_own O5 (by omega)
                    have h2b := (F4.1.lt b2 rfl)
                    have hb25 : b2 < p5 := by omega
                    obtain ⟨a6, c6, w6, r1, r2, r3⟩ := app_int J5 (irow_take I5 (p := Pk) (by omega)) (c := cm) (fun h => by cases h) (by omega) (by omega)
                    have A1 : Hid ((Builtin.append_ #[53, 53] 53 #[.slice (some ⟨p5, 0, none⟩) 0 0, .slice (some ⟨b2, 0, none⟩) Pk cm]).run Tryd.prog w5 = .ok (.slice a6 Pk c6) w6) := by have h := r1; rw [Nat.zero_add] at h; exact h
                    have g6 : Below p5 w5 w6 := grown_below r3 (by omega) (fun q e => by cases e; exact Nat.le_refl _)
                    have I6 : Irow w6 w.heap.size (some ⟨b2, 0, none⟩) j (X.map Lt.no) := by
                      have h5 : w5.ownsRow w.heap.size 3 1 (.slice (some ⟨b2, 0, none⟩) j cm) j ((X.map Lt.no).map iv) := O5
                      exact irow_own (rown_bel h5 (fun q e => g6.block q (by cases e; exact hb25))) (by omega)
                    have I7 : Irow w6 w.heap.size sa (j - (Pk + 1)) ((X.map Lt.no).drop (Pk + 1)) := by
                      rw [Hsa.out]
                      split
                      · have e0 : j - (Pk + 1) = 0 := by omega
                        have e1 : (X.map Lt.no).drop (Pk + 1) = [] := List.drop_of_length_le (by rw [List.length_map, ← LM.out]; omega)
                        rw [e0, e1]
                        exact irow_nil _ _ _
                      · exact irow_drop I6 (by omega)
                    rw [Nat.zero_add] at r1 r2
                    obtain ⟨a7, c7, w7, s1, s2, s3⟩ := app_int r2 I7 (c := cm - (Pk + 1)) (fun h => by rw [Hsa.out] at h; split at h <;> cases h) (by omega) (by have := r3.size; omega)
                    obtain ⟨m7, Hm7⟩ : ∃ q, Hid (Pk + (j - (Pk + 1)) = q) := ⟨_, rfl⟩
                    rw [Hm7.out] at s1 s2
                    have A2 : Hid ((Builtin.append_ #[53, 53] 53 #[.slice a6 Pk c6, .slice sa (j - (Pk + 1)) (cm - (Pk + 1))]).run Tryd.prog w6 = .ok (.slice a7 m7 c7) w7) := s1
                    have g7 : Below p5 w6 w7 := grown_below s3 (Nat.le_trans (by omega) r3.size) (fun q e => (r2.lt q e).1)
                    have GG : Below w4.heap.size w4 w7 := by
                      have h1 := b5.out
                      rw [z4] at h1 ⊢
                      exact (h1.trans g6).trans g7
                    have NK : Hid (NO w w7 d a (X.eraseIdx Pk) g a7 m7 c7) := by
                      refine ⟨H4.out.1.below GG, ?_, F4.2.trans (GG.mono F4.2.size)⟩
                      have h := rown_mono s2 (show w.heap.size ≤ p5 by rw [← z4]; exact F4.2.size)
                      have e : (X.eraseIdx Pk).map Lt.no = [] ++ (X.map Lt.no).take Pk ++ (X.map Lt.no).drop (Pk + 1) := by rw [pl_del (k := 0), List.map_take, List.map_drop]; rfl
                      rw [e]
                      exact h
                    obtain ⟨X6, HX6⟩ : ∃ q, Hid (X.eraseIdx Pk = q) := ⟨_, rfl⟩
                    rw [HX6.out] at NK
                    clear r1 r2 r3 s1 s2 s3 g6 g7 I5 I6 I7 O5 J5 GG F4
                    by_cases hc : cm = Pk + 1
                    · have ic : (cm = Pk + 1) = True := eq_true hc
                      have SA : Hid (sa = some ⟨b2, 0, none⟩) := by show _ = _; rw [Hsa.out, if_pos hc]
                      clear hc
                      rw [SA.out] at A2
                      refine wp_region_seq (C := fun W => True) [(1, false), (2, false), (3, false), (5, false), (6, false), (7, false), (8, false), (0, true), (4, true), (9, true), (10, false)] (by kernel_rfl) (by kernel_rfl) (trivial) ?_
                      rw [Hv4.out]
                      refine seq_take (o := { dst := some 101, op := Go.Op.move (Go.Operand.tmp 4), type := 53, pos := "more.go:52", after := #[], guard := none }) (v := .slice (some ⟨b2, 0, none⟩) j cm) (by kernel_rfl) (fun _ _ _ h => h) (Or.inl ⟨by kernel_rfl, fun W hW => by go_simp⟩) ?_
                      simp only [List.getElem_toArray, List.getElem_cons_zero, List.getElem_cons_succ, Act.put, List.setIfInBounds_toArray, List.set_cons_zero, List.set_cons_succ]
                      refine seq_take (o := { dst := some 102, op := Go.Op.move (Go.Operand.tmp 10), type := 3, pos := "more.go:52", after := #[], guard := none }) (v := .int .i64 (Pk : Int)) (by kernel_rfl) (fun _ _ _ h => h) (Or.inl ⟨by kernel_rfl, fun W hW => by go_simp⟩) ?_
                      simp only [List.getElem_toArray, List.getElem_cons_zero, List.getElem_cons_succ, Act.put, List.setIfInBounds_toArray, List.set_cons_zero, List.set_cons_succ]
                      refine seq_take (o := { dst := some 103, op := Go.Op.slice 53 (Go.Operand.tmp 101) none (some (Go.Operand.tmp 102)) none, type := 53, pos := "more.go:52", after := #[{ on := 1, ground := Go.Ground.data }, { on := 2, ground := Go.Ground.data }], guard := none }) (v := .slice (some ⟨b2, 0, none⟩) Pk cm) (by kernel_rfl) (fun _ _ _ h => h) (Or.inl ⟨by kernel_rfl, fun W hW => by go_simp⟩) ?_
                      simp only [List.getElem_toArray, List.getElem_cons_zero, List.getElem_cons_succ, Act.put, List.setIfInBounds_toArray, List.set_cons_zero, List.set_cons_succ]
                      refine seq_take (o := { dst := some 105, op := Go.Op.move (Go.Operand.tmp 4), type := 53, pos := "more.go:52", after := #[], guard := none }) (v := .slice (some ⟨b2, 0, none⟩) j cm) (by kernel_rfl) (fun _ _ _ h => h) (Or.inl ⟨by kernel_rfl, fun W hW => by go_simp⟩) ?_
                      simp only [List.getElem_toArray, List.getElem_cons_zero, List.getElem_cons_succ, Act.put, List.setIfInBounds_toArray, List.set_cons_zero, List.set_cons_succ]
                      refine seq_take (o := { dst := some 106, op := Go.Op.move (Go.Operand.tmp 10), type := 3, pos := "more.go:52", after := #[], guard := none }) (v := .int .i64 (Pk : Int)) (by kernel_rfl) (fun _ _ _ h => h) (Or.inl ⟨by kernel_rfl, fun W hW => by go_simp⟩) ?_
                      simp only [List.getElem_toArray, List.getElem_cons_zero, List.getElem_cons_succ, Act.put, List.setIfInBounds_toArray, List.set_cons_zero, List.set_cons_succ]
                      refine seq_take (o := { dst := some 107, op := Go.Op.binOp Go.BinOp.add 3 (Go.Operand.tmp 106) (Go.Operand.const (Go.Value.int Go.IntKind.i64 1)) 3, type := 3, pos := "more.go:52", after := #[{ on := 6, ground := Go.Ground.data }], guard := none }) (v := .int .i64 ((Pk : Int) + 1)) (by kernel_rfl) (fun _ _ _ h => h) (Or.inl ⟨by kernel_rfl, fun W hW => by go_simp⟩) ?_
                      simp only [List.getElem_toArray, List.getElem_cons_zero, List.getElem_cons_succ, Act.put, List.setIfInBounds_toArray, List.set_cons_zero, List.set_cons_succ]
                      refine seq_take (o := { dst := some 108, op := Go.Op.slice 53 (Go.Operand.tmp 105) (some (Go.Operand.tmp 107)) none none, type := 53, pos := "more.go:52", after := #[{ on := 5, ground := Go.Ground.data }, { on := 7, ground := Go.Ground.data }], guard := none }) (v := .slice (some ⟨b2, 0, none⟩) (j - (Pk + 1)) (cm - (Pk + 1))) (by kernel_rfl) (fun _ _ _ h => h) (Or.inl ⟨by kernel_rfl, fun W hW => by go_simp⟩) ?_
                      simp only [List.getElem_toArray, List.getElem_cons_zero, List.getElem_cons_succ, Act.put, List.setIfInBounds_toArray, List.set_cons_zero, List.set_cons_succ]
                      refine seq_call (o := { dst := some 100, op := Go.Op.buildSlice 53 0 #[], type := 53, pos := "more.go:52", after := #[], guard := none }) (by kernel_rfl) (fun KK hK => ?_)
                      rw [if_pos (by kernel_rfl)]
                      go_simp
                      go_wp2
                      rw [Hp5.out, Hw5.out]
                      refine hK.out _ _ (trivial) ?_
                      clear hK KK
                      try simp only [List.getElem_toArray, List.getElem_cons_zero, List.getElem_cons_succ, Act.put, List.setIfInBounds_toArray, List.set_cons_zero, List.set_cons_succ]
                      refine seq_call (o := { dst := some 104, op := Go.Op.call { callee := Go.Callee.builtin Go.Builtin.append, args := #[Go.Operand.tmp 100, Go.Operand.tmp 103], argTypes := #[53, 53] }, type := 53, pos := "more.go:52", after := #[{ on := 0, ground := Go.Ground.data }, { on := 3, ground := Go.Ground.data }], guard := none }) (by kernel_rfl) (fun KK hK => ?_)
                      rw [if_pos (by kernel_rfl)]
                      refine wp_app (t := 53) (.tmp 100) (.tmp 103) (by rfl) (by rfl) (by rfl) (by rfl) A1 ?_
                      refine hK.out _ _ (trivial) ?_
                      clear hK KK
                      try simp only [List.getElem_toArray, List.getElem_cons_zero, List.getElem_cons_succ, Act.put, List.setIfInBounds_toArray, List.set_cons_zero, List.set_cons_succ]
                      refine seq_call (o := { dst := some 109, op := Go.Op.call { callee := Go.Callee.builtin Go.Builtin.append, args := #[Go.Operand.tmp 104, Go.Operand.tmp 108], argTypes := #[53, 53] }, type := 53, pos := "more.go:52", after := #[{ on := 4, ground := Go.Ground.data }, { on := 8, ground := Go.Ground.data }, { on := 4, ground := Go.Ground.chain }], guard := none }) (by kernel_rfl) (fun KK hK => ?_)
                      rw [if_pos (by kernel_rfl)]
                      refine wp_app (t := 53) (.tmp 104) (.tmp 108) (by rfl) (by rfl) (by rfl) (by rfl) A2 ?_
                      refine hK.out _ _ (trivial) ?_
                      clear hK KK
                      try simp only [List.getElem_toArray, List.getElem_cons_zero, List.getElem_cons_succ, Act.put, List.setIfInBounds_toArray, List.set_cons_zero, List.set_cons_succ]
                      refine seq_take (o := { dst := some 4, op := Go.Op.assign (Go.Operand.tmp 109), type := 53, pos := "more.go:52", after := #[{ on := 9, ground := Go.Ground.data }, { on := 9, ground := Go.Ground.chain }, { on := 0, ground := Go.Ground.phase }, { on := 1, ground := Go.Ground.phase }, { on := 2, ground := Go.Ground.phase }, { on := 3, ground := Go.Ground.phase }, { on := 4, ground := Go.Ground.phase }, { on := 5, ground := Go.Ground.phase }, { on := 6, ground := Go.Ground.phase }, { on := 7, ground := Go.Ground.phase }, { on := 8, ground := Go.Ground.phase }, { on := 9, ground := Go.Ground.phase }], guard := none }) (v := .slice a7 m7 c7) (by kernel_rfl) (fun _ _ _ h => h) (Or.inl ⟨by kernel_rfl, fun W hW => by go_simp⟩) ?_
                      simp only [List.getElem_toArray, List.getElem_cons_zero, List.getElem_cons_succ, Act.put, List.setIfInBounds_toArray, List.set_cons_zero, List.set_cons_succ]
                      show (Exit.inBlock 2 (Exit.then _ _)) .normal _ _
                      go_upto_region 40 with (fail)
                      go_wp2_with (first
                        | (go_at_call 15; refine (waiting_n (show Hid (Nt w7 w.heap.size d a X6 g) from NK.out.nt)).mono ?_; rintro e w8 ⟨gq, rfl, H8⟩)
                        | (go_at_call 16; refine (sameInts_n (lo := 0) (lo2 := w.heap.size) (l := (X6).map Lt.no) (r := (X6).map Lt.no) (show Hid _ from irow_blk H8.out.1 (by simp) NK.out.nt.ln) (show Hid _ from irow_own (NK.out.below H8.out.2.1).row (by have h1 := NK.out.len; have h2 := NK.out.nt.ln; omega))).mono ?_; rintro e w9 ⟨rfl, H9⟩; rw [decide_eq_true rfl]))
                      go_roundw
                      case rel => exact ⟨i + 1, X6, g, a, a7, m7, c7, by omega, by go_num, rfl, rfl, (NK.out.below H8.out.2.1).below H9.out, by have := GI.out; omega⟩
                      case measure => simp [intOf]; omega
                    · have ic : ¬ (cm = Pk + 1) := hc
                      have SA : Hid (sa = some ⟨b2, Pk + 1, none⟩) := by show _ = _; rw [Hsa.out, if_neg hc]
                      clear hc
                      rw [SA.out] at A2
                      refine wp_region_seq (C := fun W => True) [(1, false), (2, false), (3, false), (5, false), (6, false), (7, false), (8, false), (0, true), (4, true), (9, true), (10, false)] (by kernel_rfl) (by kernel_rfl) (trivial) ?_
                      rw [Hv4.out]
                      refine seq_take (o := { dst := some 101, op := Go.Op.move (Go.Operand.tmp 4), type := 53, pos := "more.go:52", after := #[], guard := none }) (v := .slice (some ⟨b2, 0, none⟩) j cm) (by kernel_rfl) (fun _ _ _ h => h) (Or.inl ⟨by kernel_rfl, fun W hW => by go_simp⟩) ?_
                      simp only [List.getElem_toArray, List.getElem_cons_zero, List.getElem_cons_succ, Act.put, List.setIfInBounds_toArray, List.set_cons_zero, List.set_cons_succ]
                      refine seq_take (o := { dst := some 102, op := Go.Op.move (Go.Operand.tmp 10), type := 3, pos := "more.go:52", after := #[], guard := none }) (v := .int .i64 (Pk : Int)) (by kernel_rfl) (fun _ _ _ h => h) (Or.inl ⟨by kernel_rfl, fun W hW => by go_simp⟩) ?_
                      simp only [List.getElem_toArray, List.getElem_cons_zero, List.getElem_cons_succ, Act.put, List.setIfInBounds_toArray, List.set_cons_zero, List.set_cons_succ]
                      refine seq_take (o := { dst := some 103, op := Go.Op.slice 53 (Go.Operand.tmp 101) none (some (Go.Operand.tmp 102)) none, type := 53, pos := "more.go:52", after := #[{ on := 1, ground := Go.Ground.data }, { on := 2, ground := Go.Ground.data }], guard := none }) (v := .slice (some ⟨b2, 0, none⟩) Pk cm) (by kernel_rfl) (fun _ _ _ h => h) (Or.inl ⟨by kernel_rfl, fun W hW => by go_simp⟩) ?_
                      simp only [List.getElem_toArray, List.getElem_cons_zero, List.getElem_cons_succ, Act.put, List.setIfInBounds_toArray, List.set_cons_zero, List.set_cons_succ]
                      refine seq_take (o := { dst := some 105, op := Go.Op.move (Go.Operand.tmp 4), type := 53, pos := "more.go:52", after := #[], guard := none }) (v := .slice (some ⟨b2, 0, none⟩) j cm) (by kernel_rfl) (fun _ _ _ h => h) (Or.inl ⟨by kernel_rfl, fun W hW => by go_simp⟩) ?_
                      simp only [List.getElem_toArray, List.getElem_cons_zero, List.getElem_cons_succ, Act.put, List.setIfInBounds_toArray, List.set_cons_zero, List.set_cons_succ]
                      refine seq_take (o := { dst := some 106, op := Go.Op.move (Go.Operand.tmp 10), type := 3, pos := "more.go:52", after := #[], guard := none }) (v := .int .i64 (Pk : Int)) (by kernel_rfl) (fun _ _ _ h => h) (Or.inl ⟨by kernel_rfl, fun W hW => by go_simp⟩) ?_
                      simp only [List.getElem_toArray, List.getElem_cons_zero, List.getElem_cons_succ, Act.put, List.setIfInBounds_toArray, List.set_cons_zero, List.set_cons_succ]
                      refine seq_take (o := { dst := some 107, op := Go.Op.binOp Go.BinOp.add 3 (Go.Operand.tmp 106) (Go.Operand.const (Go.Value.int Go.IntKind.i64 1)) 3, type := 3, pos := "more.go:52", after := #[{ on := 6, ground := Go.Ground.data }], guard := none }) (v := .int .i64 ((Pk : Int) + 1)) (by kernel_rfl) (fun _ _ _ h => h) (Or.inl ⟨by kernel_rfl, fun W hW => by go_simp⟩) ?_
                      simp only [List.getElem_toArray, List.getElem_cons_zero, List.getElem_cons_succ, Act.put, List.setIfInBounds_toArray, List.set_cons_zero, List.set_cons_succ]
                      refine seq_take (o := { dst := some 108, op := Go.Op.slice 53 (Go.Operand.tmp 105) (some (Go.Operand.tmp 107)) none none, type := 53, pos := "more.go:52", after := #[{ on := 5, ground := Go.Ground.data }, { on := 7, ground := Go.Ground.data }], guard := none }) (v := .slice (some ⟨b2, Pk + 1, none⟩) (j - (Pk + 1)) (cm - (Pk + 1))) (by kernel_rfl) (fun _ _ _ h => h) (Or.inl ⟨by kernel_rfl, fun W hW => by go_simp⟩) ?_
                      simp only [List.getElem_toArray, List.getElem_cons_zero, List.getElem_cons_succ, Act.put, List.setIfInBounds_toArray, List.set_cons_zero, List.set_cons_succ]
                      refine seq_call (o := { dst := some 100, op := Go.Op.buildSlice 53 0 #[], type := 53, pos := "more.go:52", after := #[], guard := none }) (by kernel_rfl) (fun KK hK => ?_)
                      rw [if_pos (by kernel_rfl)]
                      go_simp
                      go_wp2
                      rw [Hp5.out, Hw5.out]
                      refine hK.out _ _ (trivial) ?_
                      clear hK KK
                      try simp only [List.getElem_toArray, List.getElem_cons_zero, List.getElem_cons_succ, Act.put, List.setIfInBounds_toArray, List.set_cons_zero, List.set_cons_succ]
                      refine seq_call (o := { dst := some 104, op := Go.Op.call { callee := Go.Callee.builtin Go.Builtin.append, args := #[Go.Operand.tmp 100, Go.Operand.tmp 103], argTypes := #[53, 53] }, type := 53, pos := "more.go:52", after := #[{ on := 0, ground := Go.Ground.data }, { on := 3, ground := Go.Ground.data }], guard := none }) (by kernel_rfl) (fun KK hK => ?_)
                      rw [if_pos (by kernel_rfl)]
                      refine wp_app (t := 53) (.tmp 100) (.tmp 103) (by rfl) (by rfl) (by rfl) (by rfl) A1 ?_
                      refine hK.out _ _ (trivial) ?_
                      clear hK KK
                      try simp only [List.getElem_toArray, List.getElem_cons_zero, List.getElem_cons_succ, Act.put, List.setIfInBounds_toArray, List.set_cons_zero, List.set_cons_succ]
                      refine seq_call (o := { dst := some 109, op := Go.Op.call { callee := Go.Callee.builtin Go.Builtin.append, args := #[Go.Operand.tmp 104, Go.Operand.tmp 108], argTypes := #[53, 53] }, type := 53, pos := "more.go:52", after := #[{ on := 4, ground := Go.Ground.data }, { on := 8, ground := Go.Ground.data }, { on := 4, ground := Go.Ground.chain }], guard := none }) (by kernel_rfl) (fun KK hK => ?_)
                      rw [if_pos (by kernel_rfl)]
                      refine wp_app (t := 53) (.tmp 104) (.tmp 108) (by rfl) (by rfl) (by rfl) (by rfl) A2 ?_
                      refine hK.out _ _ (trivial) ?_
                      clear hK KK
                      try simp only [List.getElem_toArray, List.getElem_cons_zero, List.getElem_cons_succ, Act.put, List.setIfInBounds_toArray, List.set_cons_zero, List.set_cons_succ]
                      refine seq_take (o := { dst := some 4, op := Go.Op.assign (Go.Operand.tmp 109), type := 53, pos := "more.go:52", after := #[{ on := 9, ground := Go.Ground.data }, { on := 9, ground := Go.Ground.chain }, { on := 0, ground := Go.Ground.phase }, { on := 1, ground := Go.Ground.phase }, { on := 2, ground := Go.Ground.phase }, { on := 3, ground := Go.Ground.phase }, { on := 4, ground := Go.Ground.phase }, { on := 5, ground := Go.Ground.phase }, { on := 6, ground := Go.Ground.phase }, { on := 7, ground := Go.Ground.phase }, { on := 8, ground := Go.Ground.phase }, { on := 9, ground := Go.Ground.phase }], guard := none }) (v := .slice a7 m7 c7) (by kernel_rfl) (fun _ _ _ h => h) (Or.inl ⟨by kernel_rfl, fun W hW => by go_simp⟩) ?_
                      simp only [List.getElem_toArray, List.getElem_cons_zero, List.getElem_cons_succ, Act.put, List.setIfInBounds_toArray, List.set_cons_zero, List.set_cons_succ]
                      show (Exit.inBlock 2 (Exit.then _ _)) .normal _ _
                      go_upto_region 40 with (fail)
                      go_wp2_with (first
                        | (go_at_call 15; refine (waiting_n (show Hid (Nt w7 w.heap.size d a X6 g) from NK.out.nt)).mono ?_; rintro e w8 ⟨gq, rfl, H8⟩)
                        | (go_at_call 16; refine (sameInts_n (lo := 0) (lo2 := w.heap.size) (l := (X6).map Lt.no) (r := (X6).map Lt.no) (show Hid _ from irow_blk H8.out.1 (by simp) NK.out.nt.ln) (show Hid _ from irow_own (NK.out.below H8.out.2.1).row (by have h1 := NK.out.len; have h2 := NK.out.nt.ln; omega))).mono ?_; rintro e w9 ⟨rfl, H9⟩; rw [decide_eq_true rfl]))
                      go_roundw
                      case rel => exact ⟨i + 1, X6, g, a, a7, m7, c7, by omega, by go_num, rfl, rfl, (NK.out.below H8.out.2.1).below H9.out, by have := GI.out; omega⟩
                      case measure => simp [intOf]; omega
            · have HK : Hid (isL nu X = false) := Bool.eq_false_iff.2 hk
              clear hk
              have NL : Hid (∀ (j : Nat) (x : Lt), X[j]? = some x → x.no ≠ nu) := fun j x hx h => by
                have := (pl_at (k := nu) PW.out hx h).2
                rw [HK.out] at this
                cases this
              go_upto_region 26 with (fail)
              go_wp2
              go_loop [10, 68] (fun t10 tj => ∃ j : Nat, j ≤ m ∧ tj = .int .i64 (j : Int) ∧ t10 = .int .i64 (-1)) (fun _ tj => m - (intOf tj).toNat)
              case atStart => exact ⟨0, by omega, rfl, rfl⟩
              case round =>
                obtain ⟨j, hj, rfl, rfl⟩ := hrel
                by_cases hlj : j < m
                · have i3 : (j : Int) < (m : Int) := by omega
                  have jX : j < X.length := by rw [← LM.out]; exact hlj
                  obtain ⟨b2, o2, rfl, e2⟩ := IR.out.at_ hlj
                  rw [mapno_get (List.getElem?_eq_getElem jX)] at e2
                  obtain ⟨z, Hz⟩ : ∃ z : Int, Hid (X[j].no = z) := ⟨X[j].no, (rfl : X[j].no = X[j].no)⟩
                  rw [Hz.out] at e2
                  have hz : ¬ (z = nu) := fun h => NL.out j _ (List.getElem?_eq_getElem jX) (by rw [Hz.out]; exact h)
                  go_wp2
                  go_round
                  case rel => exact ⟨j + 1, by omega, by go_num, rfl⟩
                  case measure => simp [intOf]; omega
                · obtain rfl : j = m := by omega
                  go_upto_region 40 with (go_at_call 13; refine (drop_gone (show Hid _ from N1.out.nt) E1 (by omega) HK).mono ?_; rintro e w4 ⟨rfl, H4⟩)
                  have NK : Hid (NO w w4 d a X g b j cm) := N1.out.below H4.out
                  go_wp2_with (first
                    | (go_at_call 15; refine (waiting_n (show Hid (Nt w4 w.heap.size d a X g) from NK.out.nt)).mono ?_; rintro e w8 ⟨gq, rfl, H8⟩)
                    | (go_at_call 16; refine (sameInts_n (lo := 0) (lo2 := w.heap.size) (l := (X).map Lt.no) (r := (X).map Lt.no) (show Hid _ from irow_blk H8.out.1 (by simp) NK.out.nt.ln) (show Hid _ from irow_own (NK.out.below H8.out.2.1).row (by have h1 := NK.out.len; have h2 := NK.out.nt.ln; omega))).mono ?_; rintro e w9 ⟨rfl, H9⟩; rw [decide_eq_true rfl]))
                  go_roundw
                  case rel => exact ⟨i + 1, X, g, a, b, j, cm, by omega, by go_num, rfl, rfl, (NK.out.below H8.out.2.1).below H9.out, by have := GI.out; omega⟩
                  case measure => simp [intOf]; omega
          · by_cases q2 : kd = 2
            · subst q2
              have IR : Hid (Irow v1 w.heap.size b m (X.map Lt.no)) := irow_own N1.out.row (by have h1 := N1.out.len; have h2 := N1.out.nt.ln; omega)
              have mb : m ≤ 4096 := by rw [LM.out]; exact N1.out.nt.ln
              obtain ⟨Pk, HPk⟩ : ∃ q, Hid (pl nu X = q) := ⟨_, rfl⟩
              have PW : Hid (X.Pairwise (fun x y => x.no < y.no)) := N1.out.nt.rs.pw
              by_cases hk : isL nu X = true
              · have HK : Hid (isL nu X = true) := hk
                obtain ⟨x, hx, hxn⟩ := isL_yes hk
                rw [HPk.out] at hx
                have PX : Hid (X[Pk]? = some x ∧ x.no = nu) := ⟨hx, hxn⟩
                have Pm : Pk < m := by rw [LM.out]; exact (List.getElem?_eq_some_iff.1 hx).1
                clear hk hx hxn
                go_upto_region 26 with (fail)
                go_wp2
                go_loop [10, 68] (fun t10 tj => ∃ j : Nat, j ≤ m ∧ tj = .int .i64 (j : Int) ∧ ((j ≤ Pk ∧ t10 = .int .i64 (-1)) ∨ (Pk < j ∧ t10 = .int .i64 (Pk : Int)))) (fun _ tj => m - (intOf tj).toNat)
                case atStart => exact ⟨0, by omega, rfl, .inl ⟨by omega, rfl⟩⟩
                case round =>
                  obtain ⟨j, hj, rfl, hat⟩ := hrel
                  by_cases hlj : j < m
                  · have i3 : (j : Int) < (m : Int) := by omega
                    have jX : j < X.length := by rw [← LM.out]; exact hlj
                    obtain ⟨b2, o2, rfl, e2⟩ := IR.out.at_ hlj
                    rw [mapno_get (List.getElem?_eq_getElem jX)] at e2
                    obtain ⟨z, Hz⟩ : ∃ z : Int, Hid (X[j].no = z) := ⟨X[j].no, (rfl : X[j].no = X[j].no)⟩
                    rw [Hz.out] at e2
                    have ZE : Hid (z = nu ↔ j = Pk) := by
                      constructor
                      · intro h
                        have := (pl_at (k := nu) PW.out (List.getElem?_eq_getElem jX) (by rw [Hz.out]; exact h)).1
                        rw [HPk.out] at this
                        exact this.symm
                      · rintro rfl
                        have h := PX.out.1
                        rw [List.getElem?_eq_getElem jX] at h
                        cases h
                        rw [← Hz.out]; exact PX.out.2
                    by_cases hz : z = nu
                    · have hjp := ZE.out.1 hz
                      subst hz
                      subst hjp
                      rcases hat with ⟨h1, rfl⟩ | ⟨h1, rfl⟩
                      · go_wp2
                        go_round
                        case rel => exact ⟨j + 1, by omega, by go_num, .inr ⟨by omega, rfl⟩⟩
                        case measure => simp [intOf]; omega
                      · omega
                    · have hjp : j ≠ Pk := fun h => hz (ZE.out.2 h)
                      rcases hat with ⟨h1, rfl⟩ | ⟨h1, rfl⟩
                      · go_wp2
                        go_round
                        case rel => exact ⟨j + 1, by omega, by go_num, .inl ⟨by omega, rfl⟩⟩
                        case measure => simp [intOf]; omega
                      · go_wp2
                        go_round
                        case rel => exact ⟨j + 1, by omega, by go_num, .inr ⟨by omega, rfl⟩⟩
                        case measure => simp [intOf]; omega
                  · obtain rfl : j = m := by omega
                    rcases hat with ⟨h1, rfl⟩ | ⟨h1, rfl⟩
                    · omega
                    · have ip : (0 : Int) ≤ (Pk : Int) := by omega
                      have wq : IntKind.i64.wrap ((Pk : Int) + 1) = (Pk : Int) + 1 := by rw [IntKind.wrap_i64]; omega
                      go_upto_region 39 with (go_at_call 14; refine (deliver_ok (x := x) (show Hid _ from N1.out.nt) (by rw [HPk.out]; exact PX.out.1) HK).mono ?_; rintro e w4 ⟨g4, c4, rfl, H4⟩; rw [HPk.out] at H4)
                      have F4 := N1.out.nf H4.out.1 H4.out.2.1
                      obtain ⟨b2, rfl, _, _, _⟩ := rown_at F4.1 (by omega)
                      have cmj : j ≤ cm := rown_cap F4.1
                      have i5 : Pk ≤ j := by omega
                      have i6 : Pk ≤ cm := by omega
                      have i7 : Pk + 1 ≤ j := by omega
                      have i8 : Pk + 1 ≤ cm := by omega
                      have i9 : (Pk : Int) ≤ (cm : Int) := by omega
                      have i10 : (Pk : Int) + 1 ≤ (j : Int) := by omega
                      have i11 : (0 : Int) ≤ (Pk : Int) + 1 := by omega
                      obtain ⟨sa, Hsa⟩ : ∃ sa : Option Addr, Hid (sa = if cm = Pk + 1 then some ⟨b2, 0, none⟩ else some ⟨b2, Pk + 1, none⟩) := ⟨_, rfl⟩
                      obtain ⟨v4, Hv4⟩ : ∃ v, Hid (w4.drew = v) := ⟨_, rfl⟩
                      obtain ⟨p5, Hp5⟩ : ∃ q, Hid (v4.heap.size = q) := ⟨_, rfl⟩
                      obtain ⟨w5, Hw5⟩ : ∃ v, Hid (v4.alloc (.cells #[] 3) = v) := ⟨_, rfl⟩
                      have D4 : Hid (Below w4.heap.size w4 v4) := by rw [← Hv4.out]; exact (Below.refl _ _).drew
                      have b5 : Hid (Below w4.heap.size w4 w5) := by rw [← Hw5.out, ← Hv4.out]; exact (Below.refl _ _).drew.alloc (Nat.le_refl _) _
                      have z4 : w4.heap.size = p5 := by rw [← Hp5.out, ← Hv4.out]; rfl
                      have z5 : w5.heap.size = p5 + 1 := by rw [← Hw5.out, ← Hp5.out]; simp
                      have zw : w.heap.size ≤ p5 := by rw [← z4]; exact F4.2.size
                      have O5 : w5.ownsRow w.heap.size 3 1 (.slice (some ⟨b2, 0, none⟩) j cm) j ((X.map Lt.no).map iv) := rown_bel F4.1 (fun q e => b5.out.block q (F4.1.lt q e).2)
                      have J5 : w5.ownsRow p5 3 1 (.slice (some ⟨p5, 0, none⟩) 0 0) 0 (([] : List Int).map iv) := ⟨rfl, .inr ⟨p5, 0, #[], rfl, Nat.le_refl _, by rw [← Hw5.out, ← Hp5.out]; exact heap_alloc_new v4 _, Nat.le_refl _, by unfold maxLen; omega, rfl, rfl⟩⟩
                      have I5 : Irow w5 w.heap.size (some ⟨b2, 0, none⟩) j (X.map Lt.no) := irow_own O5 (by omega)
                      have h2b := (F4.1.lt b2 rfl)
                      have hb25 : b2 < p5 := by omega
                      obtain ⟨a6, c6, w6, r1, r2, r3⟩ := app_int J5 (irow_take I5 (p := Pk) (by omega)) (c := cm) (fun h => by cases h) (by omega) (by omega)
                      have A1 : Hid ((Builtin.append_ #[53, 53] 53 #[.slice (some ⟨p5, 0, none⟩) 0 0, .slice (some ⟨b2, 0, none⟩) Pk cm]).run Tryd.prog w5 = .ok (.slice a6 Pk c6) w6) := by have h := r1; rw [Nat.zero_add] at h; exact h
                      have g6 : Below p5 w5 w6 := grown_below r3 (by omega) (fun q e => by cases e; exact Nat.le_refl _)
                      have I6 : Irow w6 w.heap.size (some ⟨b2, 0, none⟩) j (X.map Lt.no) := by
                        have h5 : w5.ownsRow w.heap.size 3 1 (.slice (some ⟨b2, 0, none⟩) j cm) j ((X.map Lt.no).map iv) := O5
                        exact irow_own (rown_bel h5 (fun q e => g6.block q (by cases e; exact hb25))) (by omega)
                      have I7 : Irow w6 w.heap.size sa (j - (Pk + 1)) ((X.map Lt.no).drop (Pk + 1)) := by
                        rw [Hsa.out]
                        split
                        · have e0 : j - (Pk + 1) = 0 := by omega
                          have e1 : (X.map Lt.no).drop (Pk + 1) = [] := List.drop_of_length_le (by rw [List.length_map, ← LM.out]; omega)
                          rw [e0, e1]
                          exact irow_nil _ _ _
                        · exact irow_drop I6 (by omega)
                      rw [Nat.zero_add] at r1 r2
                      obtain ⟨a7, c7, w7, s1, s2, s3⟩ := app_int r2 I7 (c := cm - (Pk + 1)) (fun h => by rw [Hsa.out] at h; split at h <;> cases h) (by omega) (by have := r3.size; omega)
                      obtain ⟨m7, Hm7⟩ : ∃ q, Hid (Pk + (j - (Pk + 1)) = q) := ⟨_, rfl⟩
                      rw [Hm7.out] at s1 s2
                      have A2 : Hid ((Builtin.append_ #[53, 53] 53 #[.slice a6 Pk c6, .slice sa (j - (Pk + 1)) (cm - (Pk + 1))]).run Tryd.prog w6 = .ok (.slice a7 m7 c7) w7) := s1
                      have g7 : Below p5 w6 w7 := grown_below s3 (Nat.le_trans (by omega) r3.size) (fun q e => (r2.lt q e).1)
                      have GG : Below w4.heap.size w4 w7 := by
                        have h1 := b5.out
                        rw [z4] at h1 ⊢
                        exact (h1.trans g6).trans g7
                      have NK : Hid (NO w w7 d a (X.eraseIdx Pk) g a7 m7 c7) := by
                        refine ⟨H4.out.1.below GG, ?_, F4.2.trans (GG.mono F4.2.size)⟩
                        have h := rown_mono s2 (show w.heap.size ≤ p5 by rw [← z4]; exact F4.2.size)
                        have e : (X.eraseIdx Pk).map Lt.no = [] ++ (X.map Lt.no).take Pk ++ (X.map Lt.no).drop (Pk + 1) := by rw [pl_del (k := 0), List.map_take, List.map_drop]; rfl
                        rw [e]
                        exact h
                      obtain ⟨X6, HX6⟩ : ∃ q, Hid (X.eraseIdx Pk = q) := ⟨_, rfl⟩
                      rw [HX6.out] at NK
                      clear r1 r2 r3 s1 s2 s3 g6 g7 I5 I6 I7 O5 J5 GG F4
                      by_cases hc : cm = Pk + 1
                      · have ic : (cm = Pk + 1) = True := eq_true hc
                        have SA : Hid (sa = some ⟨b2, 0, none⟩) := by show _ = _; rw [Hsa.out, if_pos hc]
                        clear hc
                        rw [SA.out] at A2
                        refine wp_region_seq (C := fun W => True) [(1, false), (2, false), (3, false), (5, false), (6, false), (7, false), (8, false), (0, true), (4, true), (9, true), (10, false)] (by kernel_rfl) (by kernel_rfl) (trivial) ?_
                        rw [Hv4.out]
                        refine seq_take (o := { dst := some 101, op := Go.Op.move (Go.Operand.tmp 4), type := 53, pos := "more.go:52", after := #[], guard := none }) (v := .slice (some ⟨b2, 0, none⟩) j cm) (by kernel_rfl) (fun _ _ _ h => h) (Or.inl ⟨by kernel_rfl, fun W hW => by go_simp⟩) ?_
                        simp only [List.getElem_toArray, List.getElem_cons_zero, List.getElem_cons_succ, Act.put, List.setIfInBounds_toArray, List.set_cons_zero, List.set_cons_succ]
                        refine seq_take (o := { dst := some 102, op := Go.Op.move (Go.Operand.tmp 10), type := 3, pos := "more.go:52", after := #[], guard := none }) (v := .int .i64 (Pk : Int)) (by kernel_rfl) (fun _ _ _ h => h) (Or.inl ⟨by kernel_rfl, fun W hW => by go_simp⟩) ?_
                        simp only [List.getElem_toArray, List.getElem_cons_zero, List.getElem_cons_succ, Act.put, List.setIfInBounds_toArray, List.set_cons_zero, List.set_cons_succ]
                        refine seq_take (o := { dst := some 103, op := Go.Op.slice 53 (Go.Operand.tmp 101) none (some (Go.Operand.tmp 102)) none, type := 53, pos := "more.go:52", after := #[{ on := 1, ground := Go.Ground.data }, { on := 2, ground := Go.Ground.data }], guard := none }) (v := .slice (some ⟨b2, 0, none⟩) Pk cm) (by kernel_rfl) (fun _ _ _ h => h) (Or.inl ⟨by kernel_rfl, fun W hW => by go_simp⟩) ?_
                        simp only [List.getElem_toArray, List.getElem_cons_zero, List.getElem_cons_succ, Act.put, List.setIfInBounds_toArray, List.set_cons_zero, List.set_cons_succ]
                        refine seq_take (o := { dst := some 105, op := Go.Op.move (Go.Operand.tmp 4), type := 53, pos := "more.go:52", after := #[], guard := none }) (v := .slice (some ⟨b2, 0, none⟩) j cm) (by kernel_rfl) (fun _ _ _ h => h) (Or.inl ⟨by kernel_rfl, fun W hW => by go_simp⟩) ?_
                        simp only [List.getElem_toArray, List.getElem_cons_zero, List.getElem_cons_succ, Act.put, List.setIfInBounds_toArray, List.set_cons_zero, List.set_cons_succ]
                        refine seq_take (o := { dst := some 106, op := Go.Op.move (Go.Operand.tmp 10), type := 3, pos := "more.go:52", after := #[], guard := none }) (v := .int .i64 (Pk : Int)) (by kernel_rfl) (fun _ _ _ h => h) (Or.inl ⟨by kernel_rfl, fun W hW => by go_simp⟩) ?_
                        simp only [List.getElem_toArray, List.getElem_cons_zero, List.getElem_cons_succ, Act.put, List.setIfInBounds_toArray, List.set_cons_zero, List.set_cons_succ]
                        refine seq_take (o := { dst := some 107, op := Go.Op.binOp Go.BinOp.add 3 (Go.Operand.tmp 106) (Go.Operand.const (Go.Value.int Go.IntKind.i64 1)) 3, type := 3, pos := "more.go:52", after := #[{ on := 6, ground := Go.Ground.data }], guard := none }) (v := .int .i64 ((Pk : Int) + 1)) (by kernel_rfl) (fun _ _ _ h => h) (Or.inl ⟨by kernel_rfl, fun W hW => by go_simp⟩) ?_
                        simp only [List.getElem_toArray, List.getElem_cons_zero, List.getElem_cons_succ, Act.put, List.setIfInBounds_toArray, List.set_cons_zero, List.set_cons_succ]
                        refine seq_take (o := { dst := some 108, op := Go.Op.slice 53 (Go.Operand.tmp 105) (some (Go.Operand.tmp 107)) none none, type := 53, pos := "more.go:52", after := #[{ on := 5, ground := Go.Ground.data }, { on := 7, ground := Go.Ground.data }], guard := none }) (v := .slice (some ⟨b2, 0, none⟩) (j - (Pk + 1)) (cm - (Pk + 1))) (by kernel_rfl) (fun _ _ _ h => h) (Or.inl ⟨by kernel_rfl, fun W hW => by go_simp⟩) ?_
                        simp only [List.getElem_toArray, List.getElem_cons_zero, List.getElem_cons_succ, Act.put, List.setIfInBounds_toArray, List.set_cons_zero, List.set_cons_succ]
                        refine seq_call (o := { dst := some 100, op := Go.Op.buildSlice 53 0 #[], type := 53, pos := "more.go:52", after := #[], guard := none }) (by kernel_rfl) (fun KK hK => ?_)
                        rw [if_pos (by kernel_rfl)]
                        go_simp
                        go_wp2
                        rw [Hp5.out, Hw5.out]
                        refine hK.out _ _ (trivial) ?_
                        clear hK KK
                        try simp only [List.getElem_toArray, List.getElem_cons_zero, List.getElem_cons_succ, Act.put, List.setIfInBounds_toArray, List.set_cons_zero, List.set_cons_succ]
                        refine seq_call (o := { dst := some 104, op := Go.Op.call { callee := Go.Callee.builtin Go.Builtin.append, args := #[Go.Operand.tmp 100, Go.Operand.tmp 103], argTypes := #[53, 53] }, type := 53, pos := "more.go:52", after := #[{ on := 0, ground := Go.Ground.data }, { on := 3, ground := Go.Ground.data }], guard := none }) (by kernel_rfl) (fun KK hK => ?_)
                        rw [if_pos (by kernel_rfl)]
                        refine wp_app (t := 53) (.tmp 100) (.tmp 103) (by rfl) (by rfl) (by rfl) (by rfl) A1 ?_
                        refine hK.out _ _ (trivial) ?_
                        clear hK KK
                        try simp only [List.getElem_toArray, List.getElem_cons_zero, List.getElem_cons_succ, Act.put, List.setIfInBounds_toArray, List.set_cons_zero, List.set_cons_succ]
                        refine seq_call (o := { dst := some 109, op := Go.Op.call { callee := Go.Callee.builtin Go.Builtin.append, args := #[Go.Operand.tmp 104, Go.Operand.tmp 108], argTypes := #[53, 53] }, type := 53, pos := "more.go:52", after := #[{ on := 4, ground := Go.Ground.data }, { on := 8, ground := Go.Ground.data }, { on := 4, ground := Go.Ground.chain }], guard := none }) (by kernel_rfl) (fun KK hK => ?_)
                        rw [if_pos (by kernel_rfl)]
                        refine wp_app (t := 53) (.tmp 104) (.tmp 108) (by rfl) (by rfl) (by rfl) (by rfl) A2 ?_
                        refine hK.out _ _ (trivial) ?_
                        clear hK KK
                        try simp only [List.getElem_toArray, List.getElem_cons_zero, List.getElem_cons_succ, Act.put, List.setIfInBounds_toArray, List.set_cons_zero, List.set_cons_succ]
                        refine seq_take (o := { dst := some 4, op := Go.Op.assign (Go.Operand.tmp 109), type := 53, pos := "more.go:52", after := #[{ on := 9, ground := Go.Ground.data }, { on := 9, ground := Go.Ground.chain }, { on := 0, ground := Go.Ground.phase }, { on := 1, ground := Go.Ground.phase }, { on := 2, ground := Go.Ground.phase }, { on := 3, ground := Go.Ground.phase }, { on := 4, ground := Go.Ground.phase }, { on := 5, ground := Go.Ground.phase }, { on := 6, ground := Go.Ground.phase }, { on := 7, ground := Go.Ground.phase }, { on := 8, ground := Go.Ground.phase }, { on := 9, ground := Go.Ground.phase }], guard := none }) (v := .slice a7 m7 c7) (by kernel_rfl) (fun _ _ _ h => h) (Or.inl ⟨by kernel_rfl, fun W hW => by go_simp⟩) ?_
                        simp only [List.getElem_toArray, List.getElem_cons_zero, List.getElem_cons_succ, Act.put, List.setIfInBounds_toArray, List.set_cons_zero, List.set_cons_succ]
                        show (Exit.inBlock 2 (Exit.then _ _)) .normal _ _
                        go_upto_region 40 with (fail)
                        go_wp2_with (first
                          | (go_at_call 15; refine (waiting_n (show Hid (Nt w7 w.heap.size d a X6 g) from NK.out.nt)).mono ?_; rintro e w8 ⟨gq, rfl, H8⟩)
                          | (go_at_call 16; refine (sameInts_n (lo := 0) (lo2 := w.heap.size) (l := (X6).map Lt.no) (r := (X6).map Lt.no) (show Hid _ from irow_blk H8.out.1 (by simp) NK.out.nt.ln) (show Hid _ from irow_own (NK.out.below H8.out.2.1).row (by have h1 := NK.out.len; have h2 := NK.out.nt.ln; omega))).mono ?_; rintro e w9 ⟨rfl, H9⟩; rw [decide_eq_true rfl]))
                        go_roundw
                        case rel => exact ⟨i + 1, X6, g, a, a7, m7, c7, by omega, by go_num, rfl, rfl, (NK.out.below H8.out.2.1).below H9.out, by have := GI.out; omega⟩
                        case measure => simp [intOf]; omega
                      · have ic : ¬ (cm = Pk + 1) := hc
                        have SA : Hid (sa = some ⟨b2, Pk + 1, none⟩) := by show _ = _; rw [Hsa.out, if_neg hc]
                        clear hc
                        rw [SA.out] at A2
                        refine wp_region_seq (C := fun W => True) [(1, false), (2, false), (3, false), (5, false), (6, false), (7, false), (8, false), (0, true), (4, true), (9, true), (10, false)] (by kernel_rfl) (by kernel_rfl) (trivial) ?_
                        rw [Hv4.out]
                        refine seq_take (o := { dst := some 101, op := Go.Op.move (Go.Operand.tmp 4), type := 53, pos := "more.go:52", after := #[], guard := none }) (v := .slice (some ⟨b2, 0, none⟩) j cm) (by kernel_rfl) (fun _ _ _ h => h) (Or.inl ⟨by kernel_rfl, fun W hW => by go_simp⟩) ?_
                        simp only [List.getElem_toArray, List.getElem_cons_zero, List.getElem_cons_succ, Act.put, List.setIfInBounds_toArray, List.set_cons_zero, List.set_cons_succ]
                        refine seq_take (o := { dst := some 102, op := Go.Op.move (Go.Operand.tmp 10), type := 3, pos := "more.go:52", after := #[], guard := none }) (v := .int .i64 (Pk : Int)) (by kernel_rfl) (fun _ _ _ h => h) (Or.inl ⟨by kernel_rfl, fun W hW => by go_simp⟩) ?_
                        simp only [List.getElem_toArray, List.getElem_cons_zero, List.getElem_cons_succ, Act.put, List.setIfInBounds_toArray, List.set_cons_zero, List.set_cons_succ]
                        refine seq_take (o := { dst := some 103, op := Go.Op.slice 53 (Go.Operand.tmp 101) none (some (Go.Operand.tmp 102)) none, type := 53, pos := "more.go:52", after := #[{ on := 1, ground := Go.Ground.data }, { on := 2, ground := Go.Ground.data }], guard := none }) (v := .slice (some ⟨b2, 0, none⟩) Pk cm) (by kernel_rfl) (fun _ _ _ h => h) (Or.inl ⟨by kernel_rfl, fun W hW => by go_simp⟩) ?_
                        simp only [List.getElem_toArray, List.getElem_cons_zero, List.getElem_cons_succ, Act.put, List.setIfInBounds_toArray, List.set_cons_zero, List.set_cons_succ]
                        refine seq_take (o := { dst := some 105, op := Go.Op.move (Go.Operand.tmp 4), type := 53, pos := "more.go:52", after := #[], guard := none }) (v := .slice (some ⟨b2, 0, none⟩) j cm) (by kernel_rfl) (fun _ _ _ h => h) (Or.inl ⟨by kernel_rfl, fun W hW => by go_simp⟩) ?_
                        simp only [List.getElem_toArray, List.getElem_cons_zero, List.getElem_cons_succ, Act.put, List.setIfInBounds_toArray, List.set_cons_zero, List.set_cons_succ]
                        refine seq_take (o := { dst := some 106, op := Go.Op.move (Go.Operand.tmp 10), type := 3, pos := "more.go:52", after := #[], guard := none }) (v := .int .i64 (Pk : Int)) (by kernel_rfl) (fun _ _ _ h => h) (Or.inl ⟨by kernel_rfl, fun W hW => by go_simp⟩) ?_
                        simp only [List.getElem_toArray, List.getElem_cons_zero, List.getElem_cons_succ, Act.put, List.setIfInBounds_toArray, List.set_cons_zero, List.set_cons_succ]
                        refine seq_take (o := { dst := some 107, op := Go.Op.binOp Go.BinOp.add 3 (Go.Operand.tmp 106) (Go.Operand.const (Go.Value.int Go.IntKind.i64 1)) 3, type := 3, pos := "more.go:52", after := #[{ on := 6, ground := Go.Ground.data }], guard := none }) (v := .int .i64 ((Pk : Int) + 1)) (by kernel_rfl) (fun _ _ _ h => h) (Or.inl ⟨by kernel_rfl, fun W hW => by go_simp⟩) ?_
                        simp only [List.getElem_toArray, List.getElem_cons_zero, List.getElem_cons_succ, Act.put, List.setIfInBounds_toArray, List.set_cons_zero, List.set_cons_succ]
                        refine seq_take (o := { dst := some 108, op := Go.Op.slice 53 (Go.Operand.tmp 105) (some (Go.Operand.tmp 107)) none none, type := 53, pos := "more.go:52", after := #[{ on := 5, ground := Go.Ground.data }, { on := 7, ground := Go.Ground.data }], guard := none }) (v := .slice (some ⟨b2, Pk + 1, none⟩) (j - (Pk + 1)) (cm - (Pk + 1))) (by kernel_rfl) (fun _ _ _ h => h) (Or.inl ⟨by kernel_rfl, fun W hW => by go_simp⟩) ?_
                        simp only [List.getElem_toArray, List.getElem_cons_zero, List.getElem_cons_succ, Act.put, List.setIfInBounds_toArray, List.set_cons_zero, List.set_cons_succ]
                        refine seq_call (o := { dst := some 100, op := Go.Op.buildSlice 53 0 #[], type := 53, pos := "more.go:52", after := #[], guard := none }) (by kernel_rfl) (fun KK hK => ?_)
                        rw [if_pos (by kernel_rfl)]
                        go_simp
                        go_wp2
                        rw [Hp5.out, Hw5.out]
                        refine hK.out _ _ (trivial) ?_
                        clear hK KK
                        try simp only [List.getElem_toArray, List.getElem_cons_zero, List.getElem_cons_succ, Act.put, List.setIfInBounds_toArray, List.set_cons_zero, List.set_cons_succ]
                        refine seq_call (o := { dst := some 104, op := Go.Op.call { callee := Go.Callee.builtin Go.Builtin.append, args := #[Go.Operand.tmp 100, Go.Operand.tmp 103], argTypes := #[53, 53] }, type := 53, pos := "more.go:52", after := #[{ on := 0, ground := Go.Ground.data }, { on := 3, ground := Go.Ground.data }], guard := none }) (by kernel_rfl) (fun KK hK => ?_)
                        rw [if_pos (by kernel_rfl)]
                        refine wp_app (t := 53) (.tmp 100) (.tmp 103) (by rfl) (by rfl) (by rfl) (by rfl) A1 ?_
                        refine hK.out _ _ (trivial) ?_
                        clear hK KK
                        try simp only [List.getElem_toArray, List.getElem_cons_zero, List.getElem_cons_succ, Act.put, List.setIfInBounds_toArray, List.set_cons_zero, List.set_cons_succ]
                        refine seq_call (o := { dst := some 109, op := Go.Op.call { callee := Go.Callee.builtin Go.Builtin.append, args := #[Go.Operand.tmp 104, Go.Operand.tmp 108], argTypes := #[53, 53] }, type := 53, pos := "more.go:52", after := #[{ on := 4, ground := Go.Ground.data }, { on := 8, ground := Go.Ground.data }, { on := 4, ground := Go.Ground.chain }], guard := none }) (by kernel_rfl) (fun KK hK => ?_)
                        rw [if_pos (by kernel_rfl)]
                        refine wp_app (t := 53) (.tmp 104) (.tmp 108) (by rfl) (by rfl) (by rfl) (by rfl) A2 ?_
                        refine hK.out _ _ (trivial) ?_
                        clear hK KK
                        try simp only [List.getElem_toArray, List.getElem_cons_zero, List.getElem_cons_succ, Act.put, List.setIfInBounds_toArray, List.set_cons_zero, List.set_cons_succ]
                        refine seq_take (o := { dst := some 4, op := Go.Op.assign (Go.Operand.tmp 109), type := 53, pos := "more.go:52", after := #[{ on := 9, ground := Go.Ground.data }, { on := 9, ground := Go.Ground.chain }, { on := 0, ground := Go.Ground.phase }, { on := 1, ground := Go.Ground.phase }, { on := 2, ground := Go.Ground.phase }, { on := 3, ground := Go.Ground.phase }, { on := 4, ground := Go.Ground.phase }, { on := 5, ground := Go.Ground.phase }, { on := 6, ground := Go.Ground.phase }, { on := 7, ground := Go.Ground.phase }, { on := 8, ground := Go.Ground.phase }, { on := 9, ground := Go.Ground.phase }], guard := none }) (v := .slice a7 m7 c7) (by kernel_rfl) (fun _ _ _ h => h) (Or.inl ⟨by kernel_rfl, fun W hW => by go_simp⟩) ?_
                        simp only [List.getElem_toArray, List.getElem_cons_zero, List.getElem_cons_succ, Act.put, List.setIfInBounds_toArray, List.set_cons_zero, List.set_cons_succ]
                        show (Exit.inBlock 2 (Exit.then _ _)) .normal _ _
                        go_upto_region 40 with (fail)
                        go_wp2_with (first
                          | (go_at_call 15; refine (waiting_n (show Hid (Nt w7 w.heap.size d a X6 g) from NK.out.nt)).mono ?_; rintro e w8 ⟨gq, rfl, H8⟩)
                          | (go_at_call 16; refine (sameInts_n (lo := 0) (lo2 := w.heap.size) (l := (X6).map Lt.no) (r := (X6).map Lt.no) (show Hid _ from irow_blk H8.out.1 (by simp) NK.out.nt.ln) (show Hid _ from irow_own (NK.out.below H8.out.2.1).row (by have h1 := NK.out.len; have h2 := NK.out.nt.ln; omega))).mono ?_; rintro e w9 ⟨rfl, H9⟩; rw [decide_eq_true rfl]))
                        go_roundw
                        case rel => exact ⟨i + 1, X6, g, a, a7, m7, c7, by omega, by go_num, rfl, rfl, (NK.out.below H8.out.2.1).below H9.out, by have := GI.out; omega⟩
                        case measure => simp [intOf]; omega
              · have HK : Hid (isL nu X = false) := Bool.eq_false_iff.2 hk
                clear hk
                have NL : Hid (∀ (j : Nat) (x : Lt), X[j]? = some x → x.no ≠ nu) := fun j x hx h => by
                  have := (pl_at (k := nu) PW.out hx h).2
                  rw [HK.out] at this
                  cases this
                go_upto_region 26 with (fail)
                go_wp2
                go_loop [10, 68] (fun t10 tj => ∃ j : Nat, j ≤ m ∧ tj = .int .i64 (j : Int) ∧ t10 = .int .i64 (-1)) (fun _ tj => m - (intOf tj).toNat)
                case atStart => exact ⟨0, by omega, rfl, rfl⟩
                case round =>
                  obtain ⟨j, hj, rfl, rfl⟩ := hrel
                  by_cases hlj : j < m
                  · have i3 : (j : Int) < (m : Int) := by omega
                    have jX : j < X.length := by rw [← LM.out]; exact hlj
                    obtain ⟨b2, o2, rfl, e2⟩ := IR.out.at_ hlj
                    rw [mapno_get (List.getElem?_eq_getElem jX)] at e2
                    obtain ⟨z, Hz⟩ : ∃ z : Int, Hid (X[j].no = z) := ⟨X[j].no, (rfl : X[j].no = X[j].no)⟩
                    rw [Hz.out] at e2
                    have hz : ¬ (z = nu) := fun h => NL.out j _ (List.getElem?_eq_getElem jX) (by rw [Hz.out]; exact h)
                    go_wp2
                    go_round
                    case rel => exact ⟨j + 1, by omega, by go_num, rfl⟩
                    case measure => simp [intOf]; omega
                  · obtain rfl : j = m := by omega
                    go_upto_region 40 with (go_at_call 14; refine (deliver_gone (show Hid _ from N1.out.nt) E1 (by omega) HK).mono ?_; rintro e w4 ⟨rfl, H4⟩)
                    have NK : Hid (NO w w4 d a X g b j cm) := N1.out.below H4.out
                    go_wp2_with (first
                      | (go_at_call 15; refine (waiting_n (show Hid (Nt w4 w.heap.size d a X g) from NK.out.nt)).mono ?_; rintro e w8 ⟨gq, rfl, H8⟩)
                      | (go_at_call 16; refine (sameInts_n (lo := 0) (lo2 := w.heap.size) (l := (X).map Lt.no) (r := (X).map Lt.no) (show Hid _ from irow_blk H8.out.1 (by simp) NK.out.nt.ln) (show Hid _ from irow_own (NK.out.below H8.out.2.1).row (by have h1 := NK.out.len; have h2 := NK.out.nt.ln; omega))).mono ?_; rintro e w9 ⟨rfl, H9⟩; rw [decide_eq_true rfl]))
                    go_roundw
                    case rel => exact ⟨i + 1, X, g, a, b, j, cm, by omega, by go_num, rfl, rfl, (NK.out.below H8.out.2.1).below H9.out, by have := GI.out; omega⟩
                    case measure => simp [intOf]; omega
            · go_upto_region 40 with (fail)
              have NK : Hid (NO w v1 d a X g b m cm) := N1
              go_wp2_with (first
                | (go_at_call 15; refine (waiting_n (show Hid (Nt v1 w.heap.size d a X g) from NK.out.nt)).mono ?_; rintro e w8 ⟨gq, rfl, H8⟩)
                | (go_at_call 16; refine (sameInts_n (lo := 0) (lo2 := w.heap.size) (l := (X).map Lt.no) (r := (X).map Lt.no) (show Hid _ from irow_blk H8.out.1 (by simp) NK.out.nt.ln) (show Hid _ from irow_own (NK.out.below H8.out.2.1).row (by have h1 := NK.out.len; have h2 := NK.out.nt.ln; omega))).mono ?_; rintro e w9 ⟨rfl, H9⟩; rw [decide_eq_true rfl]))
              go_roundw
              case rel => exact ⟨i + 1, X, g, a, b, m, cm, by omega, by go_num, rfl, rfl, (NK.out.below H8.out.2.1).below H9.out, by have := GI.out; omega⟩
              case measure => simp [intOf]; omega
    · have hin : ¬ ((i : Int) < (n : Int)) := by omega
      have B9 : Hid (Below w.heap.size w wr) := HI.out.1.bel
      clear HI
      go_wp2
      go_ret
      exact ⟨rfl, B9.out⟩
end Go.Proofs.YtkjebbpmafhpgaaDoor
