/- NetCounts: the law's own walk. -/
import Derived.Test.YtkjebbpmafhpgaaDoorNl
namespace Go.Proofs.YtkjebbpmafhpgaaDoor
open Go.ChangeShapes Go.WideShapes Go.ChangeAt Go.RowKit
set_option maxRecDepth 20000
set_option linter.unusedVariables false
set_option linter.unusedSimpArgs false
theorem u8_of (z : Int) : ∃ v : Nat, z % 256 = (v : Int) ∧ v < 256 := ⟨(z % 256).toNat, by omega, by omega⟩
set_option maxHeartbeats 16000000 in
theorem counts_n {w : World} {E : Nat → Addr} {a0 : Option Addr} {n c0 : Nat} {L : List Opt} (hO : Hid (Ops w a0 n L)) (hn : n ≤ 140737488351232) (hE : Hid (Sent w 3 E)) :
    Calls Tryd.prog 4 #[.slice a0 n c0] w fun e w' => e = .returned (.bool true) ∧ Hid (Below w.heap.size w w') := by
  have zv := zv40
  obtain ⟨Z, HZ⟩ : ∃ Z, Hid (la (fun _ => 0) = Z) := ⟨_, rfl⟩
  rw [HZ.out] at zv
  go_enter Tryd.func4, Tryd.ntmps4
  go_upto_region 6 with (first
    | (go_at_call 6; refine (alive_n hE (by omega)).mono ?_; rintro e w1 ⟨rfl, H1⟩)
    | (go_at_call 7; refine (new_n w1 w.heap.size H1.out.size).mono ?_; rintro e w2 ⟨d, rfl, H2⟩))
  obtain ⟨q, Hq⟩ : ∃ q, Hid (w2.heap.size = q) := ⟨_, rfl⟩
  obtain ⟨w3, Hw3⟩ : ∃ v, Hid (w2.alloc (.cells Z 40) = v) := ⟨_, rfl⟩
  obtain ⟨w4, Hw4⟩ : ∃ v, Hid (w3.alloc (.cells #[.int .u8 0] 5) = v) := ⟨_, rfl⟩
  obtain ⟨q3, Hq3⟩ : ∃ q, Hid (w3.heap.size = q) := ⟨_, rfl⟩
  have R0 : Hid (NC w w4 d none [] 0 q (fun _ => 0) (some ⟨q3, 0, none⟩) 1 1 [0] ∧ (0 : Int) ≤ ((0 : Nat) : Int) ∧ ∀ v, v < 256 → (0 : Int) = cn [] v) := by
    have b2 : Below w.heap.size w w2 := H1.out.trans (H2.out.2.1.mono H1.out.size)
    have b3 : Below w2.heap.size w2 w3 := by rw [← Hw3.out]; exact alloc1 w2 _
    have b4 : Below w3.heap.size w3 w4 := by rw [← Hw4.out]; exact alloc1 w3 _
    have b34 : Below w2.heap.size w2 w4 := b3.trans (b4.mono b3.size)
    have k3 : w3.heap[q]? = some (.cells (la fun _ => 0) 40 (0, 0)) := by rw [← Hw3.out, ← Hq.out, HZ.out]; exact heap_alloc_new w2 _
    refine ⟨⟨H2.out.1.below b34, (b4.block q (Array.getElem?_eq_some_iff.1 k3).1).trans k3, ⟨rfl, .inr ⟨q3, 1, #[.int .u8 0], rfl, by have := b2.size; have := b3.size; have := Hq3.out; omega, by rw [← Hw4.out, ← Hq3.out]; exact heap_alloc_new w3 _, Nat.le_refl _, by unfold maxLen; omega, rfl, rfl⟩⟩, by have := b2.size; have := Hq.out; omega, b2.trans (b34.mono b2.size), rfl, by simp, fun x hx => by cases hx⟩, by omega, fun v _ => rfl⟩
  clear H1 H2
  go_upto_region 7 with (fail)
  rw [Hq.out, Hw3.out]
  go_upto_region 8 with (fail)
  rw [Hq3.out, Hw4.out]
  go_wp2
  go_loopw [5, 28] (fun t5 ti wr => ∃ (i : Nat) (X : List Lt) (g : Int) (a b : Option Addr) (C : Nat → Int) (m cm : Nat) (ML : List Nat), i ≤ n ∧ ti = .int .i64 i ∧ t5 = .slice b m cm ∧ Hid (NC w wr d a X g q C b m cm ML ∧ g ≤ (i : Int) ∧ ∀ v, v < 256 → C v = cn X v)) (fun _ ti _ => n - (intOf ti).toNat)
  case atStart => exact ⟨0, [], 0, none, _, _, 1, 1, [0], by omega, rfl, rfl, R0.out⟩
  case round =>
    obtain ⟨i, X, g, a, b, C, m, cm, ML, hi, rfl, rfl, HI⟩ := hrel
    clear R0
    by_cases hlt : i < n
    · obtain ⟨bo, oo, rfl, hb, hrow⟩ := hO.out.row.resolve_left (by omega)
      obtain ⟨a', n', c', hop⟩ := hrow i hlt
      have BL : Hid (Below w.heap.size w wr) := HI.out.1.bel
      obtain ⟨y, Hy⟩ : ∃ y, Hid (L.getD i o0 = y) := ⟨_, rfl⟩
      rw [Hy.out] at hop
      obtain ⟨kd, wh, fr, tt, nu, bs⟩ := y
      have OP := hop.below BL.out
      have k0 : wr.cell? ⟨bo, oo + i * 6, none⟩ = some (.int .i64 kd) := OP.c0
      have k1 : wr.cell? ⟨bo, oo + i * 6 + 1, none⟩ = some (.int .i64 wh) := OP.c1
      have k2 : wr.cell? ⟨bo, oo + i * 6 + 2, none⟩ = some (.int .i64 fr) := OP.c2
      have k3 : wr.cell? ⟨bo, oo + i * 6 + 3, none⟩ = some (.int .i64 tt) := OP.c3
      have k4 : wr.cell? ⟨bo, oo + i * 6 + 4, none⟩ = some (.int .i64 nu) := OP.c4
      have k5 : wr.cell? ⟨bo, oo + i * 6 + 5, none⟩ = some (.slice a' n' c') := OP.c5
      have i2 : (i : Int) < (n : Int) := by omega
      have GB : Hid (g < 4611686018427387904) := by show _ < _; have := HI.out.2.1; omega
      obtain ⟨p1, Hp1⟩ : ∃ q, Hid (wr.heap.size = q) := ⟨_, rfl⟩
      obtain ⟨v1, Hv1⟩ : ∃ v, Hid (wr.alloc (.cells #[.int .i64 kd, .int .i64 wh, .int .i64 fr, .int .i64 tt, .int .i64 nu, .slice a' n' c'] 34) = v) := ⟨_, rfl⟩
      have b1 : Hid (Below wr.heap.size wr v1) := by rw [← Hv1.out]; exact alloc1 wr _
      have BX : Hid (v1.heap[p1]? = some (.cells #[.int .i64 kd, .int .i64 wh, .int .i64 fr, .int .i64 tt, .int .i64 nu, .slice a' n' c'] 34 (0, 0))) := by rw [← Hv1.out, ← Hp1.out]; exact heap_alloc_new wr _
      have N1 : Hid (NC w v1 d a X g q C b m cm ML) := HI.out.1.below b1.out
      have GI : Hid (g ≤ (i : Int)) := HI.out.2.1
      have HC : Hid (∀ v, v < 256 → C v = cn X v) := HI.out.2.2
      have QP : Hid (p1 ≠ q) := by
        show _ ≠ _
        have h1 := (Array.getElem?_eq_some_iff.1 HI.out.1.lf).1
        have := Hp1.out
        omega
      have MB : Hid (m ≤ 140737488352256) := by show _ ≤ _; have h1 := N1.out.ml; have h2 := GI.out; omega
      have em : g + 1 = (m : Int) := N1.out.ml
      have E1 : Hid (Sent v1 3 E) := hE.out.below N1.out.bel
      have j0 : v1.cell? ⟨p1, 0, none⟩ = some (.int .i64 kd) := by simp [World.cell?, BX.out]
      have j4 : v1.cell? ⟨p1, 4, none⟩ = some (.int .i64 nu) := by simp [World.cell?, BX.out]
      clear hop OP hrow hb HI BL
      go_upto_region 11 with (fail)
      rw [Hv1.out, Hp1.out]
      clear k0 k1 k2 k3 k4 k5 b1
      by_cases q1 : kd = 1
      · subst q1
        obtain ⟨v, hv0, hv⟩ := u8_of nu
        have wu : IntKind.u8.wrap nu = (v : Int) := by rw [← hv0]; rfl
        have wu2 : nu % 256 = (v : Int) := hv0
        clear hv0
        have Nb : Hid (NC w (v1.alloc (.cells #[.int .u8 (v : Int)] 5)) d a X g q C b m cm ML) := N1.out.below (alloc1 v1 _)
        have BXb : Hid ((v1.alloc (.cells #[.int .u8 (v : Int)] 5)).heap[p1]? = some (.cells #[.int .i64 1, .int .i64 wh, .int .i64 fr, .int .i64 tt, .int .i64 nu, .slice a' n' c'] 34 (0, 0))) := (Below.heap_alloc v1 _ p1 (Array.getElem?_eq_some_iff.1 BX.out).1).trans BX.out
        have Sb : Hid (Sln (v1.alloc (.cells #[.int .u8 (v : Int)] 5)) (some ⟨v1.heap.size, 0, none⟩) 1 [v]) := one_slnF v1 v hv _
        have Eb : Hid (Sent (v1.alloc (.cells #[.int .u8 (v : Int)] 5)) 3 E) := E1.out.below (alloc1 v1 _)
        have n1 : Hid (ndB 1 = true) := nd1
        have n2 : Hid (ndB 2 = true) := by show ndB 2 = true; decide
        by_cases hf : X.length < 4096
        · have HL : Hid (X.length < 4096) := hf
          clear hf
          go_upto_region 15 with (go_at_call 10; refine (send_ok (cb := 1) (show Hid (Nt (v1.alloc (.cells #[.int .u8 (v : Int)] 5)) w.heap.size d a X g) from Nb.out.nt) GB Sb (show Hid _ from by show _ ≤ _; simp) n1 n2 HL).mono ?_; rintro e w4 ⟨a4, rfl, H4⟩)
          have F4 := Nb.out.nf H4.out.2
          have T4 : Hid (Nt w4 w.heap.size d a4 (X ++ [⟨g + 1, 1, 2, spell [v]⟩]) (g + 1)) := H4.out.1
          have P4 : Hid (NP w w4 d q C b m cm ML) := F4
          have BX4 : Hid (w4.heap[p1]? = some (.cells #[.int .i64 1, .int .i64 wh, .int .i64 fr, .int .i64 tt, .int .i64 nu, .slice a' n' c'] 34 (0, 0))) := (H4.out.2.ch.block p1 (Array.getElem?_eq_some_iff.1 BXb.out).1 (Nb.out.off BXb.out (by decide))).trans BXb.out
          have j4' : w4.cell? ⟨p1, 4, none⟩ = some (.int .i64 nu) := by simp [World.cell?, BX4.out]
          have lc : w4.cell? ⟨q, v, none⟩ = some (.int .i64 (C v)) := (P4.out.cell hv).1
          have lf : w4.frozen? ⟨q, v, none⟩ = false := (P4.out.cell hv).2
          obtain ⟨cv, Hcv⟩ : ∃ z, Hid (C v = z) := ⟨_, rfl⟩
          have cb : -1 ≤ cv ∧ cv ≤ 5000 := by
            have h1 := cn_le X v
            have h2 := HC.out v hv
            have h3 := Hcv.out
            have h4 := N1.out.nt.ln
            omega
          rw [Hcv.out] at lc
          have wc : IntKind.i64.wrap (cv + 1) = cv + 1 := by rw [IntKind.wrap_i64]; omega
          obtain ⟨w5, Hw5⟩ : ∃ z, Hid (w4.setCell ⟨q, v, none⟩ (.int .i64 (cv + 1)) = z) := ⟨_, rfl⟩
          have P5 : Hid (NP w w5 d q (upC C v (cv + 1)) b m cm ML ∧ Nt w5 w.heap.size d a4 (X ++ [⟨g + 1, 1, 2, spell [v]⟩]) (g + 1)) := by rw [← Hw5.out]; exact P4.out.put T4.out N1.out.ql hv _
          have BX5 : Hid (w5.heap[p1]? = some (.cells #[.int .i64 1, .int .i64 wh, .int .i64 fr, .int .i64 tt, .int .i64 nu, .slice a' n' c'] 34 (0, 0))) := by rw [← Hw5.out]; exact (Below.heap_setCell _ _ _ _ QP.out).trans BX4.out
          have j5' : w5.cell? ⟨p1, 4, none⟩ = some (.int .i64 nu) := by simp [World.cell?, BX5.out]
          have P6 : NP w (w5.alloc (.cells #[.int .u8 (v : Int)] 5)) d q (upC C v (cv + 1)) b m cm ML := P5.out.1.below (alloc1 w5 _)
          have T6 : Nt (w5.alloc (.cells #[.int .u8 (v : Int)] 5)) w.heap.size d a4 (X ++ [⟨g + 1, 1, 2, spell [v]⟩]) (g + 1) := P5.out.2.below (alloc1 w5 _)
          obtain ⟨b7, c7, w7, r1, r2⟩ := P6.more T6 N1.out.ql em N1.out.lt hv (heap_alloc_new w5 _) MB.out (fun x hx => by
            rcases List.mem_append.1 hx with hx | hx
            · exact N1.out.oks v x hx
            · obtain rfl := List.mem_singleton.1 hx
              refine ⟨m, v, by rw [em], ?_⟩
              rw [N1.out.len]
              simp)
          have AP : Hid ((Builtin.append_ #[32, 32] 32 #[.slice b m cm, .slice (some ⟨w5.heap.size, 0, none⟩) 1 1]).run Tryd.prog (w5.alloc (.cells #[.int .u8 (v : Int)] 5)) = .ok (.slice b7 (m + 1) c7) w7) := r1
          obtain ⟨X7, HX7⟩ : ∃ z : List Lt, Hid (X ++ [(⟨g + 1, 1, 2, spell [v]⟩ : Lt)] = z) := ⟨_, rfl⟩
          have NK : Hid (NC w w7 d a4 X7 (g + 1) q (upC C v (cv + 1)) b7 (m + 1) c7 (ML ++ [v])) := by rw [← HX7.out]; exact r2
          have HK : Hid (∀ u, u < 256 → upC C v (cv + 1) u = cn X7 u) := fun u hu => by
            rw [← HX7.out, cn_snoc, by1_spell hv]
            unfold upC
            rw [← Hcv.out, HC.out v hv]
            split
            · next h => rw [h]
            · exact HC.out u hu
          clear P6 T6 r1 r2 F4
          go_upto_region 16 with (fail)
          rw [Hw5.out]
          go_upto_region 38 with (at_builtin; refine wpList_app (by rfl) (.tmp 58) (.tmp 62) (by rfl) (by rfl) (by rfl) (by rfl) AP ?_)
          go_wp2
          go_roundw
          case rel => exact ⟨i + 1, X7, (g + 1), a4, b7, (upC C v (cv + 1)), (m + 1), c7, (ML ++ [v]), by omega, by go_num, rfl, NK.out, by have := GI.out; omega, HK.out⟩
          case measure => simp [intOf]; omega
        · have HL : Hid (4096 ≤ X.length) := Nat.le_of_not_lt hf
          clear hf
          go_upto_region 38 with (go_at_call 10; refine (send_full (show Hid (Nt (v1.alloc (.cells #[.int .u8 (v : Int)] 5)) w.heap.size d a X g) from Nb.out.nt) Eb (by omega) n1 n2 HL).mono ?_; rintro e w4 ⟨rfl, H4⟩)
          have NK : Hid (NC w w4 d a X g q C b m cm ML) := Nb.out.below H4.out
          have HK : Hid (∀ v, v < 256 → C v = cn X v) := HC
          go_wp2
          go_roundw
          case rel => exact ⟨i + 1, X, g, a, b, C, m, cm, ML, by omega, by go_num, rfl, NK.out, by have := GI.out; omega, HK.out⟩
          case measure => simp [intOf]; omega
      · by_cases q4 : kd = 4
        · subst q4
          rcases hX : X with _ | ⟨x0, X0⟩
          · have NX : Hid (Nt v1 w.heap.size d a [] g) := by have h := N1.out.nt; rw [hX] at h; exact h
            clear hX
            go_upto_region 38 with (go_at_call 11; refine (nth_none NX).mono ?_; rintro e w4 ⟨rfl, h00⟩; rw [h00]; clear h00)
            have NK : Hid (NC w v1 d a X g q C b m cm ML) := N1
            have HK : Hid (∀ v, v < 256 → C v = cn X v) := HC
            go_wp2
            go_roundw
            case rel => exact ⟨i + 1, X, g, a, b, C, m, cm, ML, by omega, by go_num, rfl, NK.out, by have := GI.out; omega, HK.out⟩
            case measure => simp [intOf]; omega
          · have hl : 0 < X.length := by rw [hX]; simp
            clear hX
            obtain ⟨mi, hmi, hml⟩ : ∃ mi : Nat, nu % (X.length : Int) = (mi : Int) ∧ mi < X.length := ⟨(nu % (X.length : Int)).toNat, by have := Int.emod_nonneg nu (show (X.length : Int) ≠ 0 by omega); omega, by have := Int.emod_lt_of_pos nu (show (0 : Int) < (X.length : Int) by omega); have := Int.emod_nonneg nu (show (X.length : Int) ≠ 0 by omega); omega⟩
            obtain ⟨kn, v, hx1, hx2⟩ := N1.out.ok (X[mi]) (List.getElem_mem hml)
            have HM : Hid (nu % (X.length : Int) = (mi : Int)) := hmi
            have HX : Hid (X[mi]? = some ⟨(kn : Int), 1, 2, spell [v]⟩) := by show _ = _; rw [List.getElem?_eq_getElem hml, hx1]
            have HV : Hid (ML[kn]? = some v) := hx2
            have hv : v < 256 := N1.out.lt v (List.mem_of_getElem? hx2)
            have VH : Hid (v < 256) := hv
            have PA := pl_at (k := (kn : Int)) N1.out.nt.rs.pw HX.out rfl
            have PK : Hid (pl (kn : Int) X = mi) := PA.1
            have IK : Hid (isL (kn : Int) X = true) := PA.2
            have HXp : Hid (X[pl (kn : Int) X]? = some ⟨(kn : Int), 1, 2, spell [v]⟩) := by show _ = _; rw [PK.out]; exact HX.out
            obtain ⟨rb, hrb, hkm, mc⟩ := N1.out.mark HV.out
            subst hrb
            have ik : (kn : Int) < (m : Int) := by omega
            have ik0 : (0 : Int) ≤ (kn : Int) := by omega
            clear hmi hx1 hx2 PA hl hml
            have Nb : Hid (NC w v1 d a X g q C (some ⟨rb, 0, none⟩) m cm ML) := N1
            have BXb : Hid _ := BX.out
            by_cases hf : X.length < 4096
            · have HL : Hid (X.length < 4096) := hf
              clear hf
              go_upto_region 29 with (first
                | (go_at_call 11; refine (nth_some (show Hid (Nt v1 w.heap.size d a X g) from N1.out.nt) HM HX).mono ?_; rintro e w0 ⟨rfl, h00⟩; rw [h00]; clear h00)
                | (go_at_call 12; refine (copy_ok (show Hid (Nt v1 w.heap.size d a X g) from N1.out.nt) GB HXp IK HL).mono ?_; rintro e w4 ⟨a4, rfl, H4⟩
                   have mc4 : w4.cell? ⟨rb, kn, none⟩ = some (.int .u8 (v : Int)) := by
                     obtain ⟨r', e', _, h⟩ := (Nb.out.nf H4.out.2).mark HV.out
                     cases e'
                     exact h))
              have F4 := Nb.out.nf H4.out.2
              have T4 : Hid (Nt w4 w.heap.size d a4 (X ++ [⟨g + 1, 1, 2, spell [v]⟩]) (g + 1)) := H4.out.1
              have P4 : Hid (NP w w4 d q C (some ⟨rb, 0, none⟩) m cm ML) := F4
              have BX4 : Hid (w4.heap[p1]? = some (.cells #[.int .i64 4, .int .i64 wh, .int .i64 fr, .int .i64 tt, .int .i64 nu, .slice a' n' c'] 34 (0, 0))) := (H4.out.2.ch.block p1 (Array.getElem?_eq_some_iff.1 BXb.out).1 (Nb.out.off BXb.out (by decide))).trans BXb.out
              have j4' : w4.cell? ⟨p1, 4, none⟩ = some (.int .i64 nu) := by simp [World.cell?, BX4.out]
              have lc : w4.cell? ⟨q, v, none⟩ = some (.int .i64 (C v)) := (P4.out.cell hv).1
              have lf : w4.frozen? ⟨q, v, none⟩ = false := (P4.out.cell hv).2
              obtain ⟨cv, Hcv⟩ : ∃ z, Hid (C v = z) := ⟨_, rfl⟩
              have cb : -1 ≤ cv ∧ cv ≤ 5000 := by
                have h1 := cn_le X v
                have h2 := HC.out v hv
                have h3 := Hcv.out
                have h4 := N1.out.nt.ln
                omega
              rw [Hcv.out] at lc
              have wc : IntKind.i64.wrap (cv + 1) = cv + 1 := by rw [IntKind.wrap_i64]; omega
              obtain ⟨w5, Hw5⟩ : ∃ z, Hid (w4.setCell ⟨q, v, none⟩ (.int .i64 (cv + 1)) = z) := ⟨_, rfl⟩
              have P5 : Hid (NP w w5 d q (upC C v (cv + 1)) (some ⟨rb, 0, none⟩) m cm ML ∧ Nt w5 w.heap.size d a4 (X ++ [⟨g + 1, 1, 2, spell [v]⟩]) (g + 1)) := by rw [← Hw5.out]; exact P4.out.put T4.out N1.out.ql hv _
              have BX5 : Hid (w5.heap[p1]? = some (.cells #[.int .i64 4, .int .i64 wh, .int .i64 fr, .int .i64 tt, .int .i64 nu, .slice a' n' c'] 34 (0, 0))) := by rw [← Hw5.out]; exact (Below.heap_setCell _ _ _ _ QP.out).trans BX4.out
              have j5' : w5.cell? ⟨p1, 4, none⟩ = some (.int .i64 nu) := by simp [World.cell?, BX5.out]
              have P6 : NP w (w5.alloc (.cells #[.int .u8 (v : Int)] 5)) d q (upC C v (cv + 1)) (some ⟨rb, 0, none⟩) m cm ML := P5.out.1.below (alloc1 w5 _)
              have T6 : Nt (w5.alloc (.cells #[.int .u8 (v : Int)] 5)) w.heap.size d a4 (X ++ [⟨g + 1, 1, 2, spell [v]⟩]) (g + 1) := P5.out.2.below (alloc1 w5 _)
              obtain ⟨b7, c7, w7, r1, r2⟩ := P6.more T6 N1.out.ql em N1.out.lt hv (heap_alloc_new w5 _) MB.out (fun x hx => by
                rcases List.mem_append.1 hx with hx | hx
                · exact N1.out.oks v x hx
                · obtain rfl := List.mem_singleton.1 hx
                  refine ⟨m, v, by rw [em], ?_⟩
                  rw [N1.out.len]
                  simp)
              have AP : Hid ((Builtin.append_ #[32, 32] 32 #[.slice (some ⟨rb, 0, none⟩) m cm, .slice (some ⟨w5.heap.size, 0, none⟩) 1 1]).run Tryd.prog (w5.alloc (.cells #[.int .u8 (v : Int)] 5)) = .ok (.slice b7 (m + 1) c7) w7) := r1
              obtain ⟨X7, HX7⟩ : ∃ z : List Lt, Hid (X ++ [(⟨g + 1, 1, 2, spell [v]⟩ : Lt)] = z) := ⟨_, rfl⟩
              have NK : Hid (NC w w7 d a4 X7 (g + 1) q (upC C v (cv + 1)) b7 (m + 1) c7 (ML ++ [v])) := by rw [← HX7.out]; exact r2
              have HK : Hid (∀ u, u < 256 → upC C v (cv + 1) u = cn X7 u) := fun u hu => by
                rw [← HX7.out, cn_snoc, by1_spell hv]
                unfold upC
                rw [← Hcv.out, HC.out v hv]
                split
                · next h => rw [h]
                · exact HC.out u hu
              clear P6 T6 r1 r2 F4
              have mc5 : w5.cell? ⟨rb, kn, none⟩ = some (.int .u8 (v : Int)) := by
                obtain ⟨r', e', _, h⟩ := P5.out.1.mark HV.out
                cases e'
                exact h
              go_upto_region 30 with (fail)
              rw [Hw5.out]
              go_upto_region 38 with (at_builtin; refine wpList_app (by rfl) (.tmp 100) (.tmp 105) (by rfl) (by rfl) (by rfl) (by rfl) AP ?_)
              go_wp2
              go_roundw
              case rel => exact ⟨i + 1, X7, (g + 1), a4, b7, (upC C v (cv + 1)), (m + 1), c7, (ML ++ [v]), by omega, by go_num, rfl, NK.out, by have := GI.out; omega, HK.out⟩
              case measure => simp [intOf]; omega
            · have HL : Hid (4096 ≤ X.length) := Nat.le_of_not_lt hf
              clear hf
              go_upto_region 38 with (first
                | (go_at_call 11; refine (nth_some (show Hid (Nt v1 w.heap.size d a X g) from N1.out.nt) HM HX).mono ?_; rintro e w0 ⟨rfl, h00⟩; rw [h00]; clear h00)
                | (go_at_call 12; refine (copy_full (show Hid (Nt v1 w.heap.size d a X g) from N1.out.nt) E1 (by omega) IK HL).mono ?_; rintro e w4 ⟨rfl, H4⟩))
              have NK : Hid (NC w w4 d a X g q C (some ⟨rb, 0, none⟩) m cm ML) := N1.out.below H4.out
              have HK : Hid (∀ v, v < 256 → C v = cn X v) := HC
              go_wp2
              go_roundw
              case rel => exact ⟨i + 1, X, g, a, _, C, m, cm, ML, by omega, by go_num, rfl, NK.out, by have := GI.out; omega, HK.out⟩
              case measure => simp [intOf]; omega
        · by_cases q3 : kd = 3
          · subst q3
            rcases hX : X with _ | ⟨x0, X0⟩
            · have NX : Hid (Nt v1 w.heap.size d a [] g) := by have h := N1.out.nt; rw [hX] at h; exact h
              clear hX
              go_upto_region 38 with (go_at_call 11; refine (nth_none NX).mono ?_; rintro e w4 ⟨rfl, h00⟩; rw [h00]; clear h00)
              have NK : Hid (NC w v1 d a X g q C b m cm ML) := N1
              have HK : Hid (∀ v, v < 256 → C v = cn X v) := HC
              go_wp2
              go_roundw
              case rel => exact ⟨i + 1, X, g, a, b, C, m, cm, ML, by omega, by go_num, rfl, NK.out, by have := GI.out; omega, HK.out⟩
              case measure => simp [intOf]; omega
            · have hl : 0 < X.length := by rw [hX]; simp
              clear hX
              obtain ⟨mi, hmi, hml⟩ : ∃ mi : Nat, nu % (X.length : Int) = (mi : Int) ∧ mi < X.length := ⟨(nu % (X.length : Int)).toNat, by have := Int.emod_nonneg nu (show (X.length : Int) ≠ 0 by omega); omega, by have := Int.emod_lt_of_pos nu (show (0 : Int) < (X.length : Int) by omega); have := Int.emod_nonneg nu (show (X.length : Int) ≠ 0 by omega); omega⟩
              obtain ⟨kn, v, hx1, hx2⟩ := N1.out.ok (X[mi]) (List.getElem_mem hml)
              have HM : Hid (nu % (X.length : Int) = (mi : Int)) := hmi
              have HX : Hid (X[mi]? = some ⟨(kn : Int), 1, 2, spell [v]⟩) := by show _ = _; rw [List.getElem?_eq_getElem hml, hx1]
              have HV : Hid (ML[kn]? = some v) := hx2
              have hv : v < 256 := N1.out.lt v (List.mem_of_getElem? hx2)
              have VH : Hid (v < 256) := hv
              have PA := pl_at (k := (kn : Int)) N1.out.nt.rs.pw HX.out rfl
              have PK : Hid (pl (kn : Int) X = mi) := PA.1
              have IK : Hid (isL (kn : Int) X = true) := PA.2
              have HXp : Hid (X[pl (kn : Int) X]? = some ⟨(kn : Int), 1, 2, spell [v]⟩) := by show _ = _; rw [PK.out]; exact HX.out
              obtain ⟨rb, hrb, hkm, mc⟩ := N1.out.mark HV.out
              subst hrb
              have ik : (kn : Int) < (m : Int) := by omega
              have ik0 : (0 : Int) ≤ (kn : Int) := by omega
              clear hmi hx1 hx2 PA hl hml
              have lc : v1.cell? ⟨q, v, none⟩ = some (.int .i64 (C v)) := (N1.out.np.cell hv).1
              have lf : v1.frozen? ⟨q, v, none⟩ = false := (N1.out.np.cell hv).2
              obtain ⟨cv, Hcv⟩ : ∃ z, Hid (C v = z) := ⟨_, rfl⟩
              have cb : -1 ≤ cv ∧ cv ≤ 5000 := by
                have h1 := cn_le X v
                have h2 := HC.out v hv
                have h3 := Hcv.out
                have h4 := N1.out.nt.ln
                omega
              rw [Hcv.out] at lc
              have wc : IntKind.i64.wrap (cv - 1) = cv - 1 := by rw [IntKind.wrap_i64]; omega
              obtain ⟨w5, Hw5⟩ : ∃ z, Hid (v1.setCell ⟨q, v, none⟩ (.int .i64 (cv - 1)) = z) := ⟨_, rfl⟩
              have N5 : Hid (NC w w5 d a X g q (upC C v (cv - 1)) (some ⟨rb, 0, none⟩) m cm ML) := by rw [← Hw5.out]; exact N1.out.put hv _
              have BX5 : Hid (w5.heap[p1]? = some (.cells #[.int .i64 3, .int .i64 wh, .int .i64 fr, .int .i64 tt, .int .i64 nu, .slice a' n' c'] 34 (0, 0))) := by rw [← Hw5.out]; exact (Below.heap_setCell _ _ _ _ QP.out).trans BX.out
              have j5' : w5.cell? ⟨p1, 0, none⟩ = some (.int .i64 3) := by simp [World.cell?, BX5.out]
              have mc5 : w5.cell? ⟨rb, kn, none⟩ = some (.int .u8 (v : Int)) := by
                obtain ⟨r', e', _, h⟩ := N5.out.mark HV.out
                cases e'
                exact h
              have HK : Hid (∀ u, u < 256 → upC C v (cv - 1) u = cn (X.eraseIdx mi) u) := fun u hu => by
                rw [cn_del HX.out, by1_spell hv]
                unfold upC
                rw [← Hcv.out, HC.out v hv]
                split
                · next h => rw [h]
                · exact HC.out u hu
              go_upto_region 32 with (go_at_call 11; refine (nth_some (show Hid (Nt v1 w.heap.size d a X g) from N1.out.nt) HM HX).mono ?_; rintro e w0 ⟨rfl, h00⟩; rw [h00]; clear h00)
              rw [Hw5.out]
              go_upto_region 38 with (go_at_call 13; refine (drop_ok (show Hid (Nt w5 w.heap.size d a X g) from N5.out.nt) IK).mono ?_; rintro e w6 ⟨rfl, H6⟩)
              have F6 := N5.out.nf H6.out.2
              obtain ⟨X7, HX7⟩ : ∃ z : List Lt, Hid (X.eraseIdx mi = z) := ⟨_, rfl⟩
              rw [HX7.out] at HK
              have NK : Hid (NC w w6 d a X7 g q (upC C v (cv - 1)) (some ⟨rb, 0, none⟩) m cm ML) := by
                have h := H6.out.1
                rw [PK.out, HX7.out] at h
                exact ⟨h, F6.lf, F6.row, N5.out.ql, F6.bel, N5.out.ml, N5.out.lt, fun x hx => N5.out.ok x (by rw [← HX7.out] at hx; exact (List.eraseIdx_sublist ..).mem hx)⟩
              go_wp2
              go_roundw
              case rel => exact ⟨i + 1, X7, g, a, _, (upC C v (cv - 1)), m, cm, ML, by omega, by go_num, rfl, NK.out, by have := GI.out; omega, HK.out⟩
              case measure => simp [intOf]; omega
          · by_cases q2 : kd = 2
            · subst q2
              rcases hX : X with _ | ⟨x0, X0⟩
              · have NX : Hid (Nt v1 w.heap.size d a [] g) := by have h := N1.out.nt; rw [hX] at h; exact h
                clear hX
                go_upto_region 38 with (go_at_call 11; refine (nth_none NX).mono ?_; rintro e w4 ⟨rfl, h00⟩; rw [h00]; clear h00)
                have NK : Hid (NC w v1 d a X g q C b m cm ML) := N1
                have HK : Hid (∀ v, v < 256 → C v = cn X v) := HC
                go_wp2
                go_roundw
                case rel => exact ⟨i + 1, X, g, a, b, C, m, cm, ML, by omega, by go_num, rfl, NK.out, by have := GI.out; omega, HK.out⟩
                case measure => simp [intOf]; omega
              · have hl : 0 < X.length := by rw [hX]; simp
                clear hX
                obtain ⟨mi, hmi, hml⟩ : ∃ mi : Nat, nu % (X.length : Int) = (mi : Int) ∧ mi < X.length := ⟨(nu % (X.length : Int)).toNat, by have := Int.emod_nonneg nu (show (X.length : Int) ≠ 0 by omega); omega, by have := Int.emod_lt_of_pos nu (show (0 : Int) < (X.length : Int) by omega); have := Int.emod_nonneg nu (show (X.length : Int) ≠ 0 by omega); omega⟩
                obtain ⟨kn, v, hx1, hx2⟩ := N1.out.ok (X[mi]) (List.getElem_mem hml)
                have HM : Hid (nu % (X.length : Int) = (mi : Int)) := hmi
                have HX : Hid (X[mi]? = some ⟨(kn : Int), 1, 2, spell [v]⟩) := by show _ = _; rw [List.getElem?_eq_getElem hml, hx1]
                have HV : Hid (ML[kn]? = some v) := hx2
                have hv : v < 256 := N1.out.lt v (List.mem_of_getElem? hx2)
                have VH : Hid (v < 256) := hv
                have PA := pl_at (k := (kn : Int)) N1.out.nt.rs.pw HX.out rfl
                have PK : Hid (pl (kn : Int) X = mi) := PA.1
                have IK : Hid (isL (kn : Int) X = true) := PA.2
                have HXp : Hid (X[pl (kn : Int) X]? = some ⟨(kn : Int), 1, 2, spell [v]⟩) := by show _ = _; rw [PK.out]; exact HX.out
                obtain ⟨rb, hrb, hkm, mc⟩ := N1.out.mark HV.out
                subst hrb
                have ik : (kn : Int) < (m : Int) := by omega
                have ik0 : (0 : Int) ≤ (kn : Int) := by omega
                clear hmi hx1 hx2 PA hl hml
                have lc : v1.cell? ⟨q, v, none⟩ = some (.int .i64 (C v)) := (N1.out.np.cell hv).1
                have lf : v1.frozen? ⟨q, v, none⟩ = false := (N1.out.np.cell hv).2
                obtain ⟨cv, Hcv⟩ : ∃ z, Hid (C v = z) := ⟨_, rfl⟩
                have cb : -1 ≤ cv ∧ cv ≤ 5000 := by
                  have h1 := cn_le X v
                  have h2 := HC.out v hv
                  have h3 := Hcv.out
                  have h4 := N1.out.nt.ln
                  omega
                rw [Hcv.out] at lc
                have wc : IntKind.i64.wrap (cv - 1) = cv - 1 := by rw [IntKind.wrap_i64]; omega
                obtain ⟨w5, Hw5⟩ : ∃ z, Hid (v1.setCell ⟨q, v, none⟩ (.int .i64 (cv - 1)) = z) := ⟨_, rfl⟩
                have N5 : Hid (NC w w5 d a X g q (upC C v (cv - 1)) (some ⟨rb, 0, none⟩) m cm ML) := by rw [← Hw5.out]; exact N1.out.put hv _
                have BX5 : Hid (w5.heap[p1]? = some (.cells #[.int .i64 2, .int .i64 wh, .int .i64 fr, .int .i64 tt, .int .i64 nu, .slice a' n' c'] 34 (0, 0))) := by rw [← Hw5.out]; exact (Below.heap_setCell _ _ _ _ QP.out).trans BX.out
                have j5' : w5.cell? ⟨p1, 0, none⟩ = some (.int .i64 2) := by simp [World.cell?, BX5.out]
                have mc5 : w5.cell? ⟨rb, kn, none⟩ = some (.int .u8 (v : Int)) := by
                  obtain ⟨r', e', _, h⟩ := N5.out.mark HV.out
                  cases e'
                  exact h
                have HK : Hid (∀ u, u < 256 → upC C v (cv - 1) u = cn (X.eraseIdx mi) u) := fun u hu => by
                  rw [cn_del HX.out, by1_spell hv]
                  unfold upC
                  rw [← Hcv.out, HC.out v hv]
                  split
                  · next h => rw [h]
                  · exact HC.out u hu
                go_upto_region 32 with (go_at_call 11; refine (nth_some (show Hid (Nt v1 w.heap.size d a X g) from N1.out.nt) HM HX).mono ?_; rintro e w0 ⟨rfl, h00⟩; rw [h00]; clear h00)
                rw [Hw5.out]
                go_upto_region 36 with (go_at_call 14; refine (deliver_one (show Hid (Nt w5 w.heap.size d a X g) from N5.out.nt) HX VH rfl).mono ?_; rintro e w6 ⟨g6, c6, rfl, H6⟩)
                have F6 := N5.out.nf H6.out.2.1
                obtain ⟨X7, HX7⟩ : ∃ z : List Lt, Hid (X.eraseIdx mi = z) := ⟨_, rfl⟩
                rw [HX7.out] at HK
                have NK6 : Hid (NC w w6 d a X7 g q (upC C v (cv - 1)) (some ⟨rb, 0, none⟩) m cm ML) := by
                  have h := H6.out.1
                  rw [HX7.out] at h
                  exact ⟨h, F6.lf, F6.row, N5.out.ql, F6.bel, N5.out.ml, N5.out.lt, fun x hx => N5.out.ok x (by rw [← HX7.out] at hx; exact (List.eraseIdx_sublist ..).mem hx)⟩
                obtain ⟨q7, Hq7⟩ : ∃ z, Hid (w6.heap.size = z) := ⟨_, rfl⟩
                obtain ⟨w7, Hw7⟩ : ∃ z, Hid (w6.alloc (.cells #[.int .i64 (kn : Int), .int .i64 1, .int .i64 2, .slice (some ⟨g6, 0, none⟩) 1 c6] 50) = z) := ⟨_, rfl⟩
                have b7 : Hid (Below w6.heap.size w6 w7) := by rw [← Hw7.out]; exact alloc1 w6 _
                have N7 : Hid (NC w w7 d a X7 g q (upC C v (cv - 1)) (some ⟨rb, 0, none⟩) m cm ML) := NK6.out.below b7.out
                have K7 : Hid (w7.heap[q7]? = some (.cells #[.int .i64 (kn : Int), .int .i64 1, .int .i64 2, .slice (some ⟨g6, 0, none⟩) 1 c6] 50 (0, 0))) := by rw [← Hw7.out, ← Hq7.out]; exact heap_alloc_new w6 _
                have f1 : ∀ j, (w7.drewN j).cell? ⟨q7, 1, none⟩ = some (.int .i64 1) := fun j => by rw [cell_drewN]; exact (cel4 K7.out).2.1
                have f2 : ∀ j, (w7.drewN j).cell? ⟨q7, 2, none⟩ = some (.int .i64 2) := fun j => by rw [cell_drewN]; exact (cel4 K7.out).2.2.1
                have f3 : ∀ j, (w7.drewN j).cell? ⟨q7, 3, none⟩ = some (.slice (some ⟨g6, 0, none⟩) 1 c6) := fun j => by rw [cell_drewN]; exact (cel4 K7.out).2.2.2
                have f4 : ∀ j, (w7.drewN j).cell? ⟨g6, 0, none⟩ = some (.int .u8 (v : Int)) := fun j => by rw [cell_drewN]; exact (b7.out.cell (p := ⟨g6, 0, none⟩) (cell_lt H6.out.2.2.1)).trans H6.out.2.2.1
                have f5 : ∀ j, (w7.drewN j).cell? ⟨rb, kn, none⟩ = some (.int .u8 (v : Int)) := fun j => by
                  rw [cell_drewN]
                  obtain ⟨r', e', _, h⟩ := N7.out.mark HV.out
                  cases e'
                  exact h
                rw [Hq7.out, Hw7.out]
                go_quiet (fail)
                go_upto_region 38 with (fail)
                have NK : ∀ j, Hid (NC w (w7.drewN j) d a X7 g q (upC C v (cv - 1)) (some ⟨rb, 0, none⟩) m cm ML) := fun j => N7.out.below (below_drewN (Below.refl _ _) j)
                go_wp2
                go_roundw
                case rel => exact ⟨i + 1, X7, g, a, _, (upC C v (cv - 1)), m, cm, ML, by omega, by go_num, rfl, (NK _).out, by have := GI.out; omega, HK.out⟩
                case measure => simp [intOf]; omega
            · skip
              go_upto_region 38 with (fail)
              have NK : Hid (NC w v1 d a X g q C b m cm ML) := N1
              have HK : Hid (∀ v, v < 256 → C v = cn X v) := HC
              go_wp2
              go_roundw
              case rel => exact ⟨i + 1, X, g, a, b, C, m, cm, ML, by omega, by go_num, rfl, NK.out, by have := GI.out; omega, HK.out⟩
              case measure => simp [intOf]; omega
    · have hin : ¬ ((i : Int) < (n : Int)) := by omega
      have N9 : Hid (NC w wr d a X g q C b m cm ML ∧ ∀ v, v < 256 → C v = cn X v) := ⟨HI.out.1, HI.out.2.2⟩
      clear HI
      go_upto_region 39 with (fail)
      go_wp2_with (go_at_call 15; refine (waiting_n (show Hid (Nt wr w.heap.size d a X g) from N9.out.1.nt)).mono ?_; rintro e w8 ⟨gq, rfl, H8⟩)
      obtain ⟨N, HN⟩ : ∃ z, Hid (X.length = z) := ⟨_, rfl⟩
      rw [HN.out]
      have R8 : Hid (NC w w8 d a (X.drop 0) g q C b m cm ML ∧ (∀ v, v < 256 → C v = cn (X.drop 0) v) ∧ w8.heap[gq]? = some (.cells ((X.map Lt.no).map iv).toArray 3 (0, 0))) := ⟨N9.out.1.below H8.out.2.1, N9.out.2, H8.out.1⟩
      have NB : N ≤ 4096 := by rw [← HN.out]; exact N9.out.1.nt.ln
      clear H8 N9
      go_loopw [161] (fun ti wv => ∃ (j : Nat) (C' : Nat → Int), j ≤ N ∧ ti = .int .i64 (j : Int) ∧ Hid (NC w wv d a (X.drop j) g q C' b m cm ML ∧ (∀ v, v < 256 → C' v = cn (X.drop j) v) ∧ wv.heap[gq]? = some (.cells ((X.map Lt.no).map iv).toArray 3 (0, 0)))) (fun ti _ => N - (intOf ti).toNat)
      case atStart => exact ⟨0, C, by omega, rfl, R8.out⟩
      case round =>
        obtain ⟨j, C', hj, rfl, HJ⟩ := hrel
        clear R8
        by_cases hjl : j < N
        · have i3 : (j : Int) < (N : Int) := by omega
          have jX : j < X.length := by rw [HN.out]; exact hjl
          have J1 : Hid (NC w wr d a (X.drop j) g q C' b m cm ML) := HJ.out.1
          obtain ⟨kn, v, hx1, hx2⟩ := J1.out.ok X[j] (by
            rw [← List.getElem_cons_drop (h := jX)]
            exact List.mem_cons_self ..)
          have HX : Hid ((X.drop j)[0]? = some ⟨(kn : Int), 1, 2, spell [v]⟩) := by show _ = _; rw [List.getElem?_drop, Nat.add_zero, List.getElem?_eq_getElem jX, hx1]
          have hv : v < 256 := J1.out.lt v (List.mem_of_getElem? hx2)
          have VH : Hid (v < 256) := hv
          have kc : wr.cell? ⟨gq, j, none⟩ = some (.int .i64 (kn : Int)) := by
            have h := HJ.out.2.2
            simp [World.cell?, h, List.getElem?_eq_getElem jX, hx1, iv]
          have DX : Hid ((X.drop j).eraseIdx 0 = X.drop (j + 1)) := by
            show _ = _
            rw [← List.getElem_cons_drop (h := jX)]
            rfl
          have K0 : Hid (wr.heap[gq]? = some (.cells ((X.map Lt.no).map iv).toArray 3 (0, 0))) := HJ.out.2.2
          have HC : Hid (∀ v, v < 256 → C' v = cn (X.drop j) v) := HJ.out.2.1
          have LN : Hid ((X.drop j).length ≤ 4096) := J1.out.nt.ln
          clear hx1 hx2 HJ jX
          go_upto_region 43 with (go_at_call 14; refine (deliver_one (show Hid (Nt wr w.heap.size d a (X.drop j) g) from J1.out.nt) HX VH rfl).mono ?_; rintro e w6 ⟨g6, c6, rfl, H6⟩)
          have F6 := J1.out.nf H6.out.2.1
          have N6 : Hid (NC w w6 d a (X.drop (j + 1)) g q C' b m cm ML) := by
            have h := H6.out.1
            rw [DX.out] at h
            exact ⟨h, F6.lf, F6.row, J1.out.ql, F6.bel, J1.out.ml, J1.out.lt, fun x hx => J1.out.ok x (by rw [← DX.out] at hx; exact (List.eraseIdx_sublist ..).mem hx)⟩
          have K6 : Hid (w6.heap[gq]? = some (.cells ((X.map Lt.no).map iv).toArray 3 (0, 0))) := (H6.out.2.1.ch.block gq (Array.getElem?_eq_some_iff.1 K0.out).1 (J1.out.off K0.out (by decide))).trans K0.out
          obtain ⟨q7, Hq7⟩ : ∃ z, Hid (w6.heap.size = z) := ⟨_, rfl⟩
          obtain ⟨w7, Hw7⟩ : ∃ z, Hid (w6.alloc (.cells #[.int .i64 (kn : Int), .int .i64 1, .int .i64 2, .slice (some ⟨g6, 0, none⟩) 1 c6] 50) = z) := ⟨_, rfl⟩
          have b7 : Hid (Below w6.heap.size w6 w7) := by rw [← Hw7.out]; exact alloc1 w6 _
          have N7 : Hid (NC w w7 d a (X.drop (j + 1)) g q C' b m cm ML) := N6.out.below b7.out
          have K7 : Hid (w7.heap[q7]? = some (.cells #[.int .i64 (kn : Int), .int .i64 1, .int .i64 2, .slice (some ⟨g6, 0, none⟩) 1 c6] 50 (0, 0))) := by rw [← Hw7.out, ← Hq7.out]; exact heap_alloc_new w6 _
          have G7 : Hid (w7.heap[gq]? = some (.cells ((X.map Lt.no).map iv).toArray 3 (0, 0))) := (b7.out.block gq (Array.getElem?_eq_some_iff.1 K6.out).1).trans K6.out
          have f3 : w7.cell? ⟨q7, 3, none⟩ = some (.slice (some ⟨g6, 0, none⟩) 1 c6) := (cel4 K7.out).2.2.2
          have f4 : w7.cell? ⟨g6, 0, none⟩ = some (.int .u8 (v : Int)) := (b7.out.cell (p := ⟨g6, 0, none⟩) (cell_lt H6.out.2.2.1)).trans H6.out.2.2.1
          have lc : w7.cell? ⟨q, v, none⟩ = some (.int .i64 (C' v)) := (N7.out.np.cell hv).1
          have lf : w7.frozen? ⟨q, v, none⟩ = false := (N7.out.np.cell hv).2
          obtain ⟨cv, Hcv⟩ : ∃ z, Hid (C' v = z) := ⟨_, rfl⟩
          have cb : -1 ≤ cv ∧ cv ≤ 5000 := by
            have h1 := cn_le (X.drop j) v
            have h2 := HC.out v hv
            have h3 := Hcv.out
            have h4 := LN.out
            omega
          rw [Hcv.out] at lc
          have wc : IntKind.i64.wrap (cv - 1) = cv - 1 := by rw [IntKind.wrap_i64]; omega
          obtain ⟨w8, Hw8⟩ : ∃ z, Hid (w7.setCell ⟨q, v, none⟩ (.int .i64 (cv - 1)) = z) := ⟨_, rfl⟩
          have N8 : Hid (NC w w8 d a (X.drop (j + 1)) g q (upC C' v (cv - 1)) b m cm ML) := by rw [← Hw8.out]; exact N7.out.put hv _
          have G8 : Hid (w8.heap[gq]? = some (.cells ((X.map Lt.no).map iv).toArray 3 (0, 0))) := by
            rw [← Hw8.out]
            refine (Below.heap_setCell _ _ _ _ (fun e => ?_)).trans G7.out
            have h := G7.out
            rw [e, N7.out.lf] at h
            simp only [Option.some.injEq, Obj.cells.injEq] at h
            exact absurd h.2.1 (by decide)
          have HK : Hid (∀ u, u < 256 → upC C' v (cv - 1) u = cn (X.drop (j + 1)) u) := fun u hu => by
            rw [← DX.out, cn_del HX.out, by1_spell hv]
            unfold upC
            rw [← Hcv.out, HC.out v hv]
            split
            · next h => rw [h]
            · exact HC.out u hu
          rw [Hq7.out, Hw7.out]
          go_wp2
          rw [Hw8.out]
          go_roundw
          case rel => exact ⟨j + 1, _, by omega, by go_num, N8.out, HK.out, G8.out⟩
          case measure => simp [intOf]; omega
        · obtain rfl : j = N := by omega
          have ZE : Hid (la C' = Z) := by
            show _ = _
            rw [← HZ.out]
            refine la_ext fun v hv => ?_
            rw [HJ.out.2.1 v hv, List.drop_of_length_le (by rw [HN.out]; exact Nat.le_refl _)]
            rfl
          have LFZ : Hid (wr.heap[q]? = some (.cells Z 40 (0, 0))) := by rw [← ZE.out]; exact HJ.out.1.lf
          have EQ : ∀ w', (Op.equalIn 10000 40 (.agg Z) (.agg Z)).run Tryd.prog w' = .ok true w' := fun w' => by rw [← HZ.out]; exact eq40 _ w'
          have ZS : (Tryd.prog.info? 40).map (·.size) = some Z.size := by rw [← HZ.out, la_size]; exact inz40
          have B9 : Hid (Below w.heap.size w wr) := HJ.out.1.bel
          clear HJ
          go_wp2_with (refine wpList_load_row (by rfl) 40 (.tmp 4) (by rfl) q (by rfl) 40 Z (0, 0) _ LFZ.out Tryd.underlying40 rfl ZS ?_)
          go_ret
          exact ⟨rfl, B9.out⟩
end Go.Proofs.YtkjebbpmafhpgaaDoor
