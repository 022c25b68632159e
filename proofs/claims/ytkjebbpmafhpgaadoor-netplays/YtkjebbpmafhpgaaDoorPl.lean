/- NetPlays: the law's own walk. -/
import Derived.Test.YtkjebbpmafhpgaaDoorPk
namespace Go.Proofs.YtkjebbpmafhpgaaDoor
open Go.ChangeShapes Go.WideShapes Go.ChangeAt Go.RowKit
set_option maxRecDepth 20000
set_option linter.unusedVariables false
set_option linter.unusedSimpArgs false
theorem u8_of (z : Int) : ∃ v : Nat, z % 256 = (v : Int) ∧ v < 256 := ⟨(z % 256).toNat, by omega, by omega⟩
theorem cel0 {W : World} {p : Nat} {x0 x1 x2 x3 x4 x5 : Value} {t : TypeId} (h : W.heap[p]? = some (.cells #[x0, x1, x2, x3, x4, x5] t (0, 0))) : W.cell? ⟨p, 0, none⟩ = some x0 := by simp [World.cell?, h]
theorem cel1 {W : World} {p : Nat} {x0 x1 x2 x3 x4 x5 : Value} {t : TypeId} (h : W.heap[p]? = some (.cells #[x0, x1, x2, x3, x4, x5] t (0, 0))) : W.cell? ⟨p, 1, none⟩ = some x1 := by simp [World.cell?, h]
def sel (x y : Nat) : Nat → Nat
  | 0 => x
  | _ + 1 => y
set_option maxHeartbeats 16000000 in
theorem plays_n {w : World} {E : Nat → Addr} {a0 : Option Addr} {n c0 : Nat} {L : List Opt} (hO : Hid (Ops w a0 n L)) (hn : n ≤ 140737488351232) (hE : Hid (Sent w 18 E)) :
    Calls Tryd.prog 3 #[.slice a0 n c0] w fun e w' => e = .returned (.bool true) ∧ Hid (Below w.heap.size w w') := by
  go_enter Tryd.func3, Tryd.ntmps3
  go_upto_region 3 with (first
    | (go_at_call 6; refine (alive_n hE (by omega)).mono ?_; rintro e w1 ⟨rfl, H1⟩))
  go_upto_region 4 with (first
    | (go_at_call 7; refine (new_n w2 w.heap.size (Nat.le_trans H1.out.size H2.out.2.1.size)).mono ?_; rintro e w3 ⟨d1, rfl, H3⟩)
    | (go_at_call 7; refine (new_n w1 w.heap.size H1.out.size).mono ?_; rintro e w2 ⟨d0, rfl, H2⟩))
  obtain ⟨q3, Hq3⟩ : ∃ q, Hid (w3.heap.size = q) := ⟨_, rfl⟩
  obtain ⟨w4, Hw4⟩ : ∃ v, Hid (w3.alloc (.cells #[.pointer (some ⟨d0, 0, none⟩), .pointer (some ⟨d1, 0, none⟩)] 26) = v) := ⟨_, rfl⟩
  rw [Hw4.out, Hq3.out]
  go_upto_region 5 with (fail)
  obtain ⟨e0, He0⟩ : ∃ q, Hid (w4.heap.size = q) := ⟨_, rfl⟩
  rw [He0.out]
  obtain ⟨q4, Hq4⟩ : ∃ q, Hid (e0 + 1 + 1 = q) := ⟨_, rfl⟩
  obtain ⟨e1, He1⟩ : ∃ q, Hid (e0 + 1 = q) := ⟨_, rfl⟩
  obtain ⟨w7, Hw7⟩ : ∃ v, Hid (((w4.alloc (.cells #[.slice none 0 0, .int .i64 0] 30)).alloc (.cells #[.slice none 0 0, .int .i64 0] 30)).alloc (.cells #[.pointer (some ⟨e0, 0, none⟩), .pointer (some ⟨e1, 0, none⟩)] 31) = v) := ⟨_, rfl⟩
  have R0 : Hid (Sy w w7 (sel d0 d1) (sel e0 e1) (fun _ => none) (fun _ => none) (fun _ => []) (fun _ => 0) q3 q4) := by
    have b1 := H1.out
    have b2 := b1.trans (H2.out.2.1.mono b1.size)
    have b3 := b2.trans (H3.out.2.1.mono b2.size)
    have b4' : Below w3.heap.size w3 w4 := by rw [← Hw4.out]; exact alloc1 w3 _
    have s4 : w4.heap.size = q3 + 1 := by rw [← Hw4.out, ← Hq3.out]; simp
    have b47 : Below w4.heap.size w4 w7 := by rw [← Hw7.out]; exact (alloc2 w4 _ _).trans ((alloc1 _ _).mono (alloc2 w4 _ _).size)
    have b37 : Below w3.heap.size w3 w7 := b4'.trans (b47.mono b4'.size)
    have b27 := H3.out.2.1.trans (b37.mono H3.out.2.1.size)
    have z0 := H2.out.2.2
    have z1 := H3.out.2.2
    have l0 := H2.out.1.dlt
    have l1 := H3.out.1.dlt
    have k3 := Hq3.out
    have k4 := He0.out
    have k5 := He1.out
    have k6 := Hq4.out
    have h0 : w7.heap[e0]? = some (.cells #[.slice none 0 0, .int .i64 0] 30 (0, 0)) := by
      have h := heap_alloc_new w4 (.cells #[.slice none 0 0, .int .i64 0] 30)
      rw [k4] at h
      have h2 : e0 < (w4.alloc (.cells #[.slice none 0 0, .int .i64 0] 30)).heap.size := by simp; omega
      rw [← Hw7.out]
      exact (Below.heap_alloc _ _ e0 (by simp; omega)).trans ((Below.heap_alloc _ _ e0 h2).trans h)
    have h1 : w7.heap[e1]? = some (.cells #[.slice none 0 0, .int .i64 0] 30 (0, 0)) := by
      have h := heap_alloc_new (w4.alloc (.cells #[.slice none 0 0, .int .i64 0] 30)) (.cells #[.slice none 0 0, .int .i64 0] 30)
      have e : (w4.alloc (.cells #[.slice none 0 0, .int .i64 0] 30)).heap.size = e1 := by simp; omega
      rw [e] at h
      rw [← Hw7.out]
      exact (Below.heap_alloc _ _ e1 (by simp; omega)).trans h
    have h4 : w7.heap[q4]? = some (.cells #[.pointer (some ⟨e0, 0, none⟩), .pointer (some ⟨e1, 0, none⟩)] 31 (0, 0)) := by
      have h := heap_alloc_new ((w4.alloc (.cells #[.slice none 0 0, .int .i64 0] 30)).alloc (.cells #[.slice none 0 0, .int .i64 0] 30)) (.cells #[.pointer (some ⟨e0, 0, none⟩), .pointer (some ⟨e1, 0, none⟩)] 31)
      have e : ((w4.alloc (.cells #[.slice none 0 0, .int .i64 0] 30)).alloc (.cells #[.slice none 0 0, .int .i64 0] 30)).heap.size = q4 := by simp; omega
      rw [e] at h
      rw [← Hw7.out]
      exact h
    have h3 : w7.heap[q3]? = some (.cells #[.pointer (some ⟨d0, 0, none⟩), .pointer (some ⟨d1, 0, none⟩)] 26 (0, 0)) := by
      have h := heap_alloc_new w3 (.cells #[.pointer (some ⟨d0, 0, none⟩), .pointer (some ⟨d1, 0, none⟩)] 26)
      rw [k3, Hw4.out] at h
      exact (b47.block q3 (by omega)).trans h
    have rt : ∀ q, w.heap.size ≤ q → w7.heap[q]? = some (.cells #[.slice none 0 0, .int .i64 0] 30 (0, 0)) → Rt w7 w.heap.size q none [] 0 := fun q hq hh => ⟨⟨0, 0, hh, Rw.nil _ _ 38 EL (by decide)⟩, hq, ⟨List.Pairwise.nil, (fun x hx => by cases hx), fun x hx => by cases hx⟩, by simp, by omega⟩
    have zz := b3.size
    have pk : ∀ x y q, Pk x y none none q → q = x ∨ q = y := fun x y q h => by
      rcases h with (h | h) | (h | h)
      · exact .inl h
      · cases h
      · exact .inr h
      · cases h
    refine ⟨fun k hk => ?_, fun k l hk hl hkl q h5 h6 => ?_, h3, h4, b3.trans (b37.mono b3.size)⟩
    · match k, hk with
      | 0, _ => exact ⟨H2.out.1.below b27, rt e0 (by omega) h0⟩
      | 1, _ => exact ⟨H3.out.1.below b37, rt e1 (by omega) h1⟩
    · have y2 := H3.out.2.1.size
      match k, hk, l, hl with
      | 0, _, 0, _ => exact hkl rfl
      | 1, _, 1, _ => exact hkl rfl
      | 0, _, 1, _ =>
        have := pk _ _ q h5; have := pk _ _ q h6
        simp only [sel] at *
        omega
      | 1, _, 0, _ =>
        have := pk _ _ q h5; have := pk _ _ q h6
        simp only [sel] at *
        omega
  obtain ⟨D, HD⟩ : ∃ D, Hid (sel d0 d1 = D) := ⟨_, rfl⟩
  obtain ⟨F, HF⟩ : ∃ F, Hid (sel e0 e1 = F) := ⟨_, rfl⟩
  rw [HD.out, HF.out] at R0
  have rr : e0 + 1 + 1 = q4 := Hq4.out
  rw [He1.out] at rr ⊢
  rw [rr, Hw7.out]
  have a30 : w7.cell? ⟨q3, 0, none⟩ = some (.pointer (some ⟨D 0, 0, none⟩)) := arr2 (t := 0) R0.out.r3 (by omega)
  have a31 : w7.cell? ⟨q3, 1, none⟩ = some (.pointer (some ⟨D 1, 0, none⟩)) := arr2 (t := 0) R0.out.r3 (by omega)
  clear H1 H2 H3 Hw7 Hw4 Hq3 Hq4 He0 He1 HD HF rr
  go_upto_region 8 with (fail)
  go_wp2
  go_loopw [5, 32] (fun t5 ti wr => ∃ (i : Nat) (mz : Int) (A B : Nat → Option Addr) (X : Nat → List Lt) (G : Nat → Int), i ≤ n ∧ ti = .int .i64 i ∧ t5 = .int .i64 mz ∧ 0 ≤ mz ∧ mz ≤ (i : Int) ∧ Hid (Sy w wr D F A B X G q3 q4 ∧ ∀ k, k < 2 → G k ≤ (i : Int) * 5001)) (fun _ ti _ => n - (intOf ti).toNat)
  case atStart => exact ⟨0, 0, _, _, _, _, by omega, rfl, rfl, by omega, by omega, R0.out, fun k hk => by simp⟩
  case round =>
    obtain ⟨i, mz, A, B, X, G, hi, rfl, rfl, hm0, hm1, HI⟩ := hrel
    clear R0 a30 a31
    by_cases hlt : i < n
    · obtain ⟨bo, oo, rfl, hb, hrow⟩ := hO.out.row.resolve_left (by omega)
      obtain ⟨a', n', c', hop⟩ := hrow i hlt
      have BL : Hid (Below w.heap.size w wr) := HI.out.1.bel
      obtain ⟨y, Hy⟩ : ∃ y, Hid (L.getD i o0 = y) := ⟨_, rfl⟩
      rw [Hy.out] at hop
      obtain ⟨kd, wh, fr, tt, nu, bs⟩ := y
      have OP := hop.below BL.out
      have k0 : wr.cell? ⟨bo, oo + i * 6, none⟩ = some (.int .i64 kd) := OP.c0
      have k1 : wr.cell? ⟨bo, oo + i * 6 + 1, none⟩ = some (.int .i64 wh) := OP.c1
      have k2 : wr.cell? ⟨bo, oo + i * 6 + 2, none⟩ = some (.int .i64 fr) := OP.c2
      have k3 : wr.cell? ⟨bo, oo + i * 6 + 3, none⟩ = some (.int .i64 tt) := OP.c3
      have k4 : wr.cell? ⟨bo, oo + i * 6 + 4, none⟩ = some (.int .i64 nu) := OP.c4
      have k5 : wr.cell? ⟨bo, oo + i * 6 + 5, none⟩ = some (.slice a' n' c') := OP.c5
      have SB : Hid (Sln wr a' n' bs) := OP.sl
      have LB : Hid (bs.length ≤ 140737488351232) := by
        show _ ≤ _
        have h1 := hop.sl.len
        have h2 := hop.nc
        have h3 := hop.cap
        simp only at h1
        omega
      have ZB : Hid (a' = none → c' = 0) := hop.z
      have AB : Hid (∀ q, bs ≠ [] → blkOf a' = some q → q < w.heap.size) := fun q h1 h2 => by
        rcases hop.sl.sli.2.2 with h3 | ⟨b3, o3, h4, h5, _⟩
        · exact absurd h3 h1
        · rw [h4] at h2; cases h2; exact h5
      have i2 : (i : Int) < (n : Int) := by omega
      obtain ⟨p1, Hp1⟩ : ∃ q, Hid (wr.heap.size = q) := ⟨_, rfl⟩
      obtain ⟨v1, Hv1⟩ : ∃ v, Hid (wr.alloc (.cells #[.int .i64 kd, .int .i64 wh, .int .i64 fr, .int .i64 tt, .int .i64 nu, .slice a' n' c'] 34) = v) := ⟨_, rfl⟩
      have b1 : Hid (Below wr.heap.size wr v1) := by rw [← Hv1.out]; exact alloc1 wr _
      have BX : Hid (v1.heap[p1]? = some (.cells #[.int .i64 kd, .int .i64 wh, .int .i64 fr, .int .i64 tt, .int .i64 nu, .slice a' n' c'] 34 (0, 0))) := by rw [← Hv1.out, ← Hp1.out]; exact heap_alloc_new wr _
      have Y1 : Hid (Sy w v1 D F A B X G q3 q4) := HI.out.1.below b1.out
      have GG : Hid (∀ k, k < 2 → G k ≤ (i : Int) * 5001) := HI.out.2
      have S1 : Hid (Sln v1 a' n' bs) := SB.out.below b1.out
      obtain ⟨k, hk, ba⟩ := and_one wh
      have j0 : v1.cell? ⟨p1, 0, none⟩ = some (.int .i64 kd) := by simp [World.cell?, BX.out]
      have j1 : v1.cell? ⟨p1, 1, none⟩ = some (.int .i64 wh) := by simp [World.cell?, BX.out]
      clear hop OP hrow hb SB HI BL
      go_upto_region 11 with (fail)
      rw [Hv1.out, Hp1.out]
      clear k0 k1 k2 k3 k4 k5 b1
      by_cases q7 : kd = 7
      · subst q7
        clear AB ZB S1 LB i2 Hp1 Hv1
        obtain ⟨M, HM⟩ : ∃ M : Nat, Hid (min (max nu 0) 5000 = (M : Int)) := ⟨(min (max nu 0) 5000).toNat, by show _ = _; omega⟩
        have M5 : Hid (M ≤ 5000) := by show _ ≤ _; have := HM.out; omega
        have wm : IntKind.i64.wrap (mz + 1) = mz + 1 := by rw [IntKind.wrap_i64]; omega
        go_upto_region 14 with (fail)
        go_wp2
        go_loopw [9] (fun t9 wv => ∃ (j : Nat) (A' B' : Nat → Option Addr) (X' : Nat → List Lt) (G' : Nat → Int), j ≤ M ∧ t9 = .int .i64 (j : Int) ∧ Hid (Sy w wv D F A' B' X' G' q3 q4 ∧ (∀ l, l < 2 → G' l ≤ (i : Int) * 5001 + j) ∧ wv.heap[p1]? = some (.cells #[.int .i64 7, .int .i64 wh, .int .i64 fr, .int .i64 tt, .int .i64 nu, .slice a' n' c'] 34 (0, 0)))) (fun t9 _ => M - (intOf t9).toNat)
        case atStart => exact ⟨0, _, _, _, _, by omega, by go_num, Y1.out, fun l hl => by have := GG.out l hl; omega, BX.out⟩
        case round =>
          obtain ⟨j, A', B', X', G', hj, rfl, HJ⟩ := hrel
          have y4 : wr.cell? ⟨p1, 4, none⟩ = some (.int .i64 nu) := by simp [World.cell?, HJ.out.2.2]
          have hmm := HM.out
          clear Y1 BX GG
          by_cases n0 : nu < 0
          · have hM : M = 0 := by omega
            have jl : ¬ (j : Int) < 0 := by omega
            clear hmm
            go_wp2
            go_roundw
            case rel => exact ⟨i + 1, mz + 1, _, _, _, _, by omega, by go_num, rfl, by omega, by omega, HJ.out.1, fun l hl => by have := HJ.out.2.1 l hl; have := M5.out; omega⟩
            case measure => simp [intOf]; omega
          · by_cases n1 : 5000 < nu
            · have n2 : ¬ nu ≤ 5000 := by omega
              have hM : M = 5000 := by omega
              clear hmm
              by_cases jl : (j : Int) < 5000
              · by_cases m3 : mz + 1 < 3
                · obtain ⟨v, hv0, hv⟩ := u8_of (j : Int)
                  have wu : IntKind.u8.wrap (j : Int) = (v : Int) := by rw [← hv0]; rfl
                  have wu2 : (j : Int) % 256 = (v : Int) := hv0
                  clear hv0
                  obtain ⟨t3, ht3, ba3⟩ := and_three (j : Int)
                  go_upto_region 17 with (fail)
                  obtain ⟨vd, Hvd⟩ : ∃ v, Hid (wr.drew = v) := ⟨_, rfl⟩
                  obtain ⟨pe, Hpe⟩ : ∃ v, Hid (vd.heap.size = v) := ⟨_, rfl⟩
                  obtain ⟨ve, Hve⟩ : ∃ x, Hid (vd.alloc (.cells #[.int .u8 (v : Int)] 5) = x) := ⟨_, rfl⟩
                  have Bd : Below wr.heap.size wr vd := by rw [← Hvd.out]; exact (Below.refl _ _).drew
                  have Be : Below vd.heap.size vd ve := by rw [← Hve.out]; exact alloc1 vd _
                  have Yd : Hid (Sy w vd D F A' B' X' G' q3 q4) := HJ.out.1.below Bd
                  have Ye : Hid (Sy w ve D F A' B' X' G' q3 q4) := Yd.out.below Be
                  have BXe : Hid (ve.heap[p1]? = some (.cells #[.int .i64 7, .int .i64 wh, .int .i64 fr, .int .i64 tt, .int .i64 nu, .slice a' n' c'] 34 (0, 0))) := BX_of (BX_of HJ.out.2.2 Bd) Be
                  have PP : Hid (Pr ve w.heap.size (D k) (F k) (A' k) (B' k) (X' k) (G' k)) := Ye.out.p k hk
                  have Ee : Hid (Sent ve 18 E) := hE.out.below Ye.out.bel
                  have Ge : Hid (G' k < 4611686018427387904) := by show _ < _; have := HJ.out.2.1 k hk; have := M5.out; omega
                  have Se : Hid (Sln ve (some ⟨pe, 0, none⟩) 1 [v]) := by rw [← Hve.out, ← Hpe.out]; exact one_slnF vd v hv _
                  have LB : Hid ([v].length ≤ 140737488351232) := by show _ ≤ _; simp
                  have Ae : Hid (∀ q, [v] ≠ [] → blkOf (some ⟨pe, 0, none⟩) = some q → ¬ Pk (D k) (F k) (A' k) (B' k) q) := fun q h1 h2 h3 => by
                    have h4 := ((Yd.out.p k hk).lt h3).2
                    have h5 := Hpe.out
                    have h6 : pe = q := Option.some.inj h2
                    omega
                  have loe : w.heap.size ≤ ve.heap.size := Ye.out.bel.size
                  have hkI : (k : Int) < 2 := by omega
                  refine wp_region_seq (C := fun W => W.heap[q3]? = some (.cells #[.pointer (some ⟨D 0, 0, none⟩), .pointer (some ⟨D 1, 0, none⟩)] 26 (0, 0)) ∧ W.heap[q4]? = some (.cells #[.pointer (some ⟨F 0, 0, none⟩), .pointer (some ⟨F 1, 0, none⟩)] 31 (0, 0))) [(0, false), (1, false), (2, false), (3, false), (4, false), (5, false), (6, false), (7, false), (8, false), (9, false), (10, true), (11, false), (12, true), (13, false)] (by kernel_rfl) (by kernel_rfl) (by rw [Hvd.out]; exact ⟨Yd.out.r3, Yd.out.r4⟩) ?_
                  rw [Hvd.out]
                  refine seq_take (o := { dst := some 56, op := Go.Op.move (Go.Operand.tmp 8), type := 3, pos := "law.go:105", after := #[], guard := none }) (v := .int .i64 (k : Int)) (by kernel_rfl) (fun _ _ _ h => h) (Or.inl ⟨by kernel_rfl, fun W hW => by go_simp⟩) ?_
                  simp only [List.getElem_toArray, List.getElem_cons_zero, List.getElem_cons_succ, Act.put, List.setIfInBounds_toArray, List.set_cons_zero, List.set_cons_succ]
                  refine seq_take (o := { dst := some 57, op := Go.Op.indexAddr 26 (Go.Operand.tmp 3) (Go.Operand.tmp 56), type := 0, pos := "law.go:105", after := #[{ on := 0, ground := Go.Ground.data }], guard := none }) (v := .pointer (some ⟨q3, k, none⟩)) (by kernel_rfl) (fun _ _ _ h => h) (Or.inl ⟨by kernel_rfl, fun W hW => by have q0 : ¬ (2 : Int) ≤ (k : Int) := (by omega); go_simp⟩) ?_
                  simp only [List.getElem_toArray, List.getElem_cons_zero, List.getElem_cons_succ, Act.put, List.setIfInBounds_toArray, List.set_cons_zero, List.set_cons_succ]
                  refine seq_take (o := { dst := some 58, op := Go.Op.load 24 (Go.Operand.tmp 57), type := 24, pos := "law.go:105", after := #[{ on := 1, ground := Go.Ground.data }], guard := none }) (v := .pointer (some ⟨D k, 0, none⟩)) (by kernel_rfl) (fun _ _ _ h => h) (Or.inl ⟨by kernel_rfl, fun W hW => by have q0 := arr2 (t := 0) hW.1 hk; go_simp⟩) ?_
                  simp only [List.getElem_toArray, List.getElem_cons_zero, List.getElem_cons_succ, Act.put, List.setIfInBounds_toArray, List.set_cons_zero, List.set_cons_succ]
                  refine seq_take (o := { dst := some 59, op := Go.Op.move (Go.Operand.tmp 8), type := 3, pos := "law.go:105", after := #[], guard := none }) (v := .int .i64 (k : Int)) (by kernel_rfl) (fun _ _ _ h => h) (Or.inl ⟨by kernel_rfl, fun W hW => by go_simp⟩) ?_
                  simp only [List.getElem_toArray, List.getElem_cons_zero, List.getElem_cons_succ, Act.put, List.setIfInBounds_toArray, List.set_cons_zero, List.set_cons_succ]
                  refine seq_take (o := { dst := some 60, op := Go.Op.indexAddr 31 (Go.Operand.tmp 4) (Go.Operand.tmp 59), type := 0, pos := "law.go:105", after := #[{ on := 3, ground := Go.Ground.data }], guard := none }) (v := .pointer (some ⟨q4, k, none⟩)) (by kernel_rfl) (fun _ _ _ h => h) (Or.inl ⟨by kernel_rfl, fun W hW => by have q0 : ¬ (2 : Int) ≤ (k : Int) := (by omega); go_simp⟩) ?_
                  simp only [List.getElem_toArray, List.getElem_cons_zero, List.getElem_cons_succ, Act.put, List.setIfInBounds_toArray, List.set_cons_zero, List.set_cons_succ]
                  refine seq_take (o := { dst := some 61, op := Go.Op.load 27 (Go.Operand.tmp 60), type := 27, pos := "law.go:105", after := #[{ on := 4, ground := Go.Ground.data }], guard := none }) (v := .pointer (some ⟨F k, 0, none⟩)) (by kernel_rfl) (fun _ _ _ h => h) (Or.inl ⟨by kernel_rfl, fun W hW => by have q0 := arr2 (t := 0) hW.2 hk; go_simp⟩) ?_
                  simp only [List.getElem_toArray, List.getElem_cons_zero, List.getElem_cons_succ, Act.put, List.setIfInBounds_toArray, List.set_cons_zero, List.set_cons_succ]
                  refine seq_take (o := { dst := some 62, op := Go.Op.move (Go.Operand.tmp 9), type := 3, pos := "law.go:105", after := #[], guard := none }) (v := .int .i64 (j : Int)) (by kernel_rfl) (fun _ _ _ h => h) (Or.inl ⟨by kernel_rfl, fun W hW => by go_simp⟩) ?_
                  simp only [List.getElem_toArray, List.getElem_cons_zero, List.getElem_cons_succ, Act.put, List.setIfInBounds_toArray, List.set_cons_zero, List.set_cons_succ]
                  refine seq_take (o := { dst := some 63, op := Go.Op.binOp Go.BinOp.and 3 (Go.Operand.tmp 62) (Go.Operand.const (Go.Value.int Go.IntKind.i64 3)) 3, type := 3, pos := "law.go:105", after := #[{ on := 6, ground := Go.Ground.data }], guard := none }) (v := .int .i64 (t3 : Int)) (by kernel_rfl) (fun _ _ _ h => h) (Or.inl ⟨by kernel_rfl, fun W hW => by go_simp⟩) ?_
                  simp only [List.getElem_toArray, List.getElem_cons_zero, List.getElem_cons_succ, Act.put, List.setIfInBounds_toArray, List.set_cons_zero, List.set_cons_succ]
                  refine seq_take (o := { dst := some 64, op := Go.Op.move (Go.Operand.tmp 9), type := 3, pos := "law.go:105", after := #[], guard := none }) (v := .int .i64 (j : Int)) (by kernel_rfl) (fun _ _ _ h => h) (Or.inl ⟨by kernel_rfl, fun W hW => by go_simp⟩) ?_
                  simp only [List.getElem_toArray, List.getElem_cons_zero, List.getElem_cons_succ, Act.put, List.setIfInBounds_toArray, List.set_cons_zero, List.set_cons_succ]
                  refine seq_take (o := { dst := some 65, op := Go.Op.convert 3 5 (Go.Operand.tmp 64), type := 5, pos := "law.go:105", after := #[{ on := 8, ground := Go.Ground.data }], guard := none }) (v := .int .u8 (v : Int)) (by kernel_rfl) (fun _ _ _ h => h) (Or.inl ⟨by kernel_rfl, fun W hW => by go_simp⟩) ?_
                  simp only [List.getElem_toArray, List.getElem_cons_zero, List.getElem_cons_succ, Act.put, List.setIfInBounds_toArray, List.set_cons_zero, List.set_cons_succ]
                  refine seq_call (o := { dst := some 66, op := Go.Op.buildSlice 32 1 #[(0, Go.Operand.tmp 65)], type := 32, pos := "law.go:105", after := #[{ on := 9, ground := Go.Ground.data }], guard := none }) (by kernel_rfl) (fun KK hK => ?_)
                  rw [if_pos (by kernel_rfl)]
                  go_simp
                  rw [Hpe.out, Hve.out]
                  refine hK.out _ _ (⟨Ye.out.r3, Ye.out.r4⟩) ?_
                  clear hK KK
                  try simp only [List.getElem_toArray, List.getElem_cons_zero, List.getElem_cons_succ, Act.put, List.setIfInBounds_toArray, List.set_cons_zero, List.set_cons_succ]
                  refine seq_take (o := { dst := some 67, op := Go.Op.build 34 #[(0, Go.Operand.const (Go.Value.int Go.IntKind.i64 1)), (3, Go.Operand.tmp 63), (5, Go.Operand.tmp 66)], type := 34, pos := "law.go:105", after := #[{ on := 7, ground := Go.Ground.data }, { on := 10, ground := Go.Ground.data }], guard := none }) (v := .agg #[.int .i64 1, .int .i64 0, .int .i64 0, .int .i64 (t3 : Int), .int .i64 0, .slice (some ⟨pe, 0, none⟩) 1 1]) (by kernel_rfl) (fun _ _ _ h => h) (Or.inl ⟨by kernel_rfl, fun W hW => by go_simp⟩) ?_
                  simp only [List.getElem_toArray, List.getElem_cons_zero, List.getElem_cons_succ, Act.put, List.setIfInBounds_toArray, List.set_cons_zero, List.set_cons_succ]
                  refine seq_call (o := { dst := some 68, op := Go.Op.call { callee := Go.Callee.value (Go.Operand.func 8), args := #[Go.Operand.tmp 58, Go.Operand.tmp 61, Go.Operand.tmp 67], argTypes := #[24, 27, 34] }, type := 4, pos := "law.go:105", after := #[{ on := 2, ground := Go.Ground.data }, { on := 5, ground := Go.Ground.data }, { on := 11, ground := Go.Ground.data }], guard := none }) (by kernel_rfl) (fun KK hK => ?_)
                  rw [if_pos (by kernel_rfl)]
                  go_simp
                  go_wp2_with (go_at_call 8; refine (play_n (kd := 1) PP loe Ee Ge Se (fun h => by cases h) LB Ae).mono ?_; rintro r w4 ⟨rfl, HQ⟩)
                  obtain ⟨a4, b4, X4, g4, HP4, HF4, HG4⟩ := HQ
                  have Y4 : Hid (Sy w w4 D F (up A' k a4) (up B' k b4) (up X' k X4) (up G' k g4) q3 q4) := Ye.out.play hk HP4 HF4
                  have BX4 : Hid (w4.heap[p1]? = some (.cells #[.int .i64 7, .int .i64 wh, .int .i64 fr, .int .i64 tt, .int .i64 nu, .slice a' n' c'] 34 (0, 0))) := PP.out.blk HF4 BXe.out (by decide) (by decide) (by decide) (by decide)
                  have G4 : Hid (∀ l, l < 2 → up G' k g4 l ≤ (i : Int) * 5001 + ((j + 1 : Nat) : Int)) := fun l hl => by
                    have h1 := HJ.out.2.1 l hl
                    have h2 := HJ.out.2.1 k hk
                    unfold up
                    split
                    · omega
                    · omega
                  clear HP4 HF4 HG4
                  refine hK.out _ _ (⟨Y4.out.r3, Y4.out.r4⟩) ?_
                  clear hK KK
                  try simp only [List.getElem_toArray, List.getElem_cons_zero, List.getElem_cons_succ, Act.put, List.setIfInBounds_toArray, List.set_cons_zero, List.set_cons_succ]
                  refine seq_take (o := { dst := some 69, op := Go.Op.unOp Go.UnOp.not 4 (Go.Operand.tmp 68), type := 4, pos := "law.go:105", after := #[{ on := 12, ground := Go.Ground.data }], guard := none }) (v := .bool false) (by kernel_rfl) (fun _ _ _ h => h) (Or.inl ⟨by kernel_rfl, fun W hW => by go_simp⟩) ?_
                  simp only [List.getElem_toArray, List.getElem_cons_zero, List.getElem_cons_succ, Act.put, List.setIfInBounds_toArray, List.set_cons_zero, List.set_cons_succ]
                  show (Exit.then _ _) .normal _ _
                  go_wp2
                  go_roundw
                  case rel => exact ⟨j + 1, _, _, _, _, by omega, by go_num, Y4.out, G4.out, BX4.out⟩
                  case measure => simp [intOf]; omega
                · go_wp2
                  go_roundw
                  case rel => exact ⟨i + 1, mz + 1, _, _, _, _, by omega, by go_num, rfl, by omega, by omega, HJ.out.1, fun l hl => by have := HJ.out.2.1 l hl; have := M5.out; omega⟩
                  case measure => simp [intOf]; omega
              · go_wp2
                go_roundw
                case rel => exact ⟨i + 1, mz + 1, _, _, _, _, by omega, by go_num, rfl, by omega, by omega, HJ.out.1, fun l hl => by have := HJ.out.2.1 l hl; have := M5.out; omega⟩
                case measure => simp [intOf]; omega
            · have n2 : nu ≤ 5000 := by omega
              have hM : (M : Int) = nu := by omega
              clear hmm
              by_cases jl : (j : Int) < nu
              · by_cases m3 : mz + 1 < 3
                · obtain ⟨v, hv0, hv⟩ := u8_of (j : Int)
                  have wu : IntKind.u8.wrap (j : Int) = (v : Int) := by rw [← hv0]; rfl
                  have wu2 : (j : Int) % 256 = (v : Int) := hv0
                  clear hv0
                  obtain ⟨t3, ht3, ba3⟩ := and_three (j : Int)
                  go_upto_region 17 with (fail)
                  obtain ⟨vd, Hvd⟩ : ∃ v, Hid (wr.drew = v) := ⟨_, rfl⟩
                  obtain ⟨pe, Hpe⟩ : ∃ v, Hid (vd.heap.size = v) := ⟨_, rfl⟩
                  obtain ⟨ve, Hve⟩ : ∃ x, Hid (vd.alloc (.cells #[.int .u8 (v : Int)] 5) = x) := ⟨_, rfl⟩
                  have Bd : Below wr.heap.size wr vd := by rw [← Hvd.out]; exact (Below.refl _ _).drew
                  have Be : Below vd.heap.size vd ve := by rw [← Hve.out]; exact alloc1 vd _
                  have Yd : Hid (Sy w vd D F A' B' X' G' q3 q4) := HJ.out.1.below Bd
                  have Ye : Hid (Sy w ve D F A' B' X' G' q3 q4) := Yd.out.below Be
                  have BXe : Hid (ve.heap[p1]? = some (.cells #[.int .i64 7, .int .i64 wh, .int .i64 fr, .int .i64 tt, .int .i64 nu, .slice a' n' c'] 34 (0, 0))) := BX_of (BX_of HJ.out.2.2 Bd) Be
                  have PP : Hid (Pr ve w.heap.size (D k) (F k) (A' k) (B' k) (X' k) (G' k)) := Ye.out.p k hk
                  have Ee : Hid (Sent ve 18 E) := hE.out.below Ye.out.bel
                  have Ge : Hid (G' k < 4611686018427387904) := by show _ < _; have := HJ.out.2.1 k hk; have := M5.out; omega
                  have Se : Hid (Sln ve (some ⟨pe, 0, none⟩) 1 [v]) := by rw [← Hve.out, ← Hpe.out]; exact one_slnF vd v hv _
                  have LB : Hid ([v].length ≤ 140737488351232) := by show _ ≤ _; simp
                  have Ae : Hid (∀ q, [v] ≠ [] → blkOf (some ⟨pe, 0, none⟩) = some q → ¬ Pk (D k) (F k) (A' k) (B' k) q) := fun q h1 h2 h3 => by
                    have h4 := ((Yd.out.p k hk).lt h3).2
                    have h5 := Hpe.out
                    have h6 : pe = q := Option.some.inj h2
                    omega
                  have loe : w.heap.size ≤ ve.heap.size := Ye.out.bel.size
                  have hkI : (k : Int) < 2 := by omega
                  refine wp_region_seq (C := fun W => W.heap[q3]? = some (.cells #[.pointer (some ⟨D 0, 0, none⟩), .pointer (some ⟨D 1, 0, none⟩)] 26 (0, 0)) ∧ W.heap[q4]? = some (.cells #[.pointer (some ⟨F 0, 0, none⟩), .pointer (some ⟨F 1, 0, none⟩)] 31 (0, 0))) [(0, false), (1, false), (2, false), (3, false), (4, false), (5, false), (6, false), (7, false), (8, false), (9, false), (10, true), (11, false), (12, true), (13, false)] (by kernel_rfl) (by kernel_rfl) (by rw [Hvd.out]; exact ⟨Yd.out.r3, Yd.out.r4⟩) ?_
                  rw [Hvd.out]
                  refine seq_take (o := { dst := some 56, op := Go.Op.move (Go.Operand.tmp 8), type := 3, pos := "law.go:105", after := #[], guard := none }) (v := .int .i64 (k : Int)) (by kernel_rfl) (fun _ _ _ h => h) (Or.inl ⟨by kernel_rfl, fun W hW => by go_simp⟩) ?_
                  simp only [List.getElem_toArray, List.getElem_cons_zero, List.getElem_cons_succ, Act.put, List.setIfInBounds_toArray, List.set_cons_zero, List.set_cons_succ]
                  refine seq_take (o := { dst := some 57, op := Go.Op.indexAddr 26 (Go.Operand.tmp 3) (Go.Operand.tmp 56), type := 0, pos := "law.go:105", after := #[{ on := 0, ground := Go.Ground.data }], guard := none }) (v := .pointer (some ⟨q3, k, none⟩)) (by kernel_rfl) (fun _ _ _ h => h) (Or.inl ⟨by kernel_rfl, fun W hW => by have q0 : ¬ (2 : Int) ≤ (k : Int) := (by omega); go_simp⟩) ?_
                  simp only [List.getElem_toArray, List.getElem_cons_zero, List.getElem_cons_succ, Act.put, List.setIfInBounds_toArray, List.set_cons_zero, List.set_cons_succ]
                  refine seq_take (o := { dst := some 58, op := Go.Op.load 24 (Go.Operand.tmp 57), type := 24, pos := "law.go:105", after := #[{ on := 1, ground := Go.Ground.data }], guard := none }) (v := .pointer (some ⟨D k, 0, none⟩)) (by kernel_rfl) (fun _ _ _ h => h) (Or.inl ⟨by kernel_rfl, fun W hW => by have q0 := arr2 (t := 0) hW.1 hk; go_simp⟩) ?_
                  simp only [List.getElem_toArray, List.getElem_cons_zero, List.getElem_cons_succ, Act.put, List.setIfInBounds_toArray, List.set_cons_zero, List.set_cons_succ]
                  refine seq_take (o := { dst := some 59, op := Go.Op.move (Go.Operand.tmp 8), type := 3, pos := "law.go:105", after := #[], guard := none }) (v := .int .i64 (k : Int)) (by kernel_rfl) (fun _ _ _ h => h) (Or.inl ⟨by kernel_rfl, fun W hW => by go_simp⟩) ?_
                  simp only [List.getElem_toArray, List.getElem_cons_zero, List.getElem_cons_succ, Act.put, List.setIfInBounds_toArray, List.set_cons_zero, List.set_cons_succ]
                  refine seq_take (o := { dst := some 60, op := Go.Op.indexAddr 31 (Go.Operand.tmp 4) (Go.Operand.tmp 59), type := 0, pos := "law.go:105", after := #[{ on := 3, ground := Go.Ground.data }], guard := none }) (v := .pointer (some ⟨q4, k, none⟩)) (by kernel_rfl) (fun _ _ _ h => h) (Or.inl ⟨by kernel_rfl, fun W hW => by have q0 : ¬ (2 : Int) ≤ (k : Int) := (by omega); go_simp⟩) ?_
                  simp only [List.getElem_toArray, List.getElem_cons_zero, List.getElem_cons_succ, Act.put, List.setIfInBounds_toArray, List.set_cons_zero, List.set_cons_succ]
                  refine seq_take (o := { dst := some 61, op := Go.Op.load 27 (Go.Operand.tmp 60), type := 27, pos := "law.go:105", after := #[{ on := 4, ground := Go.Ground.data }], guard := none }) (v := .pointer (some ⟨F k, 0, none⟩)) (by kernel_rfl) (fun _ _ _ h => h) (Or.inl ⟨by kernel_rfl, fun W hW => by have q0 := arr2 (t := 0) hW.2 hk; go_simp⟩) ?_
                  simp only [List.getElem_toArray, List.getElem_cons_zero, List.getElem_cons_succ, Act.put, List.setIfInBounds_toArray, List.set_cons_zero, List.set_cons_succ]
                  refine seq_take (o := { dst := some 62, op := Go.Op.move (Go.Operand.tmp 9), type := 3, pos := "law.go:105", after := #[], guard := none }) (v := .int .i64 (j : Int)) (by kernel_rfl) (fun _ _ _ h => h) (Or.inl ⟨by kernel_rfl, fun W hW => by go_simp⟩) ?_
                  simp only [List.getElem_toArray, List.getElem_cons_zero, List.getElem_cons_succ, Act.put, List.setIfInBounds_toArray, List.set_cons_zero, List.set_cons_succ]
                  refine seq_take (o := { dst := some 63, op := Go.Op.binOp Go.BinOp.and 3 (Go.Operand.tmp 62) (Go.Operand.const (Go.Value.int Go.IntKind.i64 3)) 3, type := 3, pos := "law.go:105", after := #[{ on := 6, ground := Go.Ground.data }], guard := none }) (v := .int .i64 (t3 : Int)) (by kernel_rfl) (fun _ _ _ h => h) (Or.inl ⟨by kernel_rfl, fun W hW => by go_simp⟩) ?_
                  simp only [List.getElem_toArray, List.getElem_cons_zero, List.getElem_cons_succ, Act.put, List.setIfInBounds_toArray, List.set_cons_zero, List.set_cons_succ]
                  refine seq_take (o := { dst := some 64, op := Go.Op.move (Go.Operand.tmp 9), type := 3, pos := "law.go:105", after := #[], guard := none }) (v := .int .i64 (j : Int)) (by kernel_rfl) (fun _ _ _ h => h) (Or.inl ⟨by kernel_rfl, fun W hW => by go_simp⟩) ?_
                  simp only [List.getElem_toArray, List.getElem_cons_zero, List.getElem_cons_succ, Act.put, List.setIfInBounds_toArray, List.set_cons_zero, List.set_cons_succ]
                  refine seq_take (o := { dst := some 65, op := Go.Op.convert 3 5 (Go.Operand.tmp 64), type := 5, pos := "law.go:105", after := #[{ on := 8, ground := Go.Ground.data }], guard := none }) (v := .int .u8 (v : Int)) (by kernel_rfl) (fun _ _ _ h => h) (Or.inl ⟨by kernel_rfl, fun W hW => by go_simp⟩) ?_
                  simp only [List.getElem_toArray, List.getElem_cons_zero, List.getElem_cons_succ, Act.put, List.setIfInBounds_toArray, List.set_cons_zero, List.set_cons_succ]
                  refine seq_call (o := { dst := some 66, op := Go.Op.buildSlice 32 1 #[(0, Go.Operand.tmp 65)], type := 32, pos := "law.go:105", after := #[{ on := 9, ground := Go.Ground.data }], guard := none }) (by kernel_rfl) (fun KK hK => ?_)
                  rw [if_pos (by kernel_rfl)]
                  go_simp
                  rw [Hpe.out, Hve.out]
                  refine hK.out _ _ (⟨Ye.out.r3, Ye.out.r4⟩) ?_
                  clear hK KK
                  try simp only [List.getElem_toArray, List.getElem_cons_zero, List.getElem_cons_succ, Act.put, List.setIfInBounds_toArray, List.set_cons_zero, List.set_cons_succ]
                  refine seq_take (o := { dst := some 67, op := Go.Op.build 34 #[(0, Go.Operand.const (Go.Value.int Go.IntKind.i64 1)), (3, Go.Operand.tmp 63), (5, Go.Operand.tmp 66)], type := 34, pos := "law.go:105", after := #[{ on := 7, ground := Go.Ground.data }, { on := 10, ground := Go.Ground.data }], guard := none }) (v := .agg #[.int .i64 1, .int .i64 0, .int .i64 0, .int .i64 (t3 : Int), .int .i64 0, .slice (some ⟨pe, 0, none⟩) 1 1]) (by kernel_rfl) (fun _ _ _ h => h) (Or.inl ⟨by kernel_rfl, fun W hW => by go_simp⟩) ?_
                  simp only [List.getElem_toArray, List.getElem_cons_zero, List.getElem_cons_succ, Act.put, List.setIfInBounds_toArray, List.set_cons_zero, List.set_cons_succ]
                  refine seq_call (o := { dst := some 68, op := Go.Op.call { callee := Go.Callee.value (Go.Operand.func 8), args := #[Go.Operand.tmp 58, Go.Operand.tmp 61, Go.Operand.tmp 67], argTypes := #[24, 27, 34] }, type := 4, pos := "law.go:105", after := #[{ on := 2, ground := Go.Ground.data }, { on := 5, ground := Go.Ground.data }, { on := 11, ground := Go.Ground.data }], guard := none }) (by kernel_rfl) (fun KK hK => ?_)
                  rw [if_pos (by kernel_rfl)]
                  go_simp
                  go_wp2_with (go_at_call 8; refine (play_n (kd := 1) PP loe Ee Ge Se (fun h => by cases h) LB Ae).mono ?_; rintro r w4 ⟨rfl, HQ⟩)
                  obtain ⟨a4, b4, X4, g4, HP4, HF4, HG4⟩ := HQ
                  have Y4 : Hid (Sy w w4 D F (up A' k a4) (up B' k b4) (up X' k X4) (up G' k g4) q3 q4) := Ye.out.play hk HP4 HF4
                  have BX4 : Hid (w4.heap[p1]? = some (.cells #[.int .i64 7, .int .i64 wh, .int .i64 fr, .int .i64 tt, .int .i64 nu, .slice a' n' c'] 34 (0, 0))) := PP.out.blk HF4 BXe.out (by decide) (by decide) (by decide) (by decide)
                  have G4 : Hid (∀ l, l < 2 → up G' k g4 l ≤ (i : Int) * 5001 + ((j + 1 : Nat) : Int)) := fun l hl => by
                    have h1 := HJ.out.2.1 l hl
                    have h2 := HJ.out.2.1 k hk
                    unfold up
                    split
                    · omega
                    · omega
                  clear HP4 HF4 HG4
                  refine hK.out _ _ (⟨Y4.out.r3, Y4.out.r4⟩) ?_
                  clear hK KK
                  try simp only [List.getElem_toArray, List.getElem_cons_zero, List.getElem_cons_succ, Act.put, List.setIfInBounds_toArray, List.set_cons_zero, List.set_cons_succ]
                  refine seq_take (o := { dst := some 69, op := Go.Op.unOp Go.UnOp.not 4 (Go.Operand.tmp 68), type := 4, pos := "law.go:105", after := #[{ on := 12, ground := Go.Ground.data }], guard := none }) (v := .bool false) (by kernel_rfl) (fun _ _ _ h => h) (Or.inl ⟨by kernel_rfl, fun W hW => by go_simp⟩) ?_
                  simp only [List.getElem_toArray, List.getElem_cons_zero, List.getElem_cons_succ, Act.put, List.setIfInBounds_toArray, List.set_cons_zero, List.set_cons_succ]
                  show (Exit.then _ _) .normal _ _
                  go_wp2
                  go_roundw
                  case rel => exact ⟨j + 1, _, _, _, _, by omega, by go_num, Y4.out, G4.out, BX4.out⟩
                  case measure => simp [intOf]; omega
                · go_wp2
                  go_roundw
                  case rel => exact ⟨i + 1, mz + 1, _, _, _, _, by omega, by go_num, rfl, by omega, by omega, HJ.out.1, fun l hl => by have := HJ.out.2.1 l hl; have := M5.out; omega⟩
                  case measure => simp [intOf]; omega
              · go_wp2
                go_roundw
                case rel => exact ⟨i + 1, mz + 1, _, _, _, _, by omega, by go_num, rfl, by omega, by omega, HJ.out.1, fun l hl => by have := HJ.out.2.1 l hl; have := M5.out; omega⟩
                case measure => simp [intOf]; omega
      · have HK : Hid (k < 2) := hk
        go_upto_region 19 with (fail)
        obtain ⟨vd, Hvd⟩ : ∃ v, Hid (v1.drew = v) := ⟨_, rfl⟩
        have Bd : Below v1.heap.size v1 vd := by rw [← Hvd.out]; exact (Below.refl _ _).drew
        have Yd : Hid (Sy w vd D F A B X G q3 q4) := Y1.out.below Bd
        have BXd : Hid (vd.heap[p1]? = some (.cells #[.int .i64 kd, .int .i64 wh, .int .i64 fr, .int .i64 tt, .int .i64 nu, .slice a' n' c'] 34 (0, 0))) := BX_of BX.out Bd
        have PP : Hid (Pr vd w.heap.size (D k) (F k) (A k) (B k) (X k) (G k)) := Yd.out.p k hk
        have Ed : Hid (Sent vd 18 E) := hE.out.below Yd.out.bel
        have Gd : Hid (G k < 4611686018427387904) := by show _ < _; have := GG.out k hk; omega
        have Sd : Hid (Sln vd a' n' bs) := S1.out.below Bd
        have Ad : Hid (∀ q, bs ≠ [] → blkOf a' = some q → ¬ Pk (D k) (F k) (A k) (B k) q) := fun q h1 h2 h3 => by
          have := AB.out q h1 h2
          have := (PP.out.lt h3).1
          omega
        have lod : w.heap.size ≤ vd.heap.size := Yd.out.bel.size
        refine wp_region_seq (C := fun W => W.heap[q3]? = some (.cells #[.pointer (some ⟨D 0, 0, none⟩), .pointer (some ⟨D 1, 0, none⟩)] 26 (0, 0)) ∧ W.heap[q4]? = some (.cells #[.pointer (some ⟨F 0, 0, none⟩), .pointer (some ⟨F 1, 0, none⟩)] 31 (0, 0)) ∧ W.heap[p1]? = some (.cells #[.int .i64 kd, .int .i64 wh, .int .i64 fr, .int .i64 tt, .int .i64 nu, .slice a' n' c'] 34 (0, 0))) [(0, false), (1, false), (2, false), (3, false), (4, false), (5, false), (6, false), (7, true), (8, false)] (by kernel_rfl) (by kernel_rfl) (by rw [Hvd.out]; exact ⟨Yd.out.r3, Yd.out.r4, BXd.out⟩) ?_
        rw [Hvd.out]
        refine seq_take (o := { dst := some 70, op := Go.Op.move (Go.Operand.tmp 8), type := 3, pos := "law.go:111", after := #[], guard := none }) (v := .int .i64 (k : Int)) (by kernel_rfl) (fun _ _ _ h => h) (Or.inl ⟨by kernel_rfl, fun W hW => by go_simp⟩) ?_
        simp only [List.getElem_toArray, List.getElem_cons_zero, List.getElem_cons_succ, Act.put, List.setIfInBounds_toArray, List.set_cons_zero, List.set_cons_succ]
        refine seq_take (o := { dst := some 71, op := Go.Op.indexAddr 26 (Go.Operand.tmp 3) (Go.Operand.tmp 70), type := 0, pos := "law.go:111", after := #[{ on := 0, ground := Go.Ground.data }], guard := none }) (v := .pointer (some ⟨q3, k, none⟩)) (by kernel_rfl) (fun _ _ _ h => h) (Or.inl ⟨by kernel_rfl, fun W hW => by have q0 : ¬ (2 : Int) ≤ (k : Int) := (by omega); go_simp⟩) ?_
        simp only [List.getElem_toArray, List.getElem_cons_zero, List.getElem_cons_succ, Act.put, List.setIfInBounds_toArray, List.set_cons_zero, List.set_cons_succ]
        refine seq_take (o := { dst := some 72, op := Go.Op.load 24 (Go.Operand.tmp 71), type := 24, pos := "law.go:111", after := #[{ on := 1, ground := Go.Ground.data }], guard := none }) (v := .pointer (some ⟨D k, 0, none⟩)) (by kernel_rfl) (fun _ _ _ h => h) (Or.inl ⟨by kernel_rfl, fun W hW => by have q0 := arr2 (t := 0) hW.1 hk; go_simp⟩) ?_
        simp only [List.getElem_toArray, List.getElem_cons_zero, List.getElem_cons_succ, Act.put, List.setIfInBounds_toArray, List.set_cons_zero, List.set_cons_succ]
        refine seq_take (o := { dst := some 73, op := Go.Op.move (Go.Operand.tmp 8), type := 3, pos := "law.go:111", after := #[], guard := none }) (v := .int .i64 (k : Int)) (by kernel_rfl) (fun _ _ _ h => h) (Or.inl ⟨by kernel_rfl, fun W hW => by go_simp⟩) ?_
        simp only [List.getElem_toArray, List.getElem_cons_zero, List.getElem_cons_succ, Act.put, List.setIfInBounds_toArray, List.set_cons_zero, List.set_cons_succ]
        refine seq_take (o := { dst := some 74, op := Go.Op.indexAddr 31 (Go.Operand.tmp 4) (Go.Operand.tmp 73), type := 0, pos := "law.go:111", after := #[{ on := 3, ground := Go.Ground.data }], guard := none }) (v := .pointer (some ⟨q4, k, none⟩)) (by kernel_rfl) (fun _ _ _ h => h) (Or.inl ⟨by kernel_rfl, fun W hW => by have q0 : ¬ (2 : Int) ≤ (k : Int) := (by omega); go_simp⟩) ?_
        simp only [List.getElem_toArray, List.getElem_cons_zero, List.getElem_cons_succ, Act.put, List.setIfInBounds_toArray, List.set_cons_zero, List.set_cons_succ]
        refine seq_take (o := { dst := some 75, op := Go.Op.load 27 (Go.Operand.tmp 74), type := 27, pos := "law.go:111", after := #[{ on := 4, ground := Go.Ground.data }], guard := none }) (v := .pointer (some ⟨F k, 0, none⟩)) (by kernel_rfl) (fun _ _ _ h => h) (Or.inl ⟨by kernel_rfl, fun W hW => by have q0 := arr2 (t := 0) hW.2.1 hk; go_simp⟩) ?_
        simp only [List.getElem_toArray, List.getElem_cons_zero, List.getElem_cons_succ, Act.put, List.setIfInBounds_toArray, List.set_cons_zero, List.set_cons_succ]
        refine seq_take (o := { dst := some 76, op := Go.Op.load 34 (Go.Operand.tmp 7), type := 34, pos := "law.go:111", after := #[], guard := none }) (v := (.agg #[.int .i64 kd, .int .i64 wh, .int .i64 fr, .int .i64 tt, .int .i64 nu, .slice a' n' c'])) (by kernel_rfl) (fun _ _ _ h => h) (Or.inl ⟨by kernel_rfl, fun W hW => by obtain ⟨q2, q3, q4, q5⟩ := cel6 hW.2.2; have q0 := cel0 hW.2.2; have q1 := cel1 hW.2.2; go_simp⟩) ?_
        simp only [List.getElem_toArray, List.getElem_cons_zero, List.getElem_cons_succ, Act.put, List.setIfInBounds_toArray, List.set_cons_zero, List.set_cons_succ]
        refine seq_call (o := { dst := some 77, op := Go.Op.call { callee := Go.Callee.value (Go.Operand.func 8), args := #[Go.Operand.tmp 72, Go.Operand.tmp 75, Go.Operand.tmp 76], argTypes := #[24, 27, 34] }, type := 4, pos := "law.go:111", after := #[{ on := 2, ground := Go.Ground.data }, { on := 5, ground := Go.Ground.data }, { on := 6, ground := Go.Ground.data }], guard := none }) (by kernel_rfl) (fun KK hK => ?_)
        rw [if_pos (by kernel_rfl)]
        go_simp
        go_wp2_with (go_at_call 8; refine (play_n (kd := kd) PP lod Ed Gd Sd ZB LB Ad).mono ?_; rintro r w4 ⟨rfl, HQ⟩)
        obtain ⟨a4, b4, X4, g4, HP4, HF4, HG4⟩ := HQ
        have Y4 : Hid (Sy w w4 D F (up A k a4) (up B k b4) (up X k X4) (up G k g4) q3 q4) := Yd.out.play hk HP4 HF4
        have BX4 : Hid (w4.heap[p1]? = some (.cells #[.int .i64 kd, .int .i64 wh, .int .i64 fr, .int .i64 tt, .int .i64 nu, .slice a' n' c'] 34 (0, 0))) := PP.out.blk HF4 BXd.out (by decide) (by decide) (by decide) (by decide)
        have G4 : Hid (∀ l, l < 2 → up G k g4 l ≤ ((i + 1 : Nat) : Int) * 5001) := fun l hl => by
          have h1 := GG.out l hl
          have h2 := GG.out k hk
          unfold up
          split
          · omega
          · omega
        clear HP4 HF4 HG4
        refine hK.out _ _ (⟨Y4.out.r3, Y4.out.r4, BX4.out⟩) ?_
        clear hK KK
        try simp only [List.getElem_toArray, List.getElem_cons_zero, List.getElem_cons_succ, Act.put, List.setIfInBounds_toArray, List.set_cons_zero, List.set_cons_succ]
        refine seq_take (o := { dst := some 78, op := Go.Op.unOp Go.UnOp.not 4 (Go.Operand.tmp 77), type := 4, pos := "law.go:111", after := #[{ on := 7, ground := Go.Ground.data }], guard := none }) (v := .bool false) (by kernel_rfl) (fun _ _ _ h => h) (Or.inl ⟨by kernel_rfl, fun W hW => by go_simp⟩) ?_
        simp only [List.getElem_toArray, List.getElem_cons_zero, List.getElem_cons_succ, Act.put, List.setIfInBounds_toArray, List.set_cons_zero, List.set_cons_succ]
        show (Exit.then _ _) .normal _ _
        go_wp2
        go_roundw
        case rel => exact ⟨i + 1, mz, _, _, _, _, by omega, by go_num, rfl, hm0, by omega, Y4.out, G4.out⟩
        case measure => simp [intOf]; omega
    · have hin : ¬ ((i : Int) < (n : Int)) := by omega
      go_upto_region 22 with (fail)
      go_wp2
      go_loopw [80] (fun ti wv => ∃ (k : Nat) (A' B' : Nat → Option Addr) (X' : Nat → List Lt) (G' : Nat → Int), k ≤ 2 ∧ ti = .int .i64 (k : Int) ∧ Hid (Sy w wv D F A' B' X' G' q3 q4 ∧ ∀ l, l < 2 → G' l ≤ (i : Int) * 5001 + (k : Int) * 50)) (fun ti _ => 2 - (intOf ti).toNat)
      case atStart => exact ⟨0, _, _, _, _, by omega, rfl, HI.out.1, fun l hl => by have := HI.out.2 l hl; omega⟩
      case round =>
        obtain ⟨k, A', B', X', G', hk2, rfl, HR⟩ := hrel
        clear HI
        by_cases hk : k < 2
        · have hkI : (k : Int) < 2 := by omega
          have HKk : Hid (k < 2) := hk
          go_upto_region 25 with (fail)
          obtain ⟨vd, Hvd⟩ : ∃ v, Hid (wr.drew = v) := ⟨_, rfl⟩
          have Bd : Below wr.heap.size wr vd := by rw [← Hvd.out]; exact (Below.refl _ _).drew
          have Yd : Hid (Sy w vd D F A' B' X' G' q3 q4) := HR.out.1.below Bd
          have PP : Hid (Pr vd w.heap.size (D k) (F k) (A' k) (B' k) (X' k) (G' k)) := Yd.out.p k hk
          refine wp_region_seq (C := fun W => W.heap[q3]? = some (.cells #[.pointer (some ⟨D 0, 0, none⟩), .pointer (some ⟨D 1, 0, none⟩)] 26 (0, 0)) ∧ W.heap[q4]? = some (.cells #[.pointer (some ⟨F 0, 0, none⟩), .pointer (some ⟨F 1, 0, none⟩)] 31 (0, 0))) [(0, false), (1, false), (2, false), (3, false), (4, false), (5, false), (6, true), (7, false)] (by kernel_rfl) (by kernel_rfl) (by rw [Hvd.out]; exact ⟨Yd.out.r3, Yd.out.r4⟩) ?_
          rw [Hvd.out]
          refine seq_take (o := { dst := some 83, op := Go.Op.move (Go.Operand.tmp 10), type := 3, pos := "law.go:116", after := #[], guard := none }) (v := .int .i64 (k : Int)) (by kernel_rfl) (fun _ _ _ h => h) (Or.inl ⟨by kernel_rfl, fun W hW => by go_simp⟩) ?_
          simp only [List.getElem_toArray, List.getElem_cons_zero, List.getElem_cons_succ, Act.put, List.setIfInBounds_toArray, List.set_cons_zero, List.set_cons_succ]
          refine seq_take (o := { dst := some 84, op := Go.Op.indexAddr 26 (Go.Operand.tmp 3) (Go.Operand.tmp 83), type := 0, pos := "law.go:116", after := #[{ on := 0, ground := Go.Ground.data }], guard := none }) (v := .pointer (some ⟨q3, k, none⟩)) (by kernel_rfl) (fun _ _ _ h => h) (Or.inl ⟨by kernel_rfl, fun W hW => by have q0 : ¬ (2 : Int) ≤ (k : Int) := (by omega); go_simp⟩) ?_
          simp only [List.getElem_toArray, List.getElem_cons_zero, List.getElem_cons_succ, Act.put, List.setIfInBounds_toArray, List.set_cons_zero, List.set_cons_succ]
          refine seq_take (o := { dst := some 85, op := Go.Op.load 24 (Go.Operand.tmp 84), type := 24, pos := "law.go:116", after := #[{ on := 1, ground := Go.Ground.data }], guard := none }) (v := .pointer (some ⟨D k, 0, none⟩)) (by kernel_rfl) (fun _ _ _ h => h) (Or.inl ⟨by kernel_rfl, fun W hW => by have q0 := arr2 (t := 0) hW.1 hk; go_simp⟩) ?_
          simp only [List.getElem_toArray, List.getElem_cons_zero, List.getElem_cons_succ, Act.put, List.setIfInBounds_toArray, List.set_cons_zero, List.set_cons_succ]
          refine seq_take (o := { dst := some 86, op := Go.Op.move (Go.Operand.tmp 10), type := 3, pos := "law.go:116", after := #[], guard := none }) (v := .int .i64 (k : Int)) (by kernel_rfl) (fun _ _ _ h => h) (Or.inl ⟨by kernel_rfl, fun W hW => by go_simp⟩) ?_
          simp only [List.getElem_toArray, List.getElem_cons_zero, List.getElem_cons_succ, Act.put, List.setIfInBounds_toArray, List.set_cons_zero, List.set_cons_succ]
          refine seq_take (o := { dst := some 87, op := Go.Op.indexAddr 31 (Go.Operand.tmp 4) (Go.Operand.tmp 86), type := 0, pos := "law.go:116", after := #[{ on := 3, ground := Go.Ground.data }], guard := none }) (v := .pointer (some ⟨q4, k, none⟩)) (by kernel_rfl) (fun _ _ _ h => h) (Or.inl ⟨by kernel_rfl, fun W hW => by have q0 : ¬ (2 : Int) ≤ (k : Int) := (by omega); go_simp⟩) ?_
          simp only [List.getElem_toArray, List.getElem_cons_zero, List.getElem_cons_succ, Act.put, List.setIfInBounds_toArray, List.set_cons_zero, List.set_cons_succ]
          refine seq_take (o := { dst := some 88, op := Go.Op.load 27 (Go.Operand.tmp 87), type := 27, pos := "law.go:116", after := #[{ on := 4, ground := Go.Ground.data }], guard := none }) (v := .pointer (some ⟨F k, 0, none⟩)) (by kernel_rfl) (fun _ _ _ h => h) (Or.inl ⟨by kernel_rfl, fun W hW => by have q0 := arr2 (t := 0) hW.2 hk; go_simp⟩) ?_
          simp only [List.getElem_toArray, List.getElem_cons_zero, List.getElem_cons_succ, Act.put, List.setIfInBounds_toArray, List.set_cons_zero, List.set_cons_succ]
          refine seq_call (o := { dst := some 89, op := Go.Op.call { callee := Go.Callee.value (Go.Operand.func 9), args := #[Go.Operand.tmp 85, Go.Operand.tmp 88], argTypes := #[24, 27] }, type := 4, pos := "law.go:116", after := #[{ on := 2, ground := Go.Ground.data }, { on := 5, ground := Go.Ground.data }], guard := none }) (by kernel_rfl) (fun KK hK => ?_)
          rw [if_pos (by kernel_rfl)]
          go_simp
          go_wp2_with (go_at_call 9; refine (waits_n PP).mono ?_; rintro r w4 ⟨rfl, HW⟩)
          have Y4 : Hid (Sy w w4 D F A' B' X' G' q3 q4) := Yd.out.below HW.out
          refine hK.out _ _ (⟨Y4.out.r3, Y4.out.r4⟩) ?_
          clear hK KK
          try simp only [List.getElem_toArray, List.getElem_cons_zero, List.getElem_cons_succ, Act.put, List.setIfInBounds_toArray, List.set_cons_zero, List.set_cons_succ]
          refine seq_take (o := { dst := some 90, op := Go.Op.unOp Go.UnOp.not 4 (Go.Operand.tmp 89), type := 4, pos := "law.go:116", after := #[{ on := 6, ground := Go.Ground.data }], guard := none }) (v := .bool false) (by kernel_rfl) (fun _ _ _ h => h) (Or.inl ⟨by kernel_rfl, fun W hW => by go_simp⟩) ?_
          simp only [List.getElem_toArray, List.getElem_cons_zero, List.getElem_cons_succ, Act.put, List.setIfInBounds_toArray, List.set_cons_zero, List.set_cons_succ]
          show (Exit.then _ _) .normal _ _
          have GR : Hid (∀ l, l < 2 → G' l ≤ (i : Int) * 5001 + (k : Int) * 50) := HR.out.2
          clear HR Yd PP HW Hvd Bd
          go_upto_region 27 with (fail)
          go_wp2
          go_loopw [11] (fun t11 wv => ∃ (j : Nat) (A' B' : Nat → Option Addr) (X' : Nat → List Lt) (G' : Nat → Int), j ≤ 50 ∧ t11 = .int .i64 (j : Int) ∧ Hid (Sy w wv D F A' B' X' G' q3 q4 ∧ ∀ l, l < 2 → G' l ≤ (i : Int) * 5001 + (k : Int) * 50 + j)) (fun t11 _ => 50 - (intOf t11).toNat)
          case atStart => exact ⟨0, _, _, _, _, by omega, by go_num, Y4.out, fun l hl => by have := GR.out l hl; omega⟩
          case round =>
            clear Y4 GR
            obtain ⟨j, A', B', X', G', hj, rfl, HJ⟩ := hrel
            have y4 := arr2 (t := 0) HJ.out.1.r4 hk
            obtain ⟨nl, cl, f1, f2⟩ := (HJ.out.1.p k hk).rt.st
            have y5 := (cel2 f1).1
            have FW : Hid (wr.heap[F k]? = some (.cells #[.slice (B' k) nl cl, .int .i64 (G' k)] 30 (0, 0))) := f1
            have RW : Hid (Rw wr w.heap.size 38 EL (B' k) nl cl (X' k)) := f2
            clear f1 f2
            by_cases j5 : (j : Int) < 50
            · by_cases nz : (0 : Int) < (nl : Int)
              · have NZ : Hid (0 < nl) := by show _ < _; omega
                go_upto_region 30 with (fail)
                have kx : 0 < (X' k).length := by rw [← RW.out.len]; exact NZ.out
                obtain ⟨g1, eb, _, _, e1⟩ := RW.out.at_ kx
                obtain ⟨x, Hx⟩ : ∃ x, Hid ((X' k)[0] = x) := ⟨(X' k)[0], (rfl : (X' k)[0] = (X' k)[0])⟩
                rw [Hx.out] at e1
                have XW : Hid (wr.cell? ⟨g1, 0, none⟩ = some (.int .i64 x.no)) := by have := e1 0 _ rfl; show wr.cell? ⟨g1, 0, none⟩ = _; simpa using this
                have FW2 : Hid (wr.heap[F k]? = some (.cells #[.slice (some ⟨g1, 0, none⟩) nl cl, .int .i64 (G' k)] 30 (0, 0))) := by rw [← eb]; exact FW.out
                clear e1 Hx kx eb
                have nlp : Hid ((0 : Int) < (nl : Int)) := nz
                obtain ⟨vd, Hvd⟩ : ∃ v, Hid (wr.drew = v) := ⟨_, rfl⟩
                have Bd : Below wr.heap.size wr vd := by rw [← Hvd.out]; exact (Below.refl _ _).drew
                have Yd : Hid (Sy w vd D F A' B' X' G' q3 q4) := HJ.out.1.below Bd
                have FD : Hid (vd.heap[F k]? = some (.cells #[.slice (some ⟨g1, 0, none⟩) nl cl, .int .i64 (G' k)] 30 (0, 0))) := BX_of FW2.out Bd
                have XD : Hid (vd.cell? ⟨g1, 0, none⟩ = some (.int .i64 x.no)) := (Bd.cell (p := ⟨g1, 0, none⟩) (cell_lt XW.out)).trans XW.out
                have PP : Hid (Pr vd w.heap.size (D k) (F k) (A' k) (B' k) (X' k) (G' k)) := Yd.out.p k hk
                have Ed : Hid (Sent vd 18 E) := hE.out.below Yd.out.bel
                have Gd : Hid (G' k < 4611686018427387904) := by show _ < _; have := HJ.out.2 k hk; omega
                have Sd : Hid (Sln vd none 0 []) := ⟨rfl, (by simp), (by simp), .inl rfl⟩
                have LD : Hid (([] : List Nat).length ≤ 140737488351232) := by show _ ≤ _; simp
                have lod : w.heap.size ≤ vd.heap.size := Yd.out.bel.size
                refine wp_region_seq (C := fun W => W.heap[q3]? = some (.cells #[.pointer (some ⟨D 0, 0, none⟩), .pointer (some ⟨D 1, 0, none⟩)] 26 (0, 0)) ∧ W.heap[q4]? = some (.cells #[.pointer (some ⟨F 0, 0, none⟩), .pointer (some ⟨F 1, 0, none⟩)] 31 (0, 0))) [(0, false), (1, false), (2, false), (3, false), (4, false), (5, false), (6, false), (7, false), (8, false), (9, false), (10, false), (11, true), (12, false), (13, false), (14, true), (15, false), (16, true), (17, false)] (by kernel_rfl) (by kernel_rfl) (by rw [Hvd.out]; exact ⟨Yd.out.r3, Yd.out.r4⟩) ?_
                rw [Hvd.out]
                refine seq_take (o := { dst := some 105, op := Go.Op.move (Go.Operand.tmp 10), type := 3, pos := "law.go:120", after := #[], guard := none }) (v := .int .i64 (k : Int)) (by kernel_rfl) (fun _ _ _ h => h) (Or.inl ⟨by kernel_rfl, fun W hW => by go_simp⟩) ?_
                simp only [List.getElem_toArray, List.getElem_cons_zero, List.getElem_cons_succ, Act.put, List.setIfInBounds_toArray, List.set_cons_zero, List.set_cons_succ]
                refine seq_take (o := { dst := some 106, op := Go.Op.indexAddr 26 (Go.Operand.tmp 3) (Go.Operand.tmp 105), type := 0, pos := "law.go:120", after := #[{ on := 0, ground := Go.Ground.data }], guard := none }) (v := .pointer (some ⟨q3, k, none⟩)) (by kernel_rfl) (fun _ _ _ h => h) (Or.inl ⟨by kernel_rfl, fun W hW => by have q0 : ¬ (2 : Int) ≤ (k : Int) := (by omega); go_simp⟩) ?_
                simp only [List.getElem_toArray, List.getElem_cons_zero, List.getElem_cons_succ, Act.put, List.setIfInBounds_toArray, List.set_cons_zero, List.set_cons_succ]
                refine seq_take (o := { dst := some 107, op := Go.Op.load 24 (Go.Operand.tmp 106), type := 24, pos := "law.go:120", after := #[{ on := 1, ground := Go.Ground.data }], guard := none }) (v := .pointer (some ⟨D k, 0, none⟩)) (by kernel_rfl) (fun _ _ _ h => h) (Or.inl ⟨by kernel_rfl, fun W hW => by have q0 := arr2 (t := 0) hW.1 hk; go_simp⟩) ?_
                simp only [List.getElem_toArray, List.getElem_cons_zero, List.getElem_cons_succ, Act.put, List.setIfInBounds_toArray, List.set_cons_zero, List.set_cons_succ]
                refine seq_take (o := { dst := some 108, op := Go.Op.move (Go.Operand.tmp 10), type := 3, pos := "law.go:120", after := #[], guard := none }) (v := .int .i64 (k : Int)) (by kernel_rfl) (fun _ _ _ h => h) (Or.inl ⟨by kernel_rfl, fun W hW => by go_simp⟩) ?_
                simp only [List.getElem_toArray, List.getElem_cons_zero, List.getElem_cons_succ, Act.put, List.setIfInBounds_toArray, List.set_cons_zero, List.set_cons_succ]
                refine seq_take (o := { dst := some 109, op := Go.Op.indexAddr 31 (Go.Operand.tmp 4) (Go.Operand.tmp 108), type := 0, pos := "law.go:120", after := #[{ on := 3, ground := Go.Ground.data }], guard := none }) (v := .pointer (some ⟨q4, k, none⟩)) (by kernel_rfl) (fun _ _ _ h => h) (Or.inl ⟨by kernel_rfl, fun W hW => by have q0 : ¬ (2 : Int) ≤ (k : Int) := (by omega); go_simp⟩) ?_
                simp only [List.getElem_toArray, List.getElem_cons_zero, List.getElem_cons_succ, Act.put, List.setIfInBounds_toArray, List.set_cons_zero, List.set_cons_succ]
                refine seq_take (o := { dst := some 110, op := Go.Op.load 27 (Go.Operand.tmp 109), type := 27, pos := "law.go:120", after := #[{ on := 4, ground := Go.Ground.data }], guard := none }) (v := .pointer (some ⟨F k, 0, none⟩)) (by kernel_rfl) (fun _ _ _ h => h) (Or.inl ⟨by kernel_rfl, fun W hW => by have q0 := arr2 (t := 0) hW.2 hk; go_simp⟩) ?_
                simp only [List.getElem_toArray, List.getElem_cons_zero, List.getElem_cons_succ, Act.put, List.setIfInBounds_toArray, List.set_cons_zero, List.set_cons_succ]
                refine seq_take (o := { dst := some 111, op := Go.Op.move (Go.Operand.tmp 10), type := 3, pos := "law.go:120", after := #[], guard := none }) (v := .int .i64 (k : Int)) (by kernel_rfl) (fun _ _ _ h => h) (Or.inl ⟨by kernel_rfl, fun W hW => by go_simp⟩) ?_
                simp only [List.getElem_toArray, List.getElem_cons_zero, List.getElem_cons_succ, Act.put, List.setIfInBounds_toArray, List.set_cons_zero, List.set_cons_succ]
                refine seq_take (o := { dst := some 112, op := Go.Op.indexAddr 31 (Go.Operand.tmp 4) (Go.Operand.tmp 111), type := 0, pos := "law.go:120", after := #[{ on := 6, ground := Go.Ground.data }], guard := none }) (v := .pointer (some ⟨q4, k, none⟩)) (by kernel_rfl) (fun _ _ _ h => h) (Or.inl ⟨by kernel_rfl, fun W hW => by have q0 : ¬ (2 : Int) ≤ (k : Int) := (by omega); go_simp⟩) ?_
                simp only [List.getElem_toArray, List.getElem_cons_zero, List.getElem_cons_succ, Act.put, List.setIfInBounds_toArray, List.set_cons_zero, List.set_cons_succ]
                refine seq_take (o := { dst := some 113, op := Go.Op.load 27 (Go.Operand.tmp 112), type := 27, pos := "law.go:120", after := #[{ on := 7, ground := Go.Ground.data }], guard := none }) (v := .pointer (some ⟨F k, 0, none⟩)) (by kernel_rfl) (fun _ _ _ h => h) (Or.inl ⟨by kernel_rfl, fun W hW => by have q0 := arr2 (t := 0) hW.2 hk; go_simp⟩) ?_
                simp only [List.getElem_toArray, List.getElem_cons_zero, List.getElem_cons_succ, Act.put, List.setIfInBounds_toArray, List.set_cons_zero, List.set_cons_succ]
                refine seq_take (o := { dst := some 114, op := Go.Op.nilCheck (Go.Operand.tmp 113), type := 0, pos := "law.go:120", after := #[{ on := 8, ground := Go.Ground.data }], guard := none }) (v := .pointer (some ⟨F k, 0, none⟩)) (by kernel_rfl) (fun _ _ _ h => h) (Or.inl ⟨by kernel_rfl, fun W hW => by go_simp⟩) ?_
                simp only [List.getElem_toArray, List.getElem_cons_zero, List.getElem_cons_succ, Act.put, List.setIfInBounds_toArray, List.set_cons_zero, List.set_cons_succ]
                refine seq_take (o := { dst := some 115, op := Go.Op.fieldAddr 30 (Go.Operand.tmp 114) 0, type := 0, pos := "law.go:120", after := #[{ on := 9, ground := Go.Ground.data }], guard := none }) (v := .pointer (some ⟨F k, 0, none⟩)) (by kernel_rfl) (fun _ _ _ h => h) (Or.inl ⟨by kernel_rfl, fun W hW => by go_simp⟩) ?_
                simp only [List.getElem_toArray, List.getElem_cons_zero, List.getElem_cons_succ, Act.put, List.setIfInBounds_toArray, List.set_cons_zero, List.set_cons_succ]
                refine seq_call (o := { dst := some 116, op := Go.Op.load 28 (Go.Operand.tmp 115), type := 28, pos := "law.go:120", after := #[{ on := 10, ground := Go.Ground.data }], guard := none }) (by kernel_rfl) (fun KK hK => ?_)
                rw [if_pos (by kernel_rfl)]
                have q0 := (cel2 FD.out).1
                go_simp
                refine hK.out _ _ (⟨Yd.out.r3, Yd.out.r4⟩) ?_
                clear hK KK
                try simp only [List.getElem_toArray, List.getElem_cons_zero, List.getElem_cons_succ, Act.put, List.setIfInBounds_toArray, List.set_cons_zero, List.set_cons_succ]
                refine seq_take (o := { dst := some 117, op := Go.Op.indexAddr 28 (Go.Operand.tmp 116) (Go.Operand.const (Go.Value.int Go.IntKind.i64 0)), type := 0, pos := "law.go:120", after := #[{ on := 11, ground := Go.Ground.data }], guard := none }) (v := .pointer (some ⟨g1, 0, none⟩)) (by kernel_rfl) (fun _ _ _ h => h) (Or.inl ⟨by kernel_rfl, fun W hW => by have q0 := nlp.out; go_simp⟩) ?_
                simp only [List.getElem_toArray, List.getElem_cons_zero, List.getElem_cons_succ, Act.put, List.setIfInBounds_toArray, List.set_cons_zero, List.set_cons_succ]
                refine seq_take (o := { dst := some 118, op := Go.Op.fieldAddr 38 (Go.Operand.tmp 117) 0, type := 0, pos := "law.go:120", after := #[{ on := 12, ground := Go.Ground.data }], guard := none }) (v := .pointer (some ⟨g1, 0, none⟩)) (by kernel_rfl) (fun _ _ _ h => h) (Or.inl ⟨by kernel_rfl, fun W hW => by go_simp⟩) ?_
                simp only [List.getElem_toArray, List.getElem_cons_zero, List.getElem_cons_succ, Act.put, List.setIfInBounds_toArray, List.set_cons_zero, List.set_cons_succ]
                refine seq_call (o := { dst := some 119, op := Go.Op.load 3 (Go.Operand.tmp 118), type := 3, pos := "law.go:120", after := #[{ on := 13, ground := Go.Ground.data }], guard := none }) (by kernel_rfl) (fun KK hK => ?_)
                rw [if_pos (by kernel_rfl)]
                have q0 := XD.out
                go_simp
                refine hK.out _ _ (⟨Yd.out.r3, Yd.out.r4⟩) ?_
                clear hK KK
                try simp only [List.getElem_toArray, List.getElem_cons_zero, List.getElem_cons_succ, Act.put, List.setIfInBounds_toArray, List.set_cons_zero, List.set_cons_succ]
                refine seq_take (o := { dst := some 120, op := Go.Op.build 34 #[(0, Go.Operand.const (Go.Value.int Go.IntKind.i64 2)), (4, Go.Operand.tmp 119)], type := 34, pos := "law.go:120", after := #[{ on := 14, ground := Go.Ground.data }], guard := none }) (v := .agg #[.int .i64 2, .int .i64 0, .int .i64 0, .int .i64 0, .int .i64 x.no, .slice none 0 0]) (by kernel_rfl) (fun _ _ _ h => h) (Or.inl ⟨by kernel_rfl, fun W hW => by go_simp⟩) ?_
                simp only [List.getElem_toArray, List.getElem_cons_zero, List.getElem_cons_succ, Act.put, List.setIfInBounds_toArray, List.set_cons_zero, List.set_cons_succ]
                refine seq_call (o := { dst := some 121, op := Go.Op.call { callee := Go.Callee.value (Go.Operand.func 8), args := #[Go.Operand.tmp 107, Go.Operand.tmp 110, Go.Operand.tmp 120], argTypes := #[24, 27, 34] }, type := 4, pos := "law.go:120", after := #[{ on := 2, ground := Go.Ground.data }, { on := 5, ground := Go.Ground.data }, { on := 15, ground := Go.Ground.data }], guard := none }) (by kernel_rfl) (fun KK hK => ?_)
                rw [if_pos (by kernel_rfl)]
                go_simp
                go_wp2_with (go_at_call 8; refine (play_n (kd := 2) PP lod Ed Gd Sd (fun _ => rfl) LD (fun q h1 => absurd rfl h1)).mono ?_; rintro r w4 ⟨rfl, HQ⟩)
                obtain ⟨a4, b4, X4, g4, HP4, HF4, HG4⟩ := HQ
                have Y4 : Hid (Sy w w4 D F (up A' k a4) (up B' k b4) (up X' k X4) (up G' k g4) q3 q4) := Yd.out.play hk HP4 HF4
                have G4 : Hid (∀ l, l < 2 → up G' k g4 l ≤ (i : Int) * 5001 + (k : Int) * 50 + ((j + 1 : Nat) : Int)) := fun l hl => by
                  have h1 := HJ.out.2 l hl
                  have h2 := HJ.out.2 k hk
                  unfold up
                  split
                  · omega
                  · omega
                have F4 : Hid True := trivial
                clear HP4 HF4 HG4
                refine hK.out _ _ (⟨Y4.out.r3, Y4.out.r4⟩) ?_
                clear hK KK
                try simp only [List.getElem_toArray, List.getElem_cons_zero, List.getElem_cons_succ, Act.put, List.setIfInBounds_toArray, List.set_cons_zero, List.set_cons_succ]
                refine seq_take (o := { dst := some 122, op := Go.Op.unOp Go.UnOp.not 4 (Go.Operand.tmp 121), type := 4, pos := "law.go:120", after := #[{ on := 16, ground := Go.Ground.data }], guard := none }) (v := .bool false) (by kernel_rfl) (fun _ _ _ h => h) (Or.inl ⟨by kernel_rfl, fun W hW => by go_simp⟩) ?_
                simp only [List.getElem_toArray, List.getElem_cons_zero, List.getElem_cons_succ, Act.put, List.setIfInBounds_toArray, List.set_cons_zero, List.set_cons_succ]
                show (Exit.then _ _) .normal _ _
                go_wp2
                go_roundw
                case rel => exact ⟨j + 1, _, _, _, _, by omega, by go_num, Y4.out, G4.out⟩
                case measure => simp [intOf]; omega
              · have nz0 : nl = 0 := by omega
                subst nz0
                go_wp2
                go_roundw
                case rel => exact ⟨k + 1, _, _, _, _, by omega, by go_num, HJ.out.1, fun l hl => by have := HJ.out.2 l hl; omega⟩
                case measure => simp [intOf]; omega
            · go_wp2
              go_roundw
              case rel => exact ⟨k + 1, _, _, _, _, by omega, by go_num, HJ.out.1, fun l hl => by have := HJ.out.2 l hl; omega⟩
              case measure => simp [intOf]; omega
        · have hkI : ¬ (k : Int) < 2 := by omega
          go_wp2_with (fail)
          go_ret
          exact ⟨rfl, HR.out.1.bel⟩
end Go.Proofs.YtkjebbpmafhpgaaDoor
