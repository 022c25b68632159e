/- Parse, for all bytes. -/
import Derived.Test.YtemhhlongfabmaaGreatDoorHj
namespace Go.Proofs.YtemhhlongfabmaaGreatDoor
open Go.ChangeShapes Go.WideShapes Go.ChangeAt Go.RowKit
set_option maxRecDepth 20000
set_option linter.unusedVariables false
set_option linter.unusedSimpArgs false
set_option maxHeartbeats 1000000 in
theorem parse_n {a : Option Addr} {n c : Nat} {l : List Nat} {w : World} {M : Nat → Prop} {E : Nat → Addr} (hS : Hid (Sln w a n l)) (hc : Hid (a = none → c = 0)) (hnc : n ≤ c) (hm : Hid (Mx w)) (hE : Hid (Sent w M E)) (M0 : M 0) (M12 : M 12) : Calls Tryz.prog 11 #[.slice a n c] w fun e w' => ParseEnd w w' E (prs l) e ∧ Hid (Below w.heap.size w w') := by
  have hn : n ≤ 140737488354304 := by rw [hS.out.len]; exact hS.out.sli.2.1
  have HL : Hid (n = l.length) := hS.out.len
  obtain ⟨k, HK⟩ : ∃ k, Hid (min n 2048 = k) := ⟨_, rfl⟩
  have kn : k ≤ n := by have := HK.out; omega
  have k2 : k ≤ 2048 := by have := HK.out; omega
  have mn : min (n : Int) 2048 = (k : Int) := by have := HK.out; omega
  have CV0 := Go.Joins.run_convert_bytes_const_at (P := Tryz.prog) (w.alloc (.cells #[.string { data := #[] }, .string { data := #[] }, .slice none 0 0, .slice none 0 0] 27)) 22 5 #[.int .u8 13, .int .u8 10, .int .u8 13, .int .u8 10] 4 4 (w.heap.size + 1) (by simp) Tryz.underlying22 Tryz.underlying5
  obtain ⟨g2, G2⟩ : ∃ g, Hid (w.heap.size = g) := ⟨_, rfl⟩
  obtain ⟨w1, H1⟩ : ∃ w1, Hid ((w.alloc (.cells #[.string { data := #[] }, .string { data := #[] }, .slice none 0 0, .slice none 0 0] 27)).alloc (.cells #[.int .u8 13, .int .u8 10, .int .u8 13, .int .u8 10] 5 (4, 5)) = w1) := ⟨_, rfl⟩
  have CV : ((convert 22 22 (.slice (some ⟨w.heap.size + 1, 0, none⟩) 4 4)).run Tryz.prog ((w.alloc (.cells #[.string { data := #[] }, .string { data := #[] }, .slice none 0 0, .slice none 0 0] 27)).alloc (.cells #[.int .u8 13, .int .u8 10, .int .u8 13, .int .u8 10] 5)) = .ok (.slice (some ⟨w.heap.size + 1, 0, none⟩) 4 4) w1) := CV0.trans (by rw [← H1.out]; rfl)
  clear CV0
  have K1 : Hid (Bx w w1 g2 27 (aggR ⟨#[]⟩ ⟨#[]⟩ nilS nilS)) := by
    rw [← H1.out, ← G2.out]
    exact (Bx.new w w 27 _ (Below.refl _ _)).below (alloc1 _ _)
  have R1 : Hid (Row w1 (w.heap.size + 1) 0 hEnd) := fun i hi => by
    rw [← H1.out]
    have e := Go.Joins.cell_alloc_mark_at (w.alloc (.cells #[.string { data := #[] }, .string { data := #[] }, .slice none 0 0, .slice none 0 0] 27)) #[.int .u8 13, .int .u8 10, .int .u8 13, .int .u8 10] 5 (4, 5) (w.heap.size + 1) (0 + i) (by simp)
    rw [e]
    match i, hi with
    | 0, _ => rfl
    | 1, _ => rfl
    | 2, _ => rfl
    | 3, _ => rfl
    | i + 4, h => exact absurd h (by simp [hEnd])
  have M1 : Hid (Mx w1) := hm.out.below K1.out.bel
  have ST : Hid (Sln w1 a k (l.take k)) := slice_to (hS.out.below K1.out.bel) kn
  obtain ⟨x, HX⟩ : ∃ x, Hid (ixH (l.take 2048) = x) := ⟨_, rfl⟩
  have TK : Hid (l.take k = l.take 2048) := (by
    by_cases h : n ≤ 2048
    · rw [List.take_of_length_le (by have := HK.out; have := HL.out; omega), List.take_of_length_le (by have := HL.out; omega)]
    · have : k = 2048 := by have := HK.out; omega
      rw [this] : l.take k = l.take 2048)
  have I1 : Hid (Calls Tryz.prog 27 #[.slice a k c, .slice (some ⟨w.heap.size + 1, 0, none⟩) 4 4] w1 fun e w' => e = .returned (.int .i64 x) ∧ Hid (Below w1.heap.size w1 w')) := by
    have := index_n (c := c) ST hc (by omega) (by omega) R1 M1
    rw [TK.out, HX.out] at this
    exact this
  by_cases hx : x < 0
  · by_cases h2 : 2048 ≤ n
    · have EV : Hid (prs l = .bad 0) := by unfold prs; rw [HX.out, if_pos hx, if_pos (by rw [← HL.out]; exact h2)]; exact (rfl : PR.bad 0 = PR.bad 0)
      have i2 : (2048 : Int) ≤ (n : Int) := by omega
      clear h2
      go_enter Tryz.func11, Tryz.ntmps11
      go_upto_region 3 with (first
         | (go_at_call 27; refine I1.out.mono ?_; rintro e w2 ⟨rfl, B2⟩
            have K2 : Hid (Bx w w2 g2 27 (aggR ⟨#[]⟩ ⟨#[]⟩ nilS nilS)) := K1.out.below B2.out))
      rw [G2.out]
      have KD : Hid (Bx w w2.drew g2 27 (aggR ⟨#[]⟩ ⟨#[]⟩ nilS nilS)) := K2.out.below (Below.refl _ _).drew
      have EK : Hid (w2.drew.cell? ⟨0, 0, none⟩ = some (er (E 0)) ∧ (w2.drew.setRow g2 (aggR ⟨#[]⟩ ⟨#[]⟩ nilS nilS)).cell? ⟨0, 0, none⟩ = some (er (E 0))) := err_kept hE.out M0 KD.out _
      refine wp_region_seq (C := fun W => W.cell? ⟨0, 0, none⟩ = some (er (E 0))) [(0, false), (1, false), (2, true), (3, false), (4, false)] (by kernel_rfl) (by kernel_rfl) (EK.out.1) ?_
      refine seq_take (o := { dst := some 25, op := Go.Op.build 27 #[], type := 27, pos := "http.go:14", after := #[], guard := none }) (v := .agg #[.string { data := #[] }, .string { data := #[] }, .slice none 0 0, .slice none 0 0]) (by kernel_rfl) (fun _ _ _ h => h) (Or.inl ⟨by kernel_rfl, fun W hW => by go_simp⟩) ?_
      simp only [List.getElem_toArray, List.getElem_cons_zero, List.getElem_cons_succ, Act.put, List.setIfInBounds_toArray, List.set_cons_zero, List.set_cons_succ]
      refine seq_take (o := { dst := some 26, op := Go.Op.load 29 (Go.Operand.global 0), type := 29, pos := "http.go:14", after := #[{ on := 3, ground := Go.Ground.gcOnly Go.Departure.lateStores }], guard := none }) (v := er (E 0)) (by kernel_rfl) (fun _ _ _ h => h) (Or.inl ⟨by kernel_rfl, fun W hW => by go_simp⟩) ?_
      simp only [List.getElem_toArray, List.getElem_cons_zero, List.getElem_cons_succ, Act.put, List.setIfInBounds_toArray, List.set_cons_zero, List.set_cons_succ]
      refine seq_call (o := { dst := none, op := Go.Op.store 27 (Go.Operand.tmp 2) (Go.Operand.tmp 25), type := 0, pos := "http.go:14", after := #[{ on := 0, ground := Go.Ground.data }, { on := 0, ground := Go.Ground.phase }, { on := 1, ground := Go.Ground.textOnly Go.Departure.lateStores }], guard := none }) (by kernel_rfl) (fun KK hK => ?_)
      rw [if_pos (by kernel_rfl)]
      refine wp_store_row 27 (.tmp 2) (.tmp 25) (by rfl) g2 (aggR ⟨#[]⟩ ⟨#[]⟩ nilS nilS) (by rfl) (by rfl) 27 _ KD.out.row (sz27 _ _ _ _) (by rfl) (one27 _ _ _ _ _ _ _ _) ?_
      refine hK.out _ _ (EK.out.2) ?_
      clear hK KK
      try simp only [List.getElem_toArray, List.getElem_cons_zero, List.getElem_cons_succ, Act.put, List.setIfInBounds_toArray, List.set_cons_zero, List.set_cons_succ]
      refine seq_take (o := { dst := some 3, op := Go.Op.assign (Go.Operand.const (Go.Value.int Go.IntKind.i64 0)), type := 3, pos := "http.go:14", after := #[{ on := 2, ground := Go.Ground.chain }, { on := 0, ground := Go.Ground.phase }, { on := 1, ground := Go.Ground.textOnly Go.Departure.lateStores }, { on := 2, ground := Go.Ground.phase }], guard := none }) (v := .int .i64 0) (by kernel_rfl) (fun _ _ _ h => h) (Or.inl ⟨by kernel_rfl, fun W hW => by go_simp⟩) ?_
      simp only [List.getElem_toArray, List.getElem_cons_zero, List.getElem_cons_succ, Act.put, List.setIfInBounds_toArray, List.set_cons_zero, List.set_cons_succ]
      refine seq_take (o := { dst := some 4, op := Go.Op.assign (Go.Operand.tmp 26), type := 29, pos := "http.go:14", after := #[{ on := 1, ground := Go.Ground.data }, { on := 3, ground := Go.Ground.chain }, { on := 0, ground := Go.Ground.phase }, { on := 1, ground := Go.Ground.phase }, { on := 2, ground := Go.Ground.phase }, { on := 3, ground := Go.Ground.phase }], guard := none }) (v := er (E 0)) (by kernel_rfl) (fun _ _ _ h => h) (Or.inl ⟨by kernel_rfl, fun W hW => by go_simp⟩) ?_
      simp only [List.getElem_toArray, List.getElem_cons_zero, List.getElem_cons_succ, Act.put, List.setIfInBounds_toArray, List.set_cons_zero, List.set_cons_succ]
      show (Exit.then _ _) .normal _ _
      go_wp2
      try simp only [Exit.inBlock, Exit.then]
      refine bodyPost_ret (res_row3 (by rfl) (by rfl) (KD.out.set _).row und27 (sz27 _ _ _ _)) rfl ?_
      rw [EV.out]
      exact ⟨rfl, (KD.out.set _).bel⟩
    · have EV : Hid (prs l = .wait) := by unfold prs; rw [HX.out, if_pos hx, if_neg (by rw [← HL.out]; exact h2)]; exact (rfl : PR.wait = PR.wait)
      have i2 : ¬ ((2048 : Int) ≤ (n : Int)) := by omega
      clear h2
      go_enter Tryz.func11, Tryz.ntmps11
      go_upto_region 2 with (first
         | (go_at_call 27; refine I1.out.mono ?_; rintro e w2 ⟨rfl, B2⟩
            have K2 : Hid (Bx w w2 g2 27 (aggR ⟨#[]⟩ ⟨#[]⟩ nilS nilS)) := K1.out.below B2.out
            obtain ⟨w9, H9⟩ : ∃ w9, Hid (w2.setRow g2 (aggR ⟨#[]⟩ ⟨#[]⟩ nilS nilS) = w9) := ⟨_, rfl⟩
            have K9 : Hid (Bx w w9 g2 27 (aggR ⟨#[]⟩ ⟨#[]⟩ nilS nilS)) := by rw [← H9.out]; exact K2.out.set _))
      rw [G2.out]
      go_wp2_with (first
         | (refine wpList_store_row (by rfl) 27 (.tmp 2) (.tmp 29) (by rfl) g2 (aggR ⟨#[]⟩ ⟨#[]⟩ nilS nilS) (by rfl) (by rfl) 27 _ K2.out.row (sz27 _ _ _ _) (by rfl) (one27 _ _ _ _ _ _ _ _) ?_; refine (show _ = w9 from H9.out) ▸ ?_))
      try simp only [Exit.inBlock, Exit.then]
      refine bodyPost_ret (res_row3 (by rfl) (by rfl) K9.out.row und27 (sz27 _ _ _ _)) rfl ?_
      rw [EV.out]
      exact ⟨rfl, K9.out.bel⟩
  · obtain ⟨e, HE⟩ : ∃ e : Nat, Hid (x = (e : Int)) := ⟨x.toNat, (by omega : x = (x.toNat : Int))⟩
    have ER : e + 4 ≤ k := by
      have h := ix_room (l := l.take 2048) (by rw [HX.out]; exact hx)
      rw [HX.out, HE.out, ← TK.out] at h
      simp at h
      have := HL.out
      omega
    have en : e ≤ n := by omega
    obtain ⟨hr, HR⟩ : ∃ h, Hid (rdH (spell (l.take e)) = h) := ⟨_, rfl⟩
    have EV0 : Hid (prs l = prs2 l e hr) := by unfold prs; rw [HX.out, if_neg hx, HE.out, Int.toNat_natCast, HR.out]; exact (rfl : prs2 l e hr = prs2 l e hr)
    have he := HE.out
    subst he
    have ix : ¬ ((e : Int) < 0) := hx
    clear hx
    cases hr with
    | bad g =>
      have EV : Hid (prs l = .bad g) := EV0.out
      go_enter Tryz.func11, Tryz.ntmps11
      go_upto_region 2 with (first
         | (go_at_call 27; refine I1.out.mono ?_; rintro e w2 ⟨rfl, B2⟩
            have K2 : Hid (Bx w w2 g2 27 (aggR ⟨#[]⟩ ⟨#[]⟩ nilS nilS)) := K1.out.below B2.out
            have SE : Hid (Sln w2 a e (l.take e)) := slice_to ((hS.out.below K1.out.bel).below B2.out) en
            have cs := fun k => conv_n (k := k) SE))
      rw [G2.out]
      go_wp2_with (first
         | (go_at_call 28; refine (readHead_n (spell (l.take e)) (by rw [spell_size]; simp; omega) (hm.out.below K2.out.bel) (hE.out.below K2.out.bel) M0 M12).mono ?_; rintro e9 w3 ⟨h3, B3⟩
            rw [HR.out] at h3
            obtain rfl := (show e9 = .returned (.tuple #[.agg #[.string { data := #[] }, .string { data := #[] }, .slice none 0 0, .slice none 0 0], .int .i64 0, er (E g)]) from h3); clear h3
            have K3 : Hid (Bx w w3 g2 27 (aggR ⟨#[]⟩ ⟨#[]⟩ nilS nilS)) := K2.out.below B3.out
            obtain ⟨w4, H4⟩ : ∃ w4, Hid (w3.alloc (.cells #[.string { data := #[] }, .string { data := #[] }, .slice none 0 0, .slice none 0 0] 27) = w4) := ⟨_, rfl⟩
            have K4 : Hid (Bx w w4 g2 27 (aggR ⟨#[]⟩ ⟨#[]⟩ nilS nilS)) := by rw [← H4.out]; exact K3.out.below (alloc1 _ _)
            obtain ⟨w9, H9⟩ : ∃ w9, Hid (w4.setRow g2 (aggR ⟨#[]⟩ ⟨#[]⟩ nilS nilS) = w9) := ⟨_, rfl⟩
            have K9 : Hid (Bx w w9 g2 27 (aggR ⟨#[]⟩ ⟨#[]⟩ nilS nilS)) := by rw [← H9.out]; exact K4.out.set _)
         | (rw [H4.out]; refine wpList_store_row (by rfl) 27 (.tmp 2) (.tmp 41) (by rfl) g2 (aggR ⟨#[]⟩ ⟨#[]⟩ nilS nilS) (by rfl) (by rfl) 27 _ K4.out.row (sz27 _ _ _ _) (by rfl) (one27 _ _ _ _ _ _ _ _) ?_; refine (show _ = w9 from H9.out) ▸ ?_))
      try simp only [Exit.inBlock, Exit.then]
      refine bodyPost_ret (res_row3 (by rfl) (by rfl) K9.out.row und27 (sz27 _ _ _ _)) rfl ?_
      rw [EV.out]
      exact ⟨rfl, K9.out.bel⟩
    | ok m t fs z =>
      have z1 : z ≤ 1024 := rdH_le HR.out
      obtain ⟨bg, HB⟩ : ∃ b, Hid (e + 4 = b) := ⟨_, rfl⟩
      have e4 : (e : Int) + 4 = (bg : Int) := by have := HB.out; omega
      have bn : bg ≤ n := by have := HB.out; omega
      obtain ⟨rs, HRS⟩ : ∃ r, Hid (n - bg = r) := ⟨_, rfl⟩
      have e5 : (n : Int) - (bg : Int) = (rs : Int) := by have := HRS.out; omega
      by_cases hz : rs < z
      · have EV : Hid (prs l = .wait) := by rw [EV0.out]; unfold prs2; dsimp only; rw [if_pos (by have := HB.out; have := HL.out; have := HRS.out; omega)]; exact (rfl : PR.wait = PR.wait)
        have iz : (rs : Int) < (z : Int) := by omega
        go_enter Tryz.func11, Tryz.ntmps11
        go_upto_region 2 with (first
           | (go_at_call 27; refine I1.out.mono ?_; rintro e w2 ⟨rfl, B2⟩
              have K2 : Hid (Bx w w2 g2 27 (aggR ⟨#[]⟩ ⟨#[]⟩ nilS nilS)) := K1.out.below B2.out
              have SE : Hid (Sln w2 a e (l.take e)) := slice_to ((hS.out.below K1.out.bel).below B2.out) en
              have cs := fun k => conv_n (k := k) SE))
        rw [G2.out]
        go_wp2_with (first
           | (go_at_call 28; refine (readHead_n (spell (l.take e)) (by rw [spell_size]; simp; omega) (hm.out.below K2.out.bel) (hE.out.below K2.out.bel) M0 M12).mono ?_; rintro e9 w3 ⟨h3, B3⟩
              rw [HR.out] at h3
              obtain ⟨fa, fn, fc, h4, RW⟩ := h3
              obtain rfl := (show e9 = .returned (.tuple #[.agg #[.string m, .string t, .slice fa fn fc, .slice none 0 0], .int .i64 (z : Nat), .nilIface]) from h4); clear h4
              have K3 : Hid (Bx w w3 g2 27 (aggR ⟨#[]⟩ ⟨#[]⟩ nilS nilS)) := K2.out.below B3.out
              obtain ⟨g6, G6⟩ : ∃ g, Hid (w3.heap.size = g) := ⟨_, rfl⟩
              obtain ⟨w4, H4⟩ : ∃ w4, Hid (w3.alloc (.cells #[.string m, .string t, .slice fa fn fc, .slice none 0 0] 27) = w4) := ⟨_, rfl⟩
              have K4 : Hid (Bx w w4 g2 27 (aggR ⟨#[]⟩ ⟨#[]⟩ nilS nilS)) := by rw [← H4.out]; exact K3.out.below (alloc1 _ _)
              have J4 : Hid (Bx w w4 g6 27 (aggR m t (.slice fa fn fc) nilS)) := by rw [← H4.out, ← G6.out]; exact Bx.new w w3 27 _ K3.out.bel
              have N4 : Hid (g2 ≠ g6) := by have h := K3.out.lt; have h2 := G6.out; show g2 ≠ g6; omega
              have RW4 : Hid (Rw w4 w.heap.size 41 EF fa fn fc fs) := by rw [← H4.out]; exact (RW.mono K2.out.bel.size).below (alloc1 _ _)
              obtain ⟨w9, H9⟩ : ∃ w9, Hid (w4.setRow g2 (aggR ⟨#[]⟩ ⟨#[]⟩ nilS nilS) = w9) := ⟨_, rfl⟩
              have K9 : Hid (Bx w w9 g2 27 (aggR ⟨#[]⟩ ⟨#[]⟩ nilS nilS)) := by rw [← H9.out]; exact K4.out.set _)
           | (rw [H4.out]; refine wpList_store_row (by rfl) 27 (.tmp 2) (.tmp 51) (by rfl) g2 (aggR ⟨#[]⟩ ⟨#[]⟩ nilS nilS) (by rfl) (by rfl) 27 _ K4.out.row (sz27 _ _ _ _) (by rfl) (one27 _ _ _ _ _ _ _ _) ?_; refine (show _ = w9 from H9.out) ▸ ?_))
        try simp only [Exit.inBlock, Exit.then]
        refine bodyPost_ret (res_row3 (by rfl) (by rfl) K9.out.row und27 (sz27 _ _ _ _)) rfl ?_
        rw [EV.out]
        exact ⟨rfl, K9.out.bel⟩
      · have EV : Hid (prs l = .got m t fs ((l.drop bg).take z) (bg + z)) := by rw [EV0.out]; unfold prs2; dsimp only; rw [if_neg (by have := HB.out; have := HL.out; have := HRS.out; omega), HB.out]; exact (rfl : PR.got m t fs ((l.drop bg).take z) (bg + z) = _)
        have iz : ¬ ((rs : Int) < (z : Int)) := by omega
        obtain ⟨hi, HHI⟩ : ∃ h, Hid (bg + z = h) := ⟨_, rfl⟩
        have e6 : (bg : Int) + (z : Int) = (hi : Int) := by have := HHI.out; omega
        have HIN : Hid (bg ≤ hi ∧ hi ≤ n ∧ hi = bg + z) := (by have := HHI.out; have := HRS.out; omega : bg ≤ hi ∧ hi ≤ n ∧ hi = bg + z)
        go_enter Tryz.func11, Tryz.ntmps11
        go_upto_region 2 with (first
           | (go_at_call 27; refine I1.out.mono ?_; rintro e w2 ⟨rfl, B2⟩
              have K2 : Hid (Bx w w2 g2 27 (aggR ⟨#[]⟩ ⟨#[]⟩ nilS nilS)) := K1.out.below B2.out
              have SE : Hid (Sln w2 a e (l.take e)) := slice_to ((hS.out.below K1.out.bel).below B2.out) en
              have cs := fun k => conv_n (k := k) SE))
        rw [G2.out]
        go_wp2_with (first
           | (go_at_call 28; refine (readHead_n (spell (l.take e)) (by rw [spell_size]; simp; omega) (hm.out.below K2.out.bel) (hE.out.below K2.out.bel) M0 M12).mono ?_; rintro e9 w3 ⟨h3, B3⟩
              rw [HR.out] at h3
              obtain ⟨fa, fn, fc, h4, RW⟩ := h3
              obtain rfl := (show e9 = .returned (.tuple #[.agg #[.string m, .string t, .slice fa fn fc, .slice none 0 0], .int .i64 (z : Nat), .nilIface]) from h4); clear h4
              have K3 : Hid (Bx w w3 g2 27 (aggR ⟨#[]⟩ ⟨#[]⟩ nilS nilS)) := K2.out.below B3.out
              obtain ⟨g6, G6⟩ : ∃ g, Hid (w3.heap.size = g) := ⟨_, rfl⟩
              obtain ⟨w4, H4⟩ : ∃ w4, Hid (w3.alloc (.cells #[.string m, .string t, .slice fa fn fc, .slice none 0 0] 27) = w4) := ⟨_, rfl⟩
              have K4 : Hid (Bx w w4 g2 27 (aggR ⟨#[]⟩ ⟨#[]⟩ nilS nilS)) := by rw [← H4.out]; exact K3.out.below (alloc1 _ _)
              have J4 : Hid (Bx w w4 g6 27 (aggR m t (.slice fa fn fc) nilS)) := by rw [← H4.out, ← G6.out]; exact Bx.new w w3 27 _ K3.out.bel
              have N4 : Hid (g2 ≠ g6) := by have h := K3.out.lt; have h2 := G6.out; show g2 ≠ g6; omega
              have RW4 : Hid (Rw w4 w.heap.size 41 EF fa fn fc fs) := by rw [← H4.out]; exact (RW.mono K2.out.bel.size).below (alloc1 _ _)
              have SB : Hid (Sln w4 (adr a c bg) z ((l.drop bg).take z)) := by
                obtain ⟨u1, u2, u3⟩ := HIN.out
                have h := slice_mid (m := c) (((hS.out.below K1.out.bel).below B2.out).below B3.out) (lo := bg) (hi := hi) (by omega) (by omega) (by omega)
                have e1 : hi - bg = z := by omega
                rw [e1] at h
                rw [← H4.out]
                exact h.below (alloc1 _ _)
              have MR : ∀ W, (Instr.sliceAt 22 (.slice a n c) (some (.int .i64 (bg : Nat))) (some (.int .i64 (hi : Nat))) none).run Tryz.prog W = .ok (.slice (adr a c bg) z (c - bg)) W := fun W => by
                obtain ⟨u1, u2, u3⟩ := HIN.out
                have h := mid_run (a := a) (n := n) (c := c) (lo := bg) (hi := hi) (by omega) (by omega) W
                have e1 : hi - bg = z := by omega
                rw [e1] at h
                exact h)
           | (go_at_call 29; rw [H4.out, G6.out]; refine (bclone_n SB).mono ?_; rintro e9 w5 ⟨ba, bc, rfl, H5⟩
              have J5 : Hid (Bx w w5 g6 27 (aggR m t (.slice fa fn fc) nilS)) := J4.out.below H5.out.2
              have K5 : Hid (Bx w w5 g2 27 (aggR ⟨#[]⟩ ⟨#[]⟩ nilS nilS)) := K4.out.below H5.out.2
              have RW5 : Hid (Rw w5 w.heap.size 41 EF fa fn fc fs) := RW4.out.below H5.out.2
              have p0 : w5.cell? ⟨g6, 0, none⟩ = some (.string m) := by simp [World.cell?, J5.out.row, aggR]
              have p1 : w5.cell? ⟨g6, 1, none⟩ = some (.string t) := by simp [World.cell?, J5.out.row, aggR]
              have p2 : w5.cell? ⟨g6, 2, none⟩ = some (.slice fa fn fc) := by simp [World.cell?, J5.out.row, aggR]
              have p3 : w5.cell? ⟨g6, 3, none⟩ = some nilS := by simp [World.cell?, J5.out.row, aggR]
              have pz : w5.frozen? ⟨g6, 3, none⟩ = false := by simp [World.frozen?, J5.out.row]
              obtain ⟨w6, H6⟩ : ∃ w6, Hid (w5.setCell ⟨g6, 3, none⟩ (.slice ba z bc) = w6) := ⟨_, rfl⟩
              have J6 : Hid (Bx w w6 g6 27 (aggR m t (.slice fa fn fc) (.slice ba z bc))) := by
                rw [← H6.out]
                refine ⟨by rw [set_blk J5.out.row]; rfl, ?_, J5.out.ge⟩
                exact J5.out.bel.trans ⟨rfl, rfl, rfl, by simp [World.setCell], fun q hq => Below.heap_setCell _ _ _ _ (show q ≠ g6 by have := J5.out.ge; omega)⟩
              have K6 : Hid (Bx w w6 g2 27 (aggR ⟨#[]⟩ ⟨#[]⟩ nilS nilS)) := by rw [← H6.out]; exact K5.out.setC J5.out.ge N4.out _ _
              have q0 : w6.cell? ⟨g6, 0, none⟩ = some (.string m) := by simp [World.cell?, J6.out.row, aggR]
              have q1 : w6.cell? ⟨g6, 1, none⟩ = some (.string t) := by simp [World.cell?, J6.out.row, aggR]
              have q2 : w6.cell? ⟨g6, 2, none⟩ = some (.slice fa fn fc) := by simp [World.cell?, J6.out.row, aggR]
              have q3 : w6.cell? ⟨g6, 3, none⟩ = some (.slice ba z bc) := by simp [World.cell?, J6.out.row, aggR]
              obtain ⟨w9, H9⟩ : ∃ w9, Hid (w6.setRow g2 (aggR m t (.slice fa fn fc) (.slice ba z bc)) = w9) := ⟨_, rfl⟩
              have K9 : Hid (Bx w w9 g2 27 (aggR m t (.slice fa fn fc) (.slice ba z bc))) := by rw [← H9.out]; exact K6.out.set _)
           | (rw [H6.out]; refine wpList_store_row (by rfl) 27 (.tmp 2) (.tmp 60) (by rfl) g2 (aggR m t (.slice fa fn fc) (.slice ba z bc)) (by rfl) (by rfl) 27 _ K6.out.row (sz27 _ _ _ _) (by rfl) (one27 _ _ _ _ _ _ _ _) ?_; refine (show _ = w9 from H9.out) ▸ ?_))
        try simp only [Exit.inBlock, Exit.then]
        refine bodyPost_ret (res_row3 (by rfl) (by rfl) K9.out.row und27 (sz27 _ _ _ _)) rfl ?_
        rw [EV.out, HHI.out]
        refine ⟨⟨fa, fn, fc, ba, z, bc, rfl, ?_, ?_⟩, K9.out.bel⟩
        · have r5 := RW5.out
          refine r5.keep1 (fun q hq => ?_)
          obtain ⟨cur, h1, _⟩ := r5.blk hq
          have n6 : q ≠ g6 := by rintro rfl; rw [J5.out.row] at h1; cases h1
          have n2 : q ≠ g2 := by rintro rfl; rw [K5.out.row] at h1; cases h1
          rw [← H9.out, setRow_other _ _ _ _ n2, ← H6.out]
          exact Below.heap_setCell _ _ _ _ n6
        · refine (H5.out.1.base (by exact K4.out.bel.size)).block (fun q hq => ?_)
          have h1 := (H5.out.1.ge q hq).1
          have n6 : q ≠ g6 := by have := J4.out.lt; omega
          have n2 : q ≠ g2 := by have := K4.out.lt; omega
          rw [← H9.out, setRow_other _ _ _ _ n2, ← H6.out]
          exact Below.heap_setCell _ _ _ _ n6
end Go.Proofs.YtemhhlongfabmaaGreatDoor
