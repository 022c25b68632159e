/- readHead, for all heads. -/
import Derived.Test.YtemhhlongfabmaaGreatDoorHh
namespace Go.Proofs.YtemhhlongfabmaaGreatDoor
open Go.ChangeShapes Go.WideShapes Go.ChangeAt Go.RowKit
set_option maxRecDepth 20000
set_option linter.unusedVariables false
set_option linter.unusedSimpArgs false
def HeadEnd (w w' : World) (E : Nat → Addr) : HR → Ending → Prop
  | .bad g, e => e = .returned (.tuple #[.agg (aggR ⟨#[]⟩ ⟨#[]⟩ nilS nilS), .int .i64 0, er (E g)])
  | .ok m t fs z, e => ∃ a n c, e = .returned (.tuple #[.agg (aggR m t (.slice a n c) nilS), .int .i64 (z : Nat), .nilIface]) ∧ Rw w' w.heap.size 41 EF a n c fs
theorem err_kept {w X : World} {M : Nat → Prop} {E : Nat → Addr} {g2 g : Nat} {ty : TypeId} {A : Array Value} (hE : Sent w M E) (Mg : M g) (hK : Bx w X g2 ty A) (A' : Array Value) : X.cell? ⟨g, 0, none⟩ = some (er (E g)) ∧ (X.setRow g2 A').cell? ⟨g, 0, none⟩ = some (er (E g)) := by
  have h1 := (hE.below hK.bel).c g Mg
  refine ⟨h1, ?_⟩
  have ne : g ≠ g2 := by have := cell_lt (hE.c g Mg); have := hK.ge; omega
  exact (World.cell?_of_block (a := ⟨g, 0, none⟩) (setRow_other _ _ _ _ ne)).trans h1
set_option maxHeartbeats 4000000 in
theorem readHead_n (s : ByteArray) (hs : s.size < 4294967281) {w : World} {M : Nat → Prop} {E : Nat → Addr} (hm : Hid (Mx w)) (hE : Hid (Sent w M E)) (M0 : M 0) (M12 : M 12) : Calls Tryz.prog 28 #[.string s] w fun e w' => HeadEnd w w' E (rdH s) e ∧ Hid (Below w.heap.size w w') := by
  obtain ⟨g2, G2⟩ : ∃ g, Hid (w.heap.size = g) := ⟨_, rfl⟩
  obtain ⟨w0, H0⟩ : ∃ w0, Hid (w.alloc (.cells #[.string { data := #[] }, .string { data := #[] }, .slice none 0 0, .slice none 0 0] 27) = w0) := ⟨_, rfl⟩
  have M0' : Hid (Mx w0) := by rw [← H0.out]; exact hm.out.below (alloc1 _ _)
  have K0 : Hid (Bx w w0 g2 27 (aggR ⟨#[]⟩ ⟨#[]⟩ nilS nilS)) := by rw [← H0.out, ← G2.out]; exact Bx.new w w 27 _ (Below.refl _ _)
  obtain ⟨L, HL⟩ : ∃ L, Hid (lns s = L) := ⟨_, rfl⟩
  obtain ⟨k, HK⟩ : ∃ k, Hid (L.length = k + 1) := ⟨(lns s).length - 1, (by rw [← HL.out, lns_len]; omega : L.length = (lns s).length - 1 + 1)⟩
  have kz : k < 4294967281 := by have := lns_le s; rw [HL.out, HK.out] at this; omega
  obtain ⟨w1, H1⟩ : ∃ w1, Hid (w0.alloc (.cells (L.map Value.string).toArray 9) = w1) := ⟨_, rfl⟩
  obtain ⟨gl, GL⟩ : ∃ g, Hid (w0.heap.size = g) := ⟨_, rfl⟩
  have S1 : Hid (Calls Tryz.prog 43 #[.string s, .string { data := #[13, 10] }] w0 fun e w' => e = .returned (.slice (some ⟨gl, 0, none⟩) (k + 1) (k + 1)) ∧ w' = w1) := by
    have := split_n s hs M0'
    rw [HL.out, HK.out, H1.out, GL.out] at this
    exact this
  have KL : Hid (Bx w w1 gl 9 (L.map Value.string).toArray) := by rw [← H1.out, ← GL.out]; exact Bx.new w w0 9 _ K0.out.bel
  have LZ : Hid (∀ j, j < k + 1 → (L.getD j ⟨#[]⟩).size < 4294967281) := fun j hj => by
    have hj2 : j < L.length := by rw [HK.out]; exact hj
    have e : L.getD j ⟨#[]⟩ = L[j] := by simp [List.getD, hj2]
    have : L[j] ∈ lns s := by rw [HL.out]; exact List.getElem_mem hj2
    have := lns_size this
    rw [e]
    omega
  obtain ⟨l0, HL0⟩ : ∃ l0, Hid (L.getD 0 ⟨#[]⟩ = l0) := ⟨_, rfl⟩
  have c0 : w1.cell? ⟨gl, 0, none⟩ = some (.string l0) := by
    have h : 0 < L.length := by rw [HK.out]; omega
    rw [← HL0.out]
    simp [World.cell?, KL.out.row, h, List.getD]
  have z0 : l0.size < 4294967281 := by rw [← HL0.out]; exact LZ.out 0 (by omega)
  have M1 : Hid (Mx w1) := by rw [← H1.out]; exact M0'.out.below (alloc1 _ _)
  have K1 : Hid (Bx w w1 g2 27 (aggR ⟨#[]⟩ ⟨#[]⟩ nilS nilS)) := by rw [← H1.out]; exact K0.out.below (alloc1 _ _)
  obtain ⟨rf, RF⟩ : ∃ o, Hid (rdF l0 = o) := ⟨_, rfl⟩
  have RH : Hid (rdH s = rdH1 L.tail rf) := by
    have e : L.headD ⟨#[]⟩ = L.getD 0 ⟨#[]⟩ := by cases L <;> rfl
    show rdH s = _
    unfold rdH
    rw [HL.out, e, HL0.out, RF.out]
  cases rf with
  | none =>
    go_enter Tryz.func28, Tryz.ntmps28
    go_upto_region 4 with (first
      | (go_at_call 43; rw [H0.out]; refine S1.out.mono ?_; rintro e w9 ⟨rfl, h9⟩; rw [h9]; clear h9)
      | (go_at_call 44; refine (readFirst_n l0 z0 M1).mono ?_; rintro e w2 ⟨h2, B2⟩; rw [RF.out] at h2; obtain rfl := (show e = .returned (.tuple #[.agg #[.string { data := #[] }, .string { data := #[] }, .slice none 0 0, .slice none 0 0], .bool false]) from h2); clear h2))
    rw [G2.out]
    obtain ⟨X, HX⟩ : ∃ X, Hid (w2.alloc (.cells #[.string { data := #[] }, .string { data := #[] }, .slice none 0 0, .slice none 0 0] 27) = X) := ⟨_, rfl⟩
    rw [HX.out]
    have KX : Hid (Bx w X g2 27 (aggR ⟨#[]⟩ ⟨#[]⟩ nilS nilS)) := by rw [← HX.out]; exact (K1.out.below B2.out).below (alloc1 _ _)
    have EV : Hid (rdH s = .bad 12) := RH.out
    have KD : Hid (Bx w X.drew g2 27 (aggR ⟨#[]⟩ ⟨#[]⟩ nilS nilS)) := KX.out.below (Below.refl _ _).drew
    have EK : Hid (X.drew.cell? ⟨12, 0, none⟩ = some (er (E 12)) ∧ (X.drew.setRow g2 (aggR ⟨#[]⟩ ⟨#[]⟩ nilS nilS)).cell? ⟨12, 0, none⟩ = some (er (E 12))) := err_kept hE.out M12 KD.out _
    refine wp_region_seq (C := fun W => W.cell? ⟨12, 0, none⟩ = some (er (E 12))) [(0, false), (1, false), (2, true), (3, false), (4, false)] (by kernel_rfl) (by kernel_rfl) (EK.out.1) ?_
    refine seq_take (o := { dst := some 25, op := Go.Op.build 27 #[], type := 27, pos := "head.go:23", after := #[], guard := none }) (v := .agg #[.string { data := #[] }, .string { data := #[] }, .slice none 0 0, .slice none 0 0]) (by kernel_rfl) (fun _ _ _ h => h) (Or.inl ⟨by kernel_rfl, fun W hW => by go_simp⟩) ?_
    simp only [List.getElem_toArray, List.getElem_cons_zero, List.getElem_cons_succ, Act.put, List.setIfInBounds_toArray, List.set_cons_zero, List.set_cons_succ]
    refine seq_take (o := { dst := some 26, op := Go.Op.load 29 (Go.Operand.global 12), type := 29, pos := "head.go:23", after := #[{ on := 3, ground := Go.Ground.gcOnly Go.Departure.lateStores }], guard := none }) (v := er (E 12)) (by kernel_rfl) (fun _ _ _ h => h) (Or.inl ⟨by kernel_rfl, fun W hW => by go_simp⟩) ?_
    simp only [List.getElem_toArray, List.getElem_cons_zero, List.getElem_cons_succ, Act.put, List.setIfInBounds_toArray, List.set_cons_zero, List.set_cons_succ]
    refine seq_call (o := { dst := none, op := Go.Op.store 27 (Go.Operand.tmp 2) (Go.Operand.tmp 25), type := 0, pos := "head.go:23", after := #[{ on := 0, ground := Go.Ground.data }, { on := 0, ground := Go.Ground.phase }, { on := 1, ground := Go.Ground.textOnly Go.Departure.lateStores }], guard := none }) (by kernel_rfl) (fun KK hK => ?_)
    rw [if_pos (by kernel_rfl)]
    refine wp_store_row 27 (.tmp 2) (.tmp 25) (by rfl) g2 (aggR ⟨#[]⟩ ⟨#[]⟩ nilS nilS) (by rfl) (by rfl) 27 _ KD.out.row (sz27 _ _ _ _) (by rfl) (one27 _ _ _ _ _ _ _ _) ?_
    refine hK.out _ _ (EK.out.2) ?_
    clear hK KK
    try simp only [List.getElem_toArray, List.getElem_cons_zero, List.getElem_cons_succ, Act.put, List.setIfInBounds_toArray, List.set_cons_zero, List.set_cons_succ]
    refine seq_take (o := { dst := some 3, op := Go.Op.assign (Go.Operand.const (Go.Value.int Go.IntKind.i64 0)), type := 3, pos := "head.go:23", after := #[{ on := 2, ground := Go.Ground.chain }, { on := 0, ground := Go.Ground.phase }, { on := 1, ground := Go.Ground.textOnly Go.Departure.lateStores }, { on := 2, ground := Go.Ground.phase }], guard := none }) (v := .int .i64 0) (by kernel_rfl) (fun _ _ _ h => h) (Or.inl ⟨by kernel_rfl, fun W hW => by go_simp⟩) ?_
    simp only [List.getElem_toArray, List.getElem_cons_zero, List.getElem_cons_succ, Act.put, List.setIfInBounds_toArray, List.set_cons_zero, List.set_cons_succ]
    refine seq_take (o := { dst := some 4, op := Go.Op.assign (Go.Operand.tmp 26), type := 29, pos := "head.go:23", after := #[{ on := 1, ground := Go.Ground.data }, { on := 3, ground := Go.Ground.chain }, { on := 0, ground := Go.Ground.phase }, { on := 1, ground := Go.Ground.phase }, { on := 2, ground := Go.Ground.phase }, { on := 3, ground := Go.Ground.phase }], guard := none }) (v := er (E 12)) (by kernel_rfl) (fun _ _ _ h => h) (Or.inl ⟨by kernel_rfl, fun W hW => by go_simp⟩) ?_
    simp only [List.getElem_toArray, List.getElem_cons_zero, List.getElem_cons_succ, Act.put, List.setIfInBounds_toArray, List.set_cons_zero, List.set_cons_succ]
    show (Exit.then _ _) .normal _ _
    go_wp2
    try simp only [Exit.inBlock, Exit.then]
    refine bodyPost_ret (res_row3 (by rfl) (by rfl) (KD.out.set _).row und27 (sz27 _ _ _ _)) rfl ?_
    rw [EV.out]
    exact ⟨rfl, (KD.out.set _).bel⟩
  | some mt =>
    obtain ⟨m, t⟩ := mt
    by_cases hk0 : k = 0
    · subst hk0
      go_enter Tryz.func28, Tryz.ntmps28
      go_upto_region 5 with (first
      | (go_at_call 43; rw [H0.out]; refine S1.out.mono ?_; rintro e w9 ⟨rfl, h9⟩; rw [h9]; clear h9)
      | (go_at_call 44; refine (readFirst_n l0 z0 M1).mono ?_; rintro e w2 ⟨h2, B2⟩; rw [RF.out] at h2; obtain rfl := (show e = .returned (.tuple #[.agg #[.string m, .string t, .slice none 0 0, .slice none 0 0], .bool true]) from h2); clear h2))
      obtain ⟨g6, G6⟩ : ∃ g, Hid (w2.heap.size = g) := ⟨_, rfl⟩
      obtain ⟨X0, HX⟩ : ∃ X, Hid (w2.alloc (.cells #[.string m, .string t, .slice none 0 0, .slice none 0 0] 27) = X) := ⟨_, rfl⟩
      rw [HX.out, G6.out, G2.out]
      have B20 : Hid (Below w.heap.size w w2) := (K1.out.below B2.out).bel
      have HS0 : Hid (Hs w X0 g2 g6 gl L m t 0 none 0 0 []) := by
        have k2 := (K1.out.below B2.out).below (alloc1 w2 (.cells #[.string m, .string t, .slice none 0 0, .slice none 0 0] 27))
        have lc := (KL.out.below B2.out).below (alloc1 w2 (.cells #[.string m, .string t, .slice none 0 0, .slice none 0 0] 27))
        have k6 := Bx.new w w2 27 #[.string m, .string t, .slice none 0 0, .slice none 0 0] B20.out
        rw [HX.out] at k2 lc k6
        rw [G6.out] at k6
        refine ⟨k2, k6, lc, Rw.nil _ _ _ _ (by decide), by simp [flds], ?_⟩
        rintro rfl
        have := (K1.out.below B2.out).lt
        have := G6.out
        omega
      clear HX
      go_wp2
      go_loopw [30] (fun ti wr => ∃ (i : Nat) (a : Option Addr) (n c : Nat) (fs : List Fl), i ≤ 0 ∧ ti = .int .i64 (i : Int) ∧ Hid (Hs w wr g2 g6 gl L m t i a n c fs)) (fun ti _ => 0 - (intOf ti).toNat)
      case atStart => exact ⟨0, none, 0, 0, [], by omega, rfl, HS0.out⟩
      case round =>
        obtain ⟨i, a, n, c, fs, hi, rfl, HS⟩ := hrel
        by_cases hlt : i < 0
        · exact absurd hlt (by omega)
        · obtain rfl : i = 0 := by omega
          have FL : Hid (flds L.tail = some fs) := by
            have h := HS.out.fl
            rw [List.take_of_length_le (by rw [List.length_tail, HK.out]; omega)] at h
            exact h
          have NL : Hid (n = fs.length) := HS.out.rw.len
          have nz : n ≤ 4294967281 := by have := NL.out; have := flds_len FL.out; rw [List.length_tail, HK.out] at this; omega
          have RH2 : Hid (rdH s = rdH2 m t (some fs)) := by rw [RH.out]; show rdH2 m t (flds L.tail) = _; rw [FL.out]
          obtain ⟨r0, r1, r2, r3, rz⟩ := HS.out.c6
          have KX := HS.out.k2
          have KX : Hid (Bx w wr g2 27 (aggR ⟨#[]⟩ ⟨#[]⟩ nilS nilS)) := KX
          by_cases h32 : 32 < n
          · have i32 : (32 : Int) < (n : Int) := by omega
            have EV : Hid (rdH s = .bad 0) := by rw [RH2.out]; show rdH2 m t (some fs) = _; unfold rdH2; dsimp only; rw [if_pos (by rw [← NL.out]; exact h32)]
            go_upto_region 14 with (fail)
            have KD : Hid (Bx w wr.drew g2 27 (aggR ⟨#[]⟩ ⟨#[]⟩ nilS nilS)) := KX.out.below (Below.refl _ _).drew
            have EK : Hid (wr.drew.cell? ⟨0, 0, none⟩ = some (er (E 0)) ∧ (wr.drew.setRow g2 (aggR ⟨#[]⟩ ⟨#[]⟩ nilS nilS)).cell? ⟨0, 0, none⟩ = some (er (E 0))) := err_kept hE.out M0 KD.out _
            refine wp_region_seq (C := fun W => W.cell? ⟨0, 0, none⟩ = some (er (E 0))) [(0, false), (1, false), (2, true), (3, false), (4, false)] (by kernel_rfl) (by kernel_rfl) (EK.out.1) ?_
            refine seq_take (o := { dst := some 54, op := Go.Op.build 27 #[], type := 27, pos := "head.go:34", after := #[], guard := none }) (v := .agg #[.string { data := #[] }, .string { data := #[] }, .slice none 0 0, .slice none 0 0]) (by kernel_rfl) (fun _ _ _ h => h) (Or.inl ⟨by kernel_rfl, fun W hW => by go_simp⟩) ?_
            simp only [List.getElem_toArray, List.getElem_cons_zero, List.getElem_cons_succ, Act.put, List.setIfInBounds_toArray, List.set_cons_zero, List.set_cons_succ]
            refine seq_take (o := { dst := some 55, op := Go.Op.load 29 (Go.Operand.global 0), type := 29, pos := "head.go:34", after := #[{ on := 3, ground := Go.Ground.gcOnly Go.Departure.lateStores }], guard := none }) (v := er (E 0)) (by kernel_rfl) (fun _ _ _ h => h) (Or.inl ⟨by kernel_rfl, fun W hW => by go_simp⟩) ?_
            simp only [List.getElem_toArray, List.getElem_cons_zero, List.getElem_cons_succ, Act.put, List.setIfInBounds_toArray, List.set_cons_zero, List.set_cons_succ]
            refine seq_call (o := { dst := none, op := Go.Op.store 27 (Go.Operand.tmp 2) (Go.Operand.tmp 54), type := 0, pos := "head.go:34", after := #[{ on := 0, ground := Go.Ground.data }, { on := 0, ground := Go.Ground.phase }, { on := 1, ground := Go.Ground.textOnly Go.Departure.lateStores }], guard := none }) (by kernel_rfl) (fun KK hK => ?_)
            rw [if_pos (by kernel_rfl)]
            refine wp_store_row 27 (.tmp 2) (.tmp 54) (by rfl) g2 (aggR ⟨#[]⟩ ⟨#[]⟩ nilS nilS) (by rfl) (by rfl) 27 _ KD.out.row (sz27 _ _ _ _) (by rfl) (one27 _ _ _ _ _ _ _ _) ?_
            refine hK.out _ _ (EK.out.2) ?_
            clear hK KK
            try simp only [List.getElem_toArray, List.getElem_cons_zero, List.getElem_cons_succ, Act.put, List.setIfInBounds_toArray, List.set_cons_zero, List.set_cons_succ]
            refine seq_take (o := { dst := some 3, op := Go.Op.assign (Go.Operand.const (Go.Value.int Go.IntKind.i64 0)), type := 3, pos := "head.go:34", after := #[{ on := 2, ground := Go.Ground.chain }, { on := 0, ground := Go.Ground.phase }, { on := 1, ground := Go.Ground.textOnly Go.Departure.lateStores }, { on := 2, ground := Go.Ground.phase }], guard := none }) (v := .int .i64 0) (by kernel_rfl) (fun _ _ _ h => h) (Or.inl ⟨by kernel_rfl, fun W hW => by go_simp⟩) ?_
            simp only [List.getElem_toArray, List.getElem_cons_zero, List.getElem_cons_succ, Act.put, List.setIfInBounds_toArray, List.set_cons_zero, List.set_cons_succ]
            refine seq_take (o := { dst := some 4, op := Go.Op.assign (Go.Operand.tmp 55), type := 29, pos := "head.go:34", after := #[{ on := 1, ground := Go.Ground.data }, { on := 3, ground := Go.Ground.chain }, { on := 0, ground := Go.Ground.phase }, { on := 1, ground := Go.Ground.phase }, { on := 2, ground := Go.Ground.phase }, { on := 3, ground := Go.Ground.phase }], guard := none }) (v := er (E 0)) (by kernel_rfl) (fun _ _ _ h => h) (Or.inl ⟨by kernel_rfl, fun W hW => by go_simp⟩) ?_
            simp only [List.getElem_toArray, List.getElem_cons_zero, List.getElem_cons_succ, Act.put, List.setIfInBounds_toArray, List.set_cons_zero, List.set_cons_succ]
            show (Exit.then _ _) .normal _ _
            go_wp2
            try simp only [Exit.inBlock, Exit.then]
            refine bodyPost_ret (res_row3 (by rfl) (by rfl) (KD.out.set _).row und27 (sz27 _ _ _ _)) rfl ?_
            rw [EV.out]
            exact ⟨rfl, (KD.out.set _).bel⟩
          · have i32 : ¬ ((32 : Int) < (n : Int)) := by omega
            obtain ⟨z, oo, HZ⟩ : ∃ z o, Hid (bsz fs = (z, o)) := ⟨_, _, rfl⟩
            have FW : Hid (Fw wr a n fs) := fw_rw HS.out.rw (by omega) (fun f hf => by
              have h := flds_size (B := 4294967281) FL.out (fun x hx => by
                obtain ⟨j, hj, rfl⟩ := List.getElem_of_mem (List.mem_of_mem_tail hx)
                have h := LZ.out j (by rw [← HK.out]; exact hj)
                have e : L.getD j ⟨#[]⟩ = L[j] := by simp [List.getD, hj]
                rw [e] at h
                omega) f hf
              omega)
            have EX : Hid (Sent wr M E) := hE.out.below HS.out.bel
            have BZ : Hid (∀ B, Calls Tryz.prog 46 #[.agg #[.string m, .string t, .slice a n c, B]] wr fun e w' => e = .returned (.tuple #[.int .i64 (z : Nat), errV E oo]) ∧ Hid (Below wr.heap.size wr w')) := fun B => by
              have := bodySize_n (m := m) (t := t) (c := c) (B := B) FW EX M0 M12
              rw [HZ.out] at this
              exact this
            cases oo with
            | some g =>
              have EV : Hid (rdH s = .bad g) := by rw [RH2.out]; show rdH2 m t (some fs) = _; unfold rdH2; dsimp only; rw [if_neg (by rw [← NL.out]; exact h32), HZ.out]
              go_wp2_with (first
                | (go_at_call 46; refine (BZ.out _).mono ?_; rintro e w5 ⟨rfl, B5⟩
                   have K5 : Hid (Bx w w5 g2 27 (aggR ⟨#[]⟩ ⟨#[]⟩ nilS nilS)) := KX.out.below B5.out
                   obtain ⟨w9, H9⟩ : ∃ w9, Hid (w5.setRow g2 (aggR ⟨#[]⟩ ⟨#[]⟩ nilS nilS) = w9) := ⟨_, rfl⟩
                   have K9 : Hid (Bx w w9 g2 27 (aggR ⟨#[]⟩ ⟨#[]⟩ nilS nilS)) := by rw [← H9.out]; exact K5.out.set _
                   simp only [errV])
                | (refine wpList_store_row (by rfl) 27 (.tmp 2) (.tmp 63) (by rfl) g2 (aggR ⟨#[]⟩ ⟨#[]⟩ nilS nilS) (by rfl) (by rfl) 27 _ K5.out.row (sz27 _ _ _ _) (by rfl) (one27 _ _ _ _ _ _ _ _) ?_; refine (show _ = w9 from H9.out) ▸ ?_))
              try simp only [Exit.inBlock, Exit.then]
              refine bodyPost_ret (res_row3 (by rfl) (by rfl) K9.out.row und27 (sz27 _ _ _ _)) rfl ?_
              rw [EV.out]
              exact ⟨rfl, K9.out.bel⟩
            | none =>
              have EV : Hid (rdH s = .ok m t fs z) := by rw [RH2.out]; show rdH2 m t (some fs) = _; unfold rdH2; dsimp only; rw [if_neg (by rw [← NL.out]; exact h32), HZ.out]
              go_wp2_with (first
                | (go_at_call 46; refine (BZ.out _).mono ?_; rintro e w5 ⟨rfl, B5⟩
                   have HS5 : Hid (Hs w w5 g2 g6 gl L m t _ a n c fs) := HS.out.below B5.out
                   obtain ⟨w9, H9⟩ : ∃ w9, Hid (w5.setRow g2 (aggR m t (.slice a n c) nilS) = w9) := ⟨_, rfl⟩
                   have K9 : Hid (Bx w w9 g2 27 (aggR m t (.slice a n c) nilS)) := by rw [← H9.out]; exact HS5.out.k2.set _
                   obtain ⟨p0, p1, p2, p3, pz⟩ := HS5.out.c6
                   simp only [errV])
                | (refine wpList_store_row (by rfl) 27 (.tmp 2) (.tmp 65) (by rfl) g2 (aggR m t (.slice a n c) nilS) (by rfl) (by rfl) 27 _ HS5.out.k2.row (sz27 _ _ _ _) (by rfl) (one27 _ _ _ _ _ _ _ _) ?_; refine (show _ = w9 from H9.out) ▸ ?_))
              try simp only [Exit.inBlock, Exit.then]
              refine bodyPost_ret (res_row3 (by rfl) (by rfl) K9.out.row und27 (sz27 _ _ _ _)) rfl ?_
              rw [EV.out]
              refine ⟨⟨a, n, c, rfl, ?_⟩, K9.out.bel⟩
              rw [← H9.out]
              exact HS5.out.rw.keep1 (fun q e => setRow_other _ _ _ _ (HS5.out.not6 e).1)
    · go_enter Tryz.func28, Tryz.ntmps28
      go_upto_region 5 with (first
      | (go_at_call 43; rw [H0.out]; refine S1.out.mono ?_; rintro e w9 ⟨rfl, h9⟩; rw [h9]; clear h9)
      | (go_at_call 44; refine (readFirst_n l0 z0 M1).mono ?_; rintro e w2 ⟨h2, B2⟩; rw [RF.out] at h2; obtain rfl := (show e = .returned (.tuple #[.agg #[.string m, .string t, .slice none 0 0, .slice none 0 0], .bool true]) from h2); clear h2))
      obtain ⟨g6, G6⟩ : ∃ g, Hid (w2.heap.size = g) := ⟨_, rfl⟩
      obtain ⟨X0, HX⟩ : ∃ X, Hid (w2.alloc (.cells #[.string m, .string t, .slice none 0 0, .slice none 0 0] 27) = X) := ⟨_, rfl⟩
      rw [HX.out, G6.out, G2.out]
      have B20 : Hid (Below w.heap.size w w2) := (K1.out.below B2.out).bel
      have HS0 : Hid (Hs w X0 g2 g6 gl L m t 0 none 0 0 []) := by
        have k2 := (K1.out.below B2.out).below (alloc1 w2 (.cells #[.string m, .string t, .slice none 0 0, .slice none 0 0] 27))
        have lc := (KL.out.below B2.out).below (alloc1 w2 (.cells #[.string m, .string t, .slice none 0 0, .slice none 0 0] 27))
        have k6 := Bx.new w w2 27 #[.string m, .string t, .slice none 0 0, .slice none 0 0] B20.out
        rw [HX.out] at k2 lc k6
        rw [G6.out] at k6
        refine ⟨k2, k6, lc, Rw.nil _ _ _ _ (by decide), by simp [flds], ?_⟩
        rintro rfl
        have := (K1.out.below B2.out).lt
        have := G6.out
        omega
      clear HX
      go_wp2
      go_loopw [30] (fun ti wr => ∃ (i : Nat) (a : Option Addr) (n c : Nat) (fs : List Fl), i ≤ k ∧ ti = .int .i64 (i : Int) ∧ Hid (Hs w wr g2 g6 gl L m t i a n c fs)) (fun ti _ => k - (intOf ti).toNat)
      case atStart => exact ⟨0, none, 0, 0, [], by omega, rfl, HS0.out⟩
      case round =>
        obtain ⟨i, a, n, c, fs, hi, rfl, HS⟩ := hrel
        by_cases hlt : i < k
        · have i1 : (i : Int) < (k : Int) := by omega
          obtain ⟨x, Hx⟩ : ∃ x, Hid (L.getD (i + 1) ⟨#[]⟩ = x) := ⟨_, rfl⟩
          have zx : x.size < 4294967281 := by rw [← Hx.out]; exact LZ.out (i + 1) (by omega)
          have c1 : wr.cell? ⟨gl, 1 + i, none⟩ = some (.string x) := by rw [Nat.add_comm, ← Hx.out]; exact HS.out.line (by rw [HK.out]; omega)
          have MX : Hid (Mx wr) := hm.out.below HS.out.bel
          obtain ⟨of, HF⟩ : ∃ o, Hid (rdL x = o) := ⟨_, rfl⟩
          cases of with
          | none =>
            have EV : Hid (rdH s = .bad 12) := by
              rw [RH.out]
              show rdH2 m t (flds L.tail) = _
              rw [flds_bad (l := L.tail) (i := i) (by rw [List.length_tail, HK.out]; omega) (by
                have e : L.tail.getD i ⟨#[]⟩ = L.getD (i + 1) ⟨#[]⟩ := by simp [List.getD]
                rw [e, Hx.out]; exact HF.out)]
              rfl
            go_upto_region 10 with (go_at_call 45; refine (readField_n x zx MX).mono ?_; rintro e w3 ⟨h3, B3⟩; rw [HF.out] at h3; obtain rfl := (show e = .returned (.tuple #[.agg #[.string { data := #[] }, .string { data := #[] }], .bool false]) from h3); clear h3)
            obtain ⟨Y, HY⟩ : ∃ Y, Hid (w3.alloc (.cells #[.string { data := #[] }, .string { data := #[] }] 41) = Y) := ⟨_, rfl⟩
            rw [HY.out]
            have KX : Hid (Bx w Y g2 27 (aggR ⟨#[]⟩ ⟨#[]⟩ nilS nilS)) := by rw [← HY.out]; exact (HS.out.k2.below B3.out).below (alloc1 _ _)
            have KD : Hid (Bx w Y.drew g2 27 (aggR ⟨#[]⟩ ⟨#[]⟩ nilS nilS)) := KX.out.below (Below.refl _ _).drew
            have EK : Hid (Y.drew.cell? ⟨12, 0, none⟩ = some (er (E 12)) ∧ (Y.drew.setRow g2 (aggR ⟨#[]⟩ ⟨#[]⟩ nilS nilS)).cell? ⟨12, 0, none⟩ = some (er (E 12))) := err_kept hE.out M12 KD.out _
            refine wp_region_seq (C := fun W => W.cell? ⟨12, 0, none⟩ = some (er (E 12))) [(0, false), (1, false), (2, true), (3, false), (4, false)] (by kernel_rfl) (by kernel_rfl) (EK.out.1) ?_
            refine seq_take (o := { dst := some 41, op := Go.Op.build 27 #[], type := 27, pos := "head.go:29", after := #[], guard := none }) (v := .agg #[.string { data := #[] }, .string { data := #[] }, .slice none 0 0, .slice none 0 0]) (by kernel_rfl) (fun _ _ _ h => h) (Or.inl ⟨by kernel_rfl, fun W hW => by go_simp⟩) ?_
            simp only [List.getElem_toArray, List.getElem_cons_zero, List.getElem_cons_succ, Act.put, List.setIfInBounds_toArray, List.set_cons_zero, List.set_cons_succ]
            refine seq_take (o := { dst := some 42, op := Go.Op.load 29 (Go.Operand.global 12), type := 29, pos := "head.go:29", after := #[{ on := 3, ground := Go.Ground.gcOnly Go.Departure.lateStores }], guard := none }) (v := er (E 12)) (by kernel_rfl) (fun _ _ _ h => h) (Or.inl ⟨by kernel_rfl, fun W hW => by go_simp⟩) ?_
            simp only [List.getElem_toArray, List.getElem_cons_zero, List.getElem_cons_succ, Act.put, List.setIfInBounds_toArray, List.set_cons_zero, List.set_cons_succ]
            refine seq_call (o := { dst := none, op := Go.Op.store 27 (Go.Operand.tmp 2) (Go.Operand.tmp 41), type := 0, pos := "head.go:29", after := #[{ on := 0, ground := Go.Ground.data }, { on := 0, ground := Go.Ground.phase }, { on := 1, ground := Go.Ground.textOnly Go.Departure.lateStores }], guard := none }) (by kernel_rfl) (fun KK hK => ?_)
            rw [if_pos (by kernel_rfl)]
            refine wp_store_row 27 (.tmp 2) (.tmp 41) (by rfl) g2 (aggR ⟨#[]⟩ ⟨#[]⟩ nilS nilS) (by rfl) (by rfl) 27 _ KD.out.row (sz27 _ _ _ _) (by rfl) (one27 _ _ _ _ _ _ _ _) ?_
            refine hK.out _ _ (EK.out.2) ?_
            clear hK KK
            try simp only [List.getElem_toArray, List.getElem_cons_zero, List.getElem_cons_succ, Act.put, List.setIfInBounds_toArray, List.set_cons_zero, List.set_cons_succ]
            refine seq_take (o := { dst := some 3, op := Go.Op.assign (Go.Operand.const (Go.Value.int Go.IntKind.i64 0)), type := 3, pos := "head.go:29", after := #[{ on := 2, ground := Go.Ground.chain }, { on := 0, ground := Go.Ground.phase }, { on := 1, ground := Go.Ground.textOnly Go.Departure.lateStores }, { on := 2, ground := Go.Ground.phase }], guard := none }) (v := .int .i64 0) (by kernel_rfl) (fun _ _ _ h => h) (Or.inl ⟨by kernel_rfl, fun W hW => by go_simp⟩) ?_
            simp only [List.getElem_toArray, List.getElem_cons_zero, List.getElem_cons_succ, Act.put, List.setIfInBounds_toArray, List.set_cons_zero, List.set_cons_succ]
            refine seq_take (o := { dst := some 4, op := Go.Op.assign (Go.Operand.tmp 42), type := 29, pos := "head.go:29", after := #[{ on := 1, ground := Go.Ground.data }, { on := 3, ground := Go.Ground.chain }, { on := 0, ground := Go.Ground.phase }, { on := 1, ground := Go.Ground.phase }, { on := 2, ground := Go.Ground.phase }, { on := 3, ground := Go.Ground.phase }], guard := none }) (v := er (E 12)) (by kernel_rfl) (fun _ _ _ h => h) (Or.inl ⟨by kernel_rfl, fun W hW => by go_simp⟩) ?_
            simp only [List.getElem_toArray, List.getElem_cons_zero, List.getElem_cons_succ, Act.put, List.setIfInBounds_toArray, List.set_cons_zero, List.set_cons_succ]
            show (Exit.then _ _) .normal _ _
            go_wp2
            try simp only [Exit.inBlock, Exit.then]
            refine bodyPost_ret (res_row3 (by rfl) (by rfl) (KD.out.set _).row und27 (sz27 _ _ _ _)) rfl ?_
            rw [EV.out]
            exact ⟨rfl, (KD.out.set _).bel⟩
          | some f =>
            obtain ⟨fn, fv⟩ := f
            go_upto_region 11 with (go_at_call 45; refine (readField_n x zx MX).mono ?_; rintro e w3 ⟨h3, B3⟩; rw [HF.out] at h3; obtain rfl := (show e = .returned (.tuple #[.agg #[.string fn, .string fv], .bool true]) from h3); clear h3)
            have HS3 : Hid (Hs w w3 g2 g6 gl L m t i a n c fs) := HS.out.below B3.out
            obtain ⟨a', c', W3, hrun, hs4, p6, f6⟩ := HS3.out.app (f := (fn, fv)) (by rw [Hx.out]; exact HF.out) (by rw [HK.out]; omega) (by rw [HK.out]; omega)
            have RUN : Hid ((Builtin.append_ #[25, 25] 25 #[.slice a n c, .slice (some ⟨w3.heap.size + 1, 0, none⟩) 1 1]).run Tryz.prog ((w3.alloc (.cells #[.string fn, .string fv] 41)).alloc (.cells #[.string fn, .string fv] 41)) = .ok (.slice a' (n + 1) c') W3) := hrun
            have HS4 : Hid (Hs w (W3.setCell ⟨g6, 2, none⟩ (.slice a' (n + 1) c')) g2 g6 gl L m t (i + 1) a' (n + 1) c' (fs ++ [(fn, fv)])) := hs4
            obtain ⟨q0, q1, q2, q3, qz⟩ := HS3.out.c6
            have l6 : g6 < w3.heap.size := HS3.out.k6.lt
            obtain ⟨Y, HY⟩ : ∃ Y, Hid (w3.alloc (.cells #[.string fn, .string fv] 41) = Y) := ⟨_, rfl⟩
            obtain ⟨qb, HQ⟩ : ∃ q, Hid (w3.heap.size = q) := ⟨_, rfl⟩
            have y2 : Y.cell? ⟨g6, 2, none⟩ = some (.slice a n c) := by rw [← HY.out]; exact ((HS3.out.below (alloc1 _ _)).c6).2.2.1
            have y4 : Y.cell? ⟨qb, 0, none⟩ = some (.string fn) := by rw [← HY.out, ← HQ.out]; simp
            have y5 : Y.cell? ⟨qb, 1, none⟩ = some (.string fv) := by rw [← HY.out, ← HQ.out]; simp
            have YS : Hid (Y.heap.size = qb + 1) := (by rw [← HY.out, ← HQ.out]; simp : Y.heap.size = qb + 1)
            rw [HY.out, HQ.out] at RUN
            rw [HY.out, HQ.out]
            clear hrun hs4 q0 q1 q2 q3 qz l6
            go_wp2_with (at_builtin; refine wpList_app (by rfl) (.tmp 44) (.tmp 46) (by rfl) (by rfl) (by rfl) (by rfl) (by rw [YS.out]; exact RUN) ?_)
            go_roundw
            case rel => exact ⟨i + 1, a', n + 1, c', fs ++ [(fn, fv)], by omega, by go_num, HS4.out⟩
            case measure => simp [intOf]; omega
        · obtain rfl : i = k := by omega
          have FL : Hid (flds L.tail = some fs) := by
            have h := HS.out.fl
            rw [List.take_of_length_le (by rw [List.length_tail, HK.out]; omega)] at h
            exact h
          have NL : Hid (n = fs.length) := HS.out.rw.len
          have nz : n ≤ 4294967281 := by have := NL.out; have := flds_len FL.out; rw [List.length_tail, HK.out] at this; omega
          have RH2 : Hid (rdH s = rdH2 m t (some fs)) := by rw [RH.out]; show rdH2 m t (flds L.tail) = _; rw [FL.out]
          obtain ⟨r0, r1, r2, r3, rz⟩ := HS.out.c6
          have KX := HS.out.k2
          have KX : Hid (Bx w wr g2 27 (aggR ⟨#[]⟩ ⟨#[]⟩ nilS nilS)) := KX
          by_cases h32 : 32 < n
          · have i32 : (32 : Int) < (n : Int) := by omega
            have EV : Hid (rdH s = .bad 0) := by rw [RH2.out]; show rdH2 m t (some fs) = _; unfold rdH2; dsimp only; rw [if_pos (by rw [← NL.out]; exact h32)]
            go_upto_region 14 with (fail)
            have KD : Hid (Bx w wr.drew g2 27 (aggR ⟨#[]⟩ ⟨#[]⟩ nilS nilS)) := KX.out.below (Below.refl _ _).drew
            have EK : Hid (wr.drew.cell? ⟨0, 0, none⟩ = some (er (E 0)) ∧ (wr.drew.setRow g2 (aggR ⟨#[]⟩ ⟨#[]⟩ nilS nilS)).cell? ⟨0, 0, none⟩ = some (er (E 0))) := err_kept hE.out M0 KD.out _
            refine wp_region_seq (C := fun W => W.cell? ⟨0, 0, none⟩ = some (er (E 0))) [(0, false), (1, false), (2, true), (3, false), (4, false)] (by kernel_rfl) (by kernel_rfl) (EK.out.1) ?_
            refine seq_take (o := { dst := some 54, op := Go.Op.build 27 #[], type := 27, pos := "head.go:34", after := #[], guard := none }) (v := .agg #[.string { data := #[] }, .string { data := #[] }, .slice none 0 0, .slice none 0 0]) (by kernel_rfl) (fun _ _ _ h => h) (Or.inl ⟨by kernel_rfl, fun W hW => by go_simp⟩) ?_
            simp only [List.getElem_toArray, List.getElem_cons_zero, List.getElem_cons_succ, Act.put, List.setIfInBounds_toArray, List.set_cons_zero, List.set_cons_succ]
            refine seq_take (o := { dst := some 55, op := Go.Op.load 29 (Go.Operand.global 0), type := 29, pos := "head.go:34", after := #[{ on := 3, ground := Go.Ground.gcOnly Go.Departure.lateStores }], guard := none }) (v := er (E 0)) (by kernel_rfl) (fun _ _ _ h => h) (Or.inl ⟨by kernel_rfl, fun W hW => by go_simp⟩) ?_
            simp only [List.getElem_toArray, List.getElem_cons_zero, List.getElem_cons_succ, Act.put, List.setIfInBounds_toArray, List.set_cons_zero, List.set_cons_succ]
            refine seq_call (o := { dst := none, op := Go.Op.store 27 (Go.Operand.tmp 2) (Go.Operand.tmp 54), type := 0, pos := "head.go:34", after := #[{ on := 0, ground := Go.Ground.data }, { on := 0, ground := Go.Ground.phase }, { on := 1, ground := Go.Ground.textOnly Go.Departure.lateStores }], guard := none }) (by kernel_rfl) (fun KK hK => ?_)
            rw [if_pos (by kernel_rfl)]
            refine wp_store_row 27 (.tmp 2) (.tmp 54) (by rfl) g2 (aggR ⟨#[]⟩ ⟨#[]⟩ nilS nilS) (by rfl) (by rfl) 27 _ KD.out.row (sz27 _ _ _ _) (by rfl) (one27 _ _ _ _ _ _ _ _) ?_
            refine hK.out _ _ (EK.out.2) ?_
            clear hK KK
            try simp only [List.getElem_toArray, List.getElem_cons_zero, List.getElem_cons_succ, Act.put, List.setIfInBounds_toArray, List.set_cons_zero, List.set_cons_succ]
            refine seq_take (o := { dst := some 3, op := Go.Op.assign (Go.Operand.const (Go.Value.int Go.IntKind.i64 0)), type := 3, pos := "head.go:34", after := #[{ on := 2, ground := Go.Ground.chain }, { on := 0, ground := Go.Ground.phase }, { on := 1, ground := Go.Ground.textOnly Go.Departure.lateStores }, { on := 2, ground := Go.Ground.phase }], guard := none }) (v := .int .i64 0) (by kernel_rfl) (fun _ _ _ h => h) (Or.inl ⟨by kernel_rfl, fun W hW => by go_simp⟩) ?_
            simp only [List.getElem_toArray, List.getElem_cons_zero, List.getElem_cons_succ, Act.put, List.setIfInBounds_toArray, List.set_cons_zero, List.set_cons_succ]
            refine seq_take (o := { dst := some 4, op := Go.Op.assign (Go.Operand.tmp 55), type := 29, pos := "head.go:34", after := #[{ on := 1, ground := Go.Ground.data }, { on := 3, ground := Go.Ground.chain }, { on := 0, ground := Go.Ground.phase }, { on := 1, ground := Go.Ground.phase }, { on := 2, ground := Go.Ground.phase }, { on := 3, ground := Go.Ground.phase }], guard := none }) (v := er (E 0)) (by kernel_rfl) (fun _ _ _ h => h) (Or.inl ⟨by kernel_rfl, fun W hW => by go_simp⟩) ?_
            simp only [List.getElem_toArray, List.getElem_cons_zero, List.getElem_cons_succ, Act.put, List.setIfInBounds_toArray, List.set_cons_zero, List.set_cons_succ]
            show (Exit.then _ _) .normal _ _
            go_wp2
            try simp only [Exit.inBlock, Exit.then]
            refine bodyPost_ret (res_row3 (by rfl) (by rfl) (KD.out.set _).row und27 (sz27 _ _ _ _)) rfl ?_
            rw [EV.out]
            exact ⟨rfl, (KD.out.set _).bel⟩
          · have i32 : ¬ ((32 : Int) < (n : Int)) := by omega
            obtain ⟨z, oo, HZ⟩ : ∃ z o, Hid (bsz fs = (z, o)) := ⟨_, _, rfl⟩
            have FW : Hid (Fw wr a n fs) := fw_rw HS.out.rw (by omega) (fun f hf => by
              have h := flds_size (B := 4294967281) FL.out (fun x hx => by
                obtain ⟨j, hj, rfl⟩ := List.getElem_of_mem (List.mem_of_mem_tail hx)
                have h := LZ.out j (by rw [← HK.out]; exact hj)
                have e : L.getD j ⟨#[]⟩ = L[j] := by simp [List.getD, hj]
                rw [e] at h
                omega) f hf
              omega)
            have EX : Hid (Sent wr M E) := hE.out.below HS.out.bel
            have BZ : Hid (∀ B, Calls Tryz.prog 46 #[.agg #[.string m, .string t, .slice a n c, B]] wr fun e w' => e = .returned (.tuple #[.int .i64 (z : Nat), errV E oo]) ∧ Hid (Below wr.heap.size wr w')) := fun B => by
              have := bodySize_n (m := m) (t := t) (c := c) (B := B) FW EX M0 M12
              rw [HZ.out] at this
              exact this
            cases oo with
            | some g =>
              have EV : Hid (rdH s = .bad g) := by rw [RH2.out]; show rdH2 m t (some fs) = _; unfold rdH2; dsimp only; rw [if_neg (by rw [← NL.out]; exact h32), HZ.out]
              go_wp2_with (first
                | (go_at_call 46; refine (BZ.out _).mono ?_; rintro e w5 ⟨rfl, B5⟩
                   have K5 : Hid (Bx w w5 g2 27 (aggR ⟨#[]⟩ ⟨#[]⟩ nilS nilS)) := KX.out.below B5.out
                   obtain ⟨w9, H9⟩ : ∃ w9, Hid (w5.setRow g2 (aggR ⟨#[]⟩ ⟨#[]⟩ nilS nilS) = w9) := ⟨_, rfl⟩
                   have K9 : Hid (Bx w w9 g2 27 (aggR ⟨#[]⟩ ⟨#[]⟩ nilS nilS)) := by rw [← H9.out]; exact K5.out.set _
                   simp only [errV])
                | (refine wpList_store_row (by rfl) 27 (.tmp 2) (.tmp 63) (by rfl) g2 (aggR ⟨#[]⟩ ⟨#[]⟩ nilS nilS) (by rfl) (by rfl) 27 _ K5.out.row (sz27 _ _ _ _) (by rfl) (one27 _ _ _ _ _ _ _ _) ?_; refine (show _ = w9 from H9.out) ▸ ?_))
              try simp only [Exit.inBlock, Exit.then]
              refine bodyPost_ret (res_row3 (by rfl) (by rfl) K9.out.row und27 (sz27 _ _ _ _)) rfl ?_
              rw [EV.out]
              exact ⟨rfl, K9.out.bel⟩
            | none =>
              have EV : Hid (rdH s = .ok m t fs z) := by rw [RH2.out]; show rdH2 m t (some fs) = _; unfold rdH2; dsimp only; rw [if_neg (by rw [← NL.out]; exact h32), HZ.out]
              go_wp2_with (first
                | (go_at_call 46; refine (BZ.out _).mono ?_; rintro e w5 ⟨rfl, B5⟩
                   have HS5 : Hid (Hs w w5 g2 g6 gl L m t _ a n c fs) := HS.out.below B5.out
                   obtain ⟨w9, H9⟩ : ∃ w9, Hid (w5.setRow g2 (aggR m t (.slice a n c) nilS) = w9) := ⟨_, rfl⟩
                   have K9 : Hid (Bx w w9 g2 27 (aggR m t (.slice a n c) nilS)) := by rw [← H9.out]; exact HS5.out.k2.set _
                   obtain ⟨p0, p1, p2, p3, pz⟩ := HS5.out.c6
                   simp only [errV])
                | (refine wpList_store_row (by rfl) 27 (.tmp 2) (.tmp 65) (by rfl) g2 (aggR m t (.slice a n c) nilS) (by rfl) (by rfl) 27 _ HS5.out.k2.row (sz27 _ _ _ _) (by rfl) (one27 _ _ _ _ _ _ _ _) ?_; refine (show _ = w9 from H9.out) ▸ ?_))
              try simp only [Exit.inBlock, Exit.then]
              refine bodyPost_ret (res_row3 (by rfl) (by rfl) K9.out.row und27 (sz27 _ _ _ _)) rfl ?_
              rw [EV.out]
              refine ⟨⟨a, n, c, rfl, ?_⟩, K9.out.bel⟩
              rw [← H9.out]
              exact HS5.out.rw.keep1 (fun q e => setRow_other _ _ _ _ (HS5.out.not6 e).1)
end Go.Proofs.YtemhhlongfabmaaGreatDoor
