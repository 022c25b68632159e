/- Texts cut at a byte; a piece's pair. -/
import Derived.Test.YtalagagnolhppaaDoorUe
import Derived.Test.YtalagagnolhppaaDoorSb
namespace Go.Proofs.YtalagagnolhppaaDoor
open Go.ChangeShapes Go.WideShapes Go.ChangeAt Go.RowKit
set_option maxRecDepth 20000
set_option linter.unusedVariables false
set_option linter.unusedSimpArgs false
theorem ix_byte (s : ByteArray) (c : UInt8) : (Lib.indexByte s.data.toList c = -1 ∧ ixB c.toNat s = s.size) ∨ (ixB c.toNat s < s.size ∧ Lib.indexByte s.data.toList c = (ixB c.toNat s : Nat)) := by
  have at_ : ∀ j, j < s.size → ∀ d : UInt8, s.data.toList[j]? = some d ↔ sb s j = d.toNat := fun j hj d => by
    have h : j < s.data.toList.length := by rw [← Lib.size_eq]; exact hj
    unfold sb
    rw [List.getD, List.getElem?_eq_getElem h]
    simp only [Option.some.injEq, Option.getD_some]
    exact ⟨fun e => by rw [e], fun e => UInt8.toNat_inj.1 e⟩
  have ge := Lib.indexByte_ge s.data.toList c
  by_cases h : Lib.indexByte s.data.toList c = -1
  · exact .inl ⟨h, ixB_none (fun j hj e => Lib.indexByte_none h j ((at_ j hj c).2 e))⟩
  · obtain ⟨o, ho⟩ : ∃ o : Nat, Lib.indexByte s.data.toList c = o := ⟨(Lib.indexByte s.data.toList c).toNat, by omega⟩
    obtain ⟨h1, h2⟩ := Lib.indexByte_some ho
    have hl : o < s.size := by rw [Lib.size_eq]; exact (List.getElem?_eq_some_iff.1 h1).1
    have e := ixB_at hl ((at_ o hl c).1 h1) (fun j hj e => h2 j hj ((at_ j (by omega) c).2 e))
    rw [e]
    exact .inr ⟨hl, ho⟩
theorem cutlite_n (s : ByteArray) (c : UInt8) (hs : s.size ≤ 281474976710656) (w : World) : Calls Tryd.prog 34 #[.string s, .string ⟨#[c]⟩] w fun e w' => (∃ b, e = .returned (.tuple #[.string (ctA c.toNat s), .string (ctB c.toNat s), .bool b])) ∧ Hid (Below w.heap.size w w') := by
  have IX : Hid (∀ w, Calls Tryd.prog 47 #[.string s, .string ⟨#[c]⟩] w fun e w' => e = .returned (.int .i64 (Lib.indexByte s.data.toList c)) ∧ w' = w) := fun w => Tryd.stringslite_Index_one s c w
  rcases ix_byte s c with ⟨h1, h2⟩ | ⟨h1, h2⟩
  · have EA : Hid (ctA c.toNat s = s) := ctA_none h2
    have EB : Hid (ctB c.toNat s = ⟨#[]⟩) := ctB_none h2
    rw [h1] at IX
    clear h1 h2
    go_enter Tryd.func34, Tryd.ntmps34
    go_wp2_with (go_at_call 47; refine (IX.out _).mono ?_; rintro e w1 ⟨rfl, h1⟩; rw [h1]; clear h1)
    go_ret3
    rw [EA.out, EB.out]
    exact ⟨⟨_, rfl⟩, Below.refl _ _⟩
  · rw [h2] at IX
    clear h2
    obtain ⟨k, HK⟩ : ∃ k, Hid (ixB c.toNat s = k) := ⟨_, rfl⟩
    rw [HK.out] at IX h1
    have EA : Hid (ctA c.toNat s = s.extract 0 k) := (by unfold ctA; rw [HK.out] : ctA c.toNat s = s.extract 0 k)
    have EB : Hid (ctB c.toNat s = s.extract (k + 1) s.size) := (by unfold ctB; rw [HK.out] : ctB c.toNat s = s.extract (k + 1) s.size)
    rw [EA.out, EB.out]
    go_enter Tryd.func34, Tryd.ntmps34
    go_upto_region 3 with (go_at_call 47; refine (IX.out _).mono ?_; rintro e w1 ⟨rfl, h1⟩; rw [h1]; clear h1)
    go_quiet (fail)
    go_wp2
    go_ret3
    exact ⟨⟨_, rfl⟩, below_drewN (Below.refl _ _) _⟩
theorem cut_n (s : ByteArray) (c : UInt8) (hs : s.size ≤ 281474976710656) (w : World) : Calls Tryd.prog 21 #[.string s, .string ⟨#[c]⟩] w fun e w' => (∃ b, e = .returned (.tuple #[.string (ctA c.toNat s), .string (ctB c.toNat s), .bool b])) ∧ Hid (Below w.heap.size w w') := by
  go_enter Tryd.func21, Tryd.ntmps21
  go_wp2_with (go_at_call 34; refine (cutlite_n s c hs _).mono ?_; rintro e w1 ⟨⟨b, rfl⟩, B1⟩)
  go_ret3
  exact ⟨⟨b, rfl⟩, B1.out⟩
set_option maxHeartbeats 2000000 in
theorem refcut_n (s : ByteArray) (c : Nat) (hs : s.size ≤ 281474976710656) (w : World) : Calls Tryd.prog 25 #[.string s, .int .u8 (c : Int)] w fun e w' => e = .returned (.tuple #[.string (ctA c s), .string (ctB c s)]) ∧ Hid (Below w.heap.size w w') := by
  go_enter Tryd.func25, Tryd.ntmps25
  go_wp2
  go_loopw [6] (fun ti wr => ∃ i : Nat, i ≤ s.size ∧ ti = .int .i64 (i : Int) ∧ Hid (∀ j, j < i → sb s j ≠ c) ∧ wr = w) (fun ti _ => s.size - (intOf ti).toNat)
  case atStart => exact ⟨0, by omega, rfl, fun j hj => by omega, rfl⟩
  case round =>
    obtain ⟨i, hi, rfl, HN, rfl⟩ := hrel
    by_cases hlt : i < s.size
    · have i1 : (i : Int) < (s.size : Int) := by omega
      have X0 := fun W => sb_ix s i (i : Int) rfl hlt W
      obtain ⟨b, Hb⟩ : ∃ q, Hid (sb s i = q) := ⟨_, rfl⟩
      rw [Hb.out] at X0
      by_cases hbc : b = c
      · subst hbc
        have IX : Hid (ixB b s = i) := ixB_at hlt Hb.out HN.out
        have EA : Hid (ctA b s = s.extract 0 i) := (by unfold ctA; rw [IX.out] : ctA b s = s.extract 0 i)
        have EB : Hid (ctB b s = s.extract (i + 1) s.size) := (by unfold ctB; rw [IX.out] : ctB b s = s.extract (i + 1) s.size)
        go_upto_region 5 with (fail)
        go_quiet (fail)
        go_wp2
        go_ret2
        rw [EA.out, EB.out]
        exact ⟨rfl, below_drewN (Below.refl _ _) _⟩
      · have n1 : ¬ ((b : Int) = (c : Int)) := by omega
        have NX : Hid (∀ j, j < i + 1 → sb s j ≠ c) := fun j hj => by
          by_cases e : j = i
          · rw [e, Hb.out]; exact hbc
          · exact HN.out j (by omega)
        clear hbc
        go_wp2
        go_roundw
        case rel => exact ⟨i + 1, by omega, by go_num, NX.out, by trivial⟩
        case measure => simp [intOf]; omega
    · have i1 : ¬ ((i : Int) < (s.size : Int)) := by omega
      have IX : Hid (ixB c s = s.size) := ixB_none (fun j hj => HN.out j (by omega))
      have EA : Hid (ctA c s = s) := ctA_none IX.out
      have EB : Hid (ctB c s = ⟨#[]⟩) := ctB_none IX.out
      go_wp2
      go_ret2
      rw [EA.out, EB.out]
      exact ⟨rfl, Below.refl _ _⟩
/- a pair -/
def pairS (p : ByteArray) : Option Fl := match dcS (ctA 61 p), dcS (ctB 61 p) with
  | some a, some b => some (a, b)
  | _, _ => none
def PairEnd : Option Fl → Ending → Prop
  | none, e => e = .returned (.tuple #[.agg (aggF ⟨#[]⟩ ⟨#[]⟩), .bool false])
  | some f, e => e = .returned (.tuple #[.agg (aggF f.1 f.2), .bool true])
theorem dec_any (o : Option ByteArray) : ∃ (t : ByteArray) (b : Bool), Hid (∀ e, DecEnd o e → e = .returned (.tuple #[.string t, .bool b])) ∧ Hid ((b = true ∧ o = some t) ∨ (b = false ∧ o = none ∧ t = ⟨#[]⟩)) := by
  cases o with
  | none => exact ⟨⟨#[]⟩, false, fun e h => h, .inr ⟨rfl, rfl, rfl⟩⟩
  | some t => exact ⟨t, true, fun e h => h, .inl ⟨rfl, rfl⟩⟩
set_option maxHeartbeats 2000000 in
theorem pairOf_n (p : ByteArray) (hs : p.size ≤ 140737488354304) (w : World) : Calls Tryd.prog 24 #[.string p] w fun e w' => PairEnd (pairS p) e ∧ Hid (Below w.heap.size w w') := by
  obtain ⟨g, HG⟩ : ∃ q, Hid (w.heap.size = q) := ⟨_, rfl⟩
  obtain ⟨w0, H0⟩ : ∃ w0, Hid (w.alloc (.cells #[.string { data := #[] }, .string { data := #[] }] 39) = w0) := ⟨_, rfl⟩
  have K0 : Hid (Bx w w0 g 39 (aggF ⟨#[]⟩ ⟨#[]⟩)) := by rw [← H0.out, ← HG.out]; exact Bx.new w w 39 _ (Below.refl _ _)
  have C0 : Hid (∀ w, Calls Tryd.prog 21 #[.string p, .string ⟨#[61]⟩] w fun e w' => (∃ b, e = .returned (.tuple #[.string (ctA 61 p), .string (ctB 61 p), .bool b])) ∧ Hid (Below w.heap.size w w')) := fun w => cut_n p 61 (by omega) w
  have za := ctA_size 61 p
  have zb := ctB_size 61 p
  obtain ⟨a, HA⟩ : ∃ q, Hid (ctA 61 p = q) := ⟨_, rfl⟩
  obtain ⟨b, HB⟩ : ∃ q, Hid (ctB 61 p = q) := ⟨_, rfl⟩
  rw [HA.out] at C0 za
  rw [HB.out] at C0 zb
  have PE : Hid (pairS p = match dcS a, dcS b with | some a, some b => some (a, b) | _, _ => none) := (by unfold pairS; rw [HA.out, HB.out] : pairS p = _)
  obtain ⟨x, xo, XE, XO⟩ := dec_any (dcS a)
  obtain ⟨y, yo, YE, YO⟩ := dec_any (dcS b)
  cases xo with
  | false =>
    have EV : Hid (pairS p = none) := by
      rcases XO.out with ⟨h, _⟩ | ⟨_, h, _⟩
      · cases h
      · exact (by rw [PE.out, h] : pairS p = none)
    go_enter Tryd.func24, Tryd.ntmps24
    go_upto_region 2 with (go_at_call 21; rw [H0.out]; refine (C0.out _).mono ?_; rintro e w1 ⟨⟨bb, rfl⟩, B1⟩)
    rw [HG.out]
    go_upto_region 3 with (go_at_call 22; refine (decode_n a (by omega) _).mono ?_; rintro e w2 ⟨h2, B2⟩; obtain rfl := XE.out e h2; clear h2)
    have K2 : Hid (Bx w w2 g 39 (aggF ⟨#[]⟩ ⟨#[]⟩)) := (K0.out.below B1.out).below B2.out
    go_upto_region 4 with (go_at_call 22; refine (decode_n b (by omega) _).mono ?_; rintro e w3 ⟨h3, B3⟩; obtain rfl := YE.out e h3; clear h3)
    have K3 : Hid (Bx w w3 g 39 (aggF ⟨#[]⟩ ⟨#[]⟩)) := K2.out.below B3.out
    obtain ⟨w9, H9⟩ : ∃ w9, Hid (w3.setRow g (aggF ⟨#[]⟩ ⟨#[]⟩) = w9) := ⟨_, rfl⟩
    have K9 : Hid (Bx w w9 g 39 (aggF ⟨#[]⟩ ⟨#[]⟩)) := by rw [← H9.out]; exact K3.out.set _
    go_wp2_with (refine wpList_store_row (by rfl) 39 (.tmp 2) (.tmp 33) (by rfl) g (aggF ⟨#[]⟩ ⟨#[]⟩) (by rfl) (by rfl) 39 _ K3.out.row (sz39 _ _) (by rfl) (one39 _ _) ?_; refine (show _ = w9 from H9.out) ▸ ?_)
    try simp only [Exit.inBlock, Exit.then]
    refine bodyPost_ret (res_row2 (by rfl) (by rfl) K9.out.row und41 (sz39 _ _)) rfl ?_
    rw [EV.out]
    exact ⟨rfl, K9.out.bel⟩
  | true =>
    cases yo with
    | false =>
      have EV : Hid (pairS p = none) := by
        rcases YO.out with ⟨h, _⟩ | ⟨_, h, _⟩
        · cases h
        · exact (by rw [PE.out, h]; cases dcS a <;> rfl : pairS p = none)
      go_enter Tryd.func24, Tryd.ntmps24
      go_upto_region 2 with (go_at_call 21; rw [H0.out]; refine (C0.out _).mono ?_; rintro e w1 ⟨⟨bb, rfl⟩, B1⟩)
      rw [HG.out]
      go_upto_region 3 with (go_at_call 22; refine (decode_n a (by omega) _).mono ?_; rintro e w2 ⟨h2, B2⟩; obtain rfl := XE.out e h2; clear h2)
      have K2 : Hid (Bx w w2 g 39 (aggF ⟨#[]⟩ ⟨#[]⟩)) := (K0.out.below B1.out).below B2.out
      go_upto_region 4 with (go_at_call 22; refine (decode_n b (by omega) _).mono ?_; rintro e w3 ⟨h3, B3⟩; obtain rfl := YE.out e h3; clear h3)
      have K3 : Hid (Bx w w3 g 39 (aggF ⟨#[]⟩ ⟨#[]⟩)) := K2.out.below B3.out
      obtain ⟨w9, H9⟩ : ∃ w9, Hid (w3.setRow g (aggF ⟨#[]⟩ ⟨#[]⟩) = w9) := ⟨_, rfl⟩
      have K9 : Hid (Bx w w9 g 39 (aggF ⟨#[]⟩ ⟨#[]⟩)) := by rw [← H9.out]; exact K3.out.set _
      go_wp2_with (refine wpList_store_row (by rfl) 39 (.tmp 2) (.tmp 33) (by rfl) g (aggF ⟨#[]⟩ ⟨#[]⟩) (by rfl) (by rfl) 39 _ K3.out.row (sz39 _ _) (by rfl) (one39 _ _) ?_; refine (show _ = w9 from H9.out) ▸ ?_)
      try simp only [Exit.inBlock, Exit.then]
      refine bodyPost_ret (res_row2 (by rfl) (by rfl) K9.out.row und41 (sz39 _ _)) rfl ?_
      rw [EV.out]
      exact ⟨rfl, K9.out.bel⟩
    | true =>
      have EV : Hid (pairS p = some (x, y)) := by
        rcases XO.out with ⟨_, h⟩ | ⟨h, _⟩
        · rcases YO.out with ⟨_, h2⟩ | ⟨h2, _⟩
          · exact (by rw [PE.out, h, h2] : pairS p = some (x, y))
          · cases h2
        · cases h
      go_enter Tryd.func24, Tryd.ntmps24
      go_upto_region 2 with (go_at_call 21; rw [H0.out]; refine (C0.out _).mono ?_; rintro e w1 ⟨⟨bb, rfl⟩, B1⟩)
      rw [HG.out]
      go_upto_region 3 with (go_at_call 22; refine (decode_n a (by omega) _).mono ?_; rintro e w2 ⟨h2, B2⟩; obtain rfl := XE.out e h2; clear h2)
      have K2 : Hid (Bx w w2 g 39 (aggF ⟨#[]⟩ ⟨#[]⟩)) := (K0.out.below B1.out).below B2.out
      go_upto_region 4 with (go_at_call 22; refine (decode_n b (by omega) _).mono ?_; rintro e w3 ⟨h3, B3⟩; obtain rfl := YE.out e h3; clear h3)
      have K3 : Hid (Bx w w3 g 39 (aggF ⟨#[]⟩ ⟨#[]⟩)) := K2.out.below B3.out
      obtain ⟨w9, H9⟩ : ∃ w9, Hid (w3.setRow g (aggF x y) = w9) := ⟨_, rfl⟩
      have K9 : Hid (Bx w w9 g 39 (aggF x y)) := by rw [← H9.out]; exact K3.out.set _
      go_wp2_with (refine wpList_store_row (by rfl) 39 (.tmp 2) (.tmp 36) (by rfl) g (aggF x y) (by rfl) (by rfl) 39 _ K3.out.row (sz39 _ _) (by rfl) (one39 _ _) ?_; refine (show _ = w9 from H9.out) ▸ ?_)
      try simp only [Exit.inBlock, Exit.then]
      refine bodyPost_ret (res_row2 (by rfl) (by rfl) K9.out.row und41 (sz39 _ _)) rfl ?_
      rw [EV.out]
      exact ⟨rfl, K9.out.bel⟩
end Go.Proofs.YtalagagnolhppaaDoor
