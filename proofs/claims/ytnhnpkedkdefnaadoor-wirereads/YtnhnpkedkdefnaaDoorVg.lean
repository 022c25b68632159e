/- The law WireNumbers walked: it returns true, and changes nothing that was there. -/
import Derived.Test.YtnhnpkedkdefnaaDoorVf
import Derived.Deep.CutBlock
import Derived.Deep.DeepCutAuto
namespace Go.Proofs.YtnhnpkedkdefnaaDoor
open Go.ChangeShapes Go.WideShapes Go.ChangeAt Go.RowKit
set_option linter.unusedVariables false
set_option linter.unusedSimpArgs false
theorem i64_mask (z : Int) : ∃ m : Nat, m < 9223372036854775808 ∧ bits .and .i64 z 9223372036854775807 = (m : Int) := by
  refine ⟨(BitVec.ofInt 64 z).toNat &&& 9223372036854775807, ?_, ?_⟩
  · have : (BitVec.ofInt 64 z).toNat &&& 9223372036854775807 ≤ 9223372036854775807 := Nat.and_le_right
    omega
  · have h : (BitVec.ofInt 64 z).toNat &&& 9223372036854775807 ≤ 9223372036854775807 := Nat.and_le_right
    show IntKind.i64.wrap ((BitVec.ofInt 64 z &&& BitVec.ofInt 64 ((9223372036854775807 : Nat) : Int)).toNat : Int) = _
    rw [BitVec.toNat_and, ofInt_i64 9223372036854775807 (by omega), IntKind.wrap_i64]
    omega
theorem Sln.take {w : World} {a : Option Addr} {n : Nat} {l : List Nat} (h : Sln w a n l) {k : Nat} (hk : k ≤ n) : Sln w a k (l.take k) := by
  have hl := h.len
  refine ⟨by simp; omega, fun x hx => h.lt x (List.mem_of_mem_take hx), by have := h.sli.2.1; simp; omega, ?_⟩
  by_cases hk0 : k = 0
  · subst hk0; exact .inl (by simp)
  · have hne : l ≠ [] := by intro h0; rw [h0] at hl; simp at hl; omega
    obtain ⟨b, off, h1, h2, h3⟩ := h.sli.2.2.resolve_left hne
    refine .inr ⟨b, off, h1, h2, fun i hi => ?_⟩
    have hi2 : i < k := by simp at hi; omega
    rw [h3 i (by simp at hi; omega)]
    have : (l.take k).getD i 0 = l.getD i 0 := by simp [List.getD, List.getElem?_take, hi2]
    rw [this]
theorem Own.cap {w : World} {B : Nat} {a : Option Addr} {n c : Nat} {L : List Nat} (h : Own w B a n c L) : n ≤ c := by
  rcases h.own.2 with ⟨h1, h0⟩ | ⟨g, cap, cur, h1, _, _, h5, _⟩
  · omega
  · simp only [Value.slice.injEq] at h1
    omega
theorem Own.below {w w' : World} {B : Nat} {a : Option Addr} {n c : Nat} {L : List Nat} (h : Own w B a n c L) (hb : Below w.heap.size w w') : Own w' B a n c L := h.block (fun q hq => hb.block q (h.ge q hq).2)
theorem Wri.below {w w' : World} {g B : Nat} {a : Option Addr} {n c : Nat} {L : List Nat} {s : Bool} (h : Wri w g B a n c L s) (hb : Below w.heap.size w w') : Wri w' g B a n c L s := ⟨(hb.block g h.lt).trans h.blk, h.own.below hb, h.ne⟩
abbrev wz : Obj := .cells #[.slice none 0 0, .bool false] 74
theorem same_bytes {w : World} {a b : Option Addr} {n m c d : Nat} {l k : List Nat} (h1 : Hid (Sln w a n l)) (h2 : Hid (Sln w b m k)) :
    Calls Tryd.prog 36 #[.slice a n c, .slice b m d] w fun e w' => e = .returned (.bool (decide (l = k))) ∧ w' = w := by
  have c1 := conv_n (k := c) h1
  have c2 := conv_n (k := d) h2
  have E := spell_beq h1.out.lt h2.out.lt
  go_enter Tryd.func36, Tryd.ntmps36
  go_wp2
  go_ret
  exact ⟨rfl, rfl⟩
set_option maxHeartbeats 2000000 in
theorem numbers_n (w : World) (x y : Int) : Calls Tryd.prog 8 #[.int .i64 x, .int .i64 y] w fun e w' => e = .returned (.bool true) ∧ Hid (Below w.heap.size w w') := by
  obtain ⟨p, hp, ex⟩ := i64_mask x
  obtain ⟨q, hq, ey⟩ := i64_mask y
  go_enter Tryd.func8, Tryd.ntmps8
  go_upto_region 5 with (first
    | (go_at_call 9; refine (alive_n w).mono ?_; rintro e w1 ⟨rfl, B1⟩)
    | (go_at_call 10; refine (newWriter_n _).mono ?_; rintro e wx ⟨rfl, hx⟩; rw [hx.out]; clear hx))
  obtain ⟨w3, W3⟩ : ∃ w3, Hid ((w1.alloc wz).alloc wz = w3) := ⟨_, rfl⟩
  obtain ⟨g, Hg⟩ : ∃ g, Hid (w1.heap.size = g) := ⟨_, rfl⟩
  obtain ⟨h, Hh⟩ : ∃ h, Hid (w1.heap.size + 1 = h) := ⟨_, rfl⟩
  have V3 : Hid (Wri w3 g g none 0 0 [] false) := by
    rw [← W3.out, ← Hg.out]
    exact (Wri.new w1 _).below ((Below.refl _ _).alloc (Nat.le_refl _) _)
  have U3 : Hid (Wri w3 h g none 0 0 [] false) := by
    have e := Wri.new (w1.alloc wz) g
    rw [show (w1.alloc wz).heap.size = w1.heap.size + 1 from by simp, Hh.out] at e
    rw [← W3.out]
    exact e
  have B3 : Hid (Below w.heap.size w w3) := by
    rw [← W3.out]
    have b := B1.out.alloc B1.out.size wz
    exact b.alloc b.size wz
  have G0 : Hid (w.heap.size ≤ g ∧ g < h ∧ g ≤ w3.heap.size) := ⟨by rw [← Hg.out]; exact B1.out.size, by rw [← Hg.out, ← Hh.out]; omega, Nat.le_of_lt V3.out.lt⟩
  have Z3 : Hid (g ≤ w3.heap.size) := G0.out.2.2
  have K0 : Hid (0 + 9 ≤ 140737488352256) := by show _ ≤ _; omega
  refine (show _ = w3 from W3.out) ▸ ?_
  rw [Hh.out, Hg.out]
  clear W3 Hg Hh
  go_upto_region 8 with (first
    | (go_at_call 11; refine (num_n V3 hp Z3 K0).mono ?_; rintro e w4 ⟨a4, n4, c4, rfl, H4⟩))
  have V4 : Hid (Wri w4 g g a4 n4 c4 (enc p) false) := by have := H4.out.1; rw [List.nil_append] at this; exact this
  have U4 : Hid (Wri w4 h g none 0 0 [] false) := U3.out.wfr H4.out.2.1 (by have := G0.out; omega) (by simp [blkOf]) (by simp [blkOf]) (by simp [blkOf])
  have B4 : Hid (Below w.heap.size w w4) := Wfr.below B3.out H4.out.2.1 G0.out.1 (by simp [blkOf]) B3.out.size
  have Z4 : Hid (g ≤ w4.heap.size) := Nat.le_trans Z3.out H4.out.2.1.size
  have N4 : Hid (∀ r, blkOf a4 = some r → r ≠ h) := fun r hr e => by
    rcases H4.out.2.2 r hr with h1 | h1
    · simp [blkOf] at h1
    · have := U3.out.lt; omega
  clear V3 U3 B3 Z3
  go_upto_region 9 with (first
    | (go_at_call 11; refine (num_n U4 hq Z4 K0).mono ?_; rintro e w5 ⟨a5, n5, c5, rfl, H5⟩))
  have U5 : Hid (Wri w5 h g a5 n5 c5 (enc q) false) := by have := H5.out.1; rw [List.nil_append] at this; exact this
  have V5 : Hid (Wri w5 g g a4 n4 c4 (enc p) false) := V4.out.wfr H5.out.2.1 (by have := G0.out; omega) (by simp [blkOf]) (fun e => N4.out h e rfl) (by simp [blkOf])
  have B5 : Hid (Below w.heap.size w w5) := Wfr.below B4.out H5.out.2.1 (by have := G0.out; omega) (by simp [blkOf]) B4.out.size
  have l4 : n4 = (enc p).length := V5.out.own.len
  have l5 : n5 = (enc q).length := U5.out.own.len
  have r4 := enc_nine hp
  have r5 := enc_nine hq
  have p4 := enc_pos p
  have p5 := enc_pos q
  have M := enc_mono p q
  rw [← l4] at r4 p4 M
  rw [← l5] at r5 p5 M
  have T : Hid (∀ m, m = min n4 n5 → (enc p).take m = (enc q).take m → p = q) := fun m hm e => enc_take (by rw [← l4, ← l5]; exact hm) e
  have K4 : Hid (n4 ≤ 140737488352256) := by show _ ≤ _; omega
  have K5 : Hid (n5 ≤ 140737488352256) := by show _ ≤ _; omega
  clear l4 l5 V4 U4 B4 Z4
  go_upto_region 10 with (first
    | (go_at_call 18; refine (done_n V5 K4).mono ?_; rintro e w6 ⟨a6, c6, rfl, H6⟩))
  have U6 : Hid (Wri w6 h g a5 n5 c5 (enc q) false) := U5.out.below H6.out.2
  have B6 : Hid (Below w.heap.size w w6) := B5.out.trans (H6.out.2.mono B5.out.size)
  clear V5 U5
  go_upto_region 11 with (first
    | (go_at_call 18; refine (done_n U6 K5).mono ?_; rintro e w7 ⟨a7, c7, rfl, H7⟩))
  have B7 : Hid (Below w.heap.size w w7) := B6.out.trans (H7.out.2.mono B6.out.size)
  have S6 : Hid (Sln w7 a6 n4 (enc p)) := (H6.out.1.sln K4.out).below H7.out.2
  have S7 : Hid (Sln w7 a7 n5 (enc q)) := H7.out.1.sln K5.out
  have cp6 : n4 ≤ c6 := H6.out.1.cap
  have cp7 : n5 ≤ c7 := H7.out.1.cap
  clear U6 B5 B6
  by_cases hpq : p = q
  · subst hpq
    go_wp2_with (first
      | (go_at_call 36; refine (same_bytes S6 S7).mono ?_; rintro e w8 ⟨rfl, h8⟩; rw [h8]; clear h8; rw [show decide (enc p = enc p) = true from by simp]))
    go_ret
    exact ⟨rfl, B7.out⟩
  · obtain ⟨m, hm⟩ : ∃ m, m = min n4 n5 := ⟨_, rfl⟩
    have hm4 : m ≤ n4 := by omega
    have hm5 : m ≤ n5 := by omega
    have C6 : ∀ j, (convert 27 9 (.slice a6 m c6)).run Tryd.prog (w7.drewN j) = .ok (.string (spell ((enc p).take m))) (w7.drewN j) := fun j => conv_n ((S6.out.take hm4).drewN j)
    have C7 : ∀ j, (convert 27 9 (.slice a7 m c7)).run Tryd.prog (w7.drewN j) = .ok (.string (spell ((enc q).take m))) (w7.drewN j) := fun j => conv_n ((S7.out.take hm5).drewN j)
    have NE : ((spell ((enc p).take m)).toList == (spell ((enc q).take m)).toList) = false := by
      rw [spell_beq (S6.out.take hm4).lt (S7.out.take hm5).lt]
      simp only [decide_eq_false_iff_not]
      exact fun e => hpq (T.out m hm e)
    have PQ : ¬ ((p : Int) = (q : Int)) := by omega
    have FIN : Hid (∀ j, Below w.heap.size w (w7.drewN j)) := fun j => below_drewN B7.out j
    rcases Nat.le_total n4 n5 with hle | hle
    · have em : m = n4 := by omega
      subst em
      have hle2 : (m : Int) ≤ (n5 : Int) := by omega
      have mn : min (m : Int) (n5 : Int) = (m : Int) := by omega
      clear hm T M
      go_wp2
      all_goals (first
        | (go_quiet (fail)
           clear C6 C7
           go_wp2
           go_ret
           exact ⟨rfl, FIN.out _⟩)
        | (have e9 : n5 = m := by omega
           subst e9
           go_quiet (fail)
           clear C6 C7
           go_wp2
           go_ret
           exact ⟨rfl, FIN.out _⟩))
    · have em : m = n5 := by omega
      subst em
      have hqp : n4 = m ∨ ¬ (p : Int) < (q : Int) := by
        rcases Nat.lt_trichotomy p q with h1 | h1 | h1
        · have := M (by omega); exact .inl (by omega)
        · exact absurd h1 hpq
        · exact .inr (by omega)
      have hle2 : (m : Int) ≤ (n4 : Int) := by omega
      have mn : min (n4 : Int) (m : Int) = (m : Int) := by omega
      clear hm T M
      rcases hqp with h1 | h1
      · subst h1
        go_wp2
        all_goals (first
          | (go_quiet (fail)
             clear C6 C7
             go_wp2
             go_ret
             exact ⟨rfl, FIN.out _⟩)
          | (have e9 : n4 = m := by omega
             subst e9
             go_quiet (fail)
             clear C6 C7
             go_wp2
             go_ret
             exact ⟨rfl, FIN.out _⟩))
      · go_wp2
        all_goals (first
          | (go_quiet (fail)
             clear C6 C7
             go_wp2
             go_ret
             exact ⟨rfl, FIN.out _⟩)
          | (have e9 : n4 = m := by omega
             subst e9
             go_quiet (fail)
             clear C6 C7
             go_wp2
             go_ret
             exact ⟨rfl, FIN.out _⟩))
end Go.Proofs.YtnhnpkedkdefnaaDoor
