import Derived.Test.YtoegfckafnlknaaDoorMKc
/- Ke -/
/- CommandReads: the walk. -/
namespace Go.Proofs.YtoegfckafnlknaaDoor
open Go.ChangeShapes Go.WideShapes Go.ChangeAt Go.RowKit
set_option maxRecDepth 20000
set_option linter.unusedVariables false
set_option linter.unusedSimpArgs false
theorem mapcmR_inj : ∀ {a b : List Nm}, a.map Nm.cm = b.map Nm.cm → a = b
  | [], [], _ => rfl
  | [], _ :: _, h => by simp at h
  | _ :: _, [], h => by simp at h
  | x :: a, y :: b, h => by
    simp only [List.map_cons, List.cons.injEq] at h
    rw [mapcmR_inj h.2, cm_inj h.1]
theorem writeR_yes {w : World} {M : Nat → Prop} {E : Nat → Addr} {a : Option Addr} {n c : Nat} {X : List Cx} {ys : List Nm} (hE : Hid (Sent w M E)) (hM0 : M 0) (hC : Hid (Cms w 0 a n X)) (hn : n ≤ 4096) (hy : Hid (X.map Cx.cm = ys.map Nm.cm)) (ha : Hid (∀ y ∈ ys, Nb y ∧ frm y.cm = true)) :
    Calls Tryd.prog 20 #[.slice a n c] w fun e w' => ∃ g N, e = .returned (.tuple #[.slice (some ⟨g, 0, none⟩) N N, .nilIface]) ∧ Hid (Blk w' g (sealL (wrL ys)) ∧ N = (wrL ys).length + 4 ∧ Below w.heap.size w w') := by
  refine (write_n hE hM0 hC hn).mono ?_
  rintro e w' (⟨⟨x, hx, hf⟩, _⟩ | ⟨zs, g, N, h1, h2, h3, h4, h5, h6⟩)
  · have hm : x.cm ∈ X.map Cx.cm := List.mem_map.2 ⟨x, hx, rfl⟩
    rw [hy.out] at hm
    obtain ⟨y, hy, e⟩ := List.mem_map.1 hm
    rw [← e, (ha.out y hy).2] at hf
    cases hf
  · obtain rfl := mapcmR_inj (h1.symm.trans hy.out)
    exact ⟨g, N, h3, h4, h5, h6⟩
theorem numR0 {w : World} : Calls Tryd.prog 22 #[.nilIface] w fun e w' => e = .returned (.int .i64 0) ∧ Hid (Below w.heap.size w w') := by
  refine (bnum_nil w).mono ?_
  rintro e w' ⟨h1, h2⟩
  exact ⟨h1, by rw [h2]; exact Below.refl _ _⟩
/- Read refuses: what the error's number is -/
def refu (l : List Nat) (k : Nat) : Prop := ((opn l).2 = 0 ∧ rdW (opn l).1 = none ∧ k = 5) ∨ ((opn l).2 = k ∧ (k = 5 ∨ k = 6))
theorem opn_len (l : List Nat) : (opn l).1.length ≤ l.length := by
  unfold opn
  split
  · exact Nat.zero_le _
  · split
    · simp only [List.length_take]; omega
    · exact Nat.zero_le _
section
variable {w : World} {a : Option Addr} {n c : Nat} {l : List Nat} {M : Nat → Prop} {E : Nat → Addr} {k : Nat}
set_option maxHeartbeats 2000000 in
theorem readA_no (hS : Hid (Sln w a n l)) (hc : Hid (a = none → c = 0)) (hnc : n ≤ c) (hE : Hid (Sent w M E)) (hM1 : M 1) (hM7 : M 7) (hk : Hid (refu l k)) :
    Calls Tryd.prog 24 #[.slice a n c] w fun e w' => ∃ v, e = .returned (.tuple #[.slice none 0 0, v]) ∧ Hid (v = erv E k ∧ Below w.heap.size w w') := by
  rcases hk.out with ⟨ho, hr, rfl⟩ | ⟨ho, hk2⟩
  · have HO : Hid ((opn l).2 = 0) := ho
    have HR : Hid (rdW (opn l).1 = none) := hr
    clear ho hr
    go_enter Tryd.func24, Tryd.ntmps24
    go_upto_region 2 with (go_at_call 51; refine (open_any hS hc hnc hE hM7 hM1).mono ?_; rintro e w2 ⟨a2, n2, c2, v, rfl, H2⟩)
    obtain ⟨rfl, hO, hB⟩ : v = .nilIface ∧ Own w2 w.heap.size a2 n2 c2 (opn l).1 ∧ Below w.heap.size w w2 := by
      have h := H2.out
      rw [HO.out] at h
      exact ⟨h.1, h.2.1, h.2.2⟩
    have O2 := show Hid (Own w2 w.heap.size a2 n2 c2 (opn l).1) from hO
    have B2 := show Hid (Below w.heap.size w w2) from hB
    clear hO hB H2
    have LN : Hid (n2 ≤ 140737488352256) := by
      have h1 := O2.out.len
      have h2 := opn_len l
      have h3 := hS.out.sli.2.1
      show _ ≤ _
      omega
    have S2 : Hid (Sln w2 a2 n2 (opn l).1) := O2.out.sln LN.out
    have Z2 : Hid (a2 = none → c2 = 0) := O2.out.cap0
    have E2 : Hid (Sent w2 M E) := hE.out.below B2.out
    have CW : Hid (Calls Tryd.prog 52 #[.slice a2 n2 c2, .func (.func 53) #[] #[]] w2 fun e w' => e = .returned (.tuple #[.slice none 0 0, .iface 132 (.pointer (some (E 1)))]) ∧ Hid (Below w2.heap.size w2 w')) := by
      refine (whole52_n S2 Z2 E2 hM1).mono ?_
      rintro e w' (⟨h, h1, h2⟩ | ⟨zs, la, ln, lc, h, h1, h2, h3⟩)
      · exact ⟨h1, h2⟩
      · rw [HR.out] at h; cases h
    go_wp2_with (go_at_call 52; refine CW.out.mono ?_; rintro e w3 ⟨rfl, H3⟩)
    go_ret2
    exact ⟨_, rfl, rfl, B2.out.trans (H3.out.mono B2.out.size)⟩
  · have HO : Hid ((opn l).2 = k) := ho
    clear ho
    have HV : Hid (∃ p, erv E k = .iface 132 (.pointer (some p))) := by
      rcases hk2 with rfl | rfl
      · exact ⟨E 1, rfl⟩
      · exact ⟨E 7, rfl⟩
    clear hk2
    obtain ⟨p, hp⟩ := HV.out
    have HP : Hid (erv E k = .iface 132 (.pointer (some p))) := hp
    clear hp
    go_enter Tryd.func24, Tryd.ntmps24
    go_wp2_with (go_at_call 51; refine (open_any hS hc hnc hE hM7 hM1).mono ?_; rintro e w2 ⟨a2, n2, c2, v, rfl, H2⟩; obtain rfl : v = .iface 132 (.pointer (some p)) := H2.out.1.trans (by rw [HO.out]; exact HP.out))
    go_ret2
    exact ⟨_, rfl, HP.out.symm, H2.out.2.2⟩
theorem refread_no (hS : Hid (Sln w a n l)) (hc : Hid (a = none → c = 0)) (hnc : n ≤ c) (hk : Hid (refu l k)) :
    Calls Tryd.prog 25 #[.slice a n c] w fun e w' => e = .returned (.tuple #[.slice none 0 0, .int .i64 (k : Int)]) ∧ Hid (Below w.heap.size w w') := by
  rcases hk.out with ⟨ho, hr, rfl⟩ | ⟨ho, hk2⟩
  · refine (refreadL_n hS hc hnc ho).mono ?_
    rintro e w' (⟨_, h1, h2⟩ | ⟨ys, la, ln, lc, h, _⟩)
    · exact ⟨h1, h2⟩
    · rw [hr] at h; cases h
  · exact refread_err hS hc hnc ho (by omega)
theorem refread_yes {ys : List Nm} (hS : Hid (Sln w a n l)) (hc : Hid (a = none → c = 0)) (hnc : n ≤ c) (ho : Hid ((opn l).2 = 0)) (hr : Hid (rdW (opn l).1 = some ys)) :
    Calls Tryd.prog 25 #[.slice a n c] w fun e w' => ∃ la ln lc, e = .returned (.tuple #[.slice la ln lc, .int .i64 0]) ∧ Hid (Below w.heap.size w w' ∧ ∃ Y, led Y = ys.map Nm.cm ∧ Oc w' w.heap.size la ln lc Y) := by
  refine (refreadL_n hS hc hnc ho).mono ?_
  rintro e w' (⟨h, _⟩ | ⟨zs, la, ln, lc, h, h1, h2, h3⟩)
  · rw [hr.out] at h; cases h
  · rw [hr.out] at h
    cases h
    exact ⟨la, ln, lc, h1, h2, h3⟩
end
section
variable {w : World} {E : Nat → Addr} {a : Option Addr} {n c : Nat} {l : List Nat}
set_option maxHeartbeats 4000000 in
theorem reads_no {k : Nat} (hE : Hid (Sent w (fun g => g < 18) E)) (hS : Hid (Sln w a n l)) (hz : Hid (a = none → c = 0)) (hnc : n ≤ c) (hb : Hid (n ≤ 140737488351232)) (hk : Hid (refu l k)) :
    Calls Tryd.prog 6 #[.slice a n c] w fun e w' => e = .returned (.bool true) ∧ Hid (Below w.heap.size w w') := by
  have K56 : Hid (k = 0 ∨ k = 5 ∨ k = 6) := by
    rcases hk.out with ⟨_, _, h⟩ | ⟨_, h⟩
    · exact .inr (.inl h)
    · exact .inr h
  have hk0 : ¬ ((k : Int) = 0) := by
    rcases hk.out with ⟨_, _, h⟩ | ⟨_, h⟩ <;> omega
  go_enter Tryd.func6, Tryd.ntmps6
  go_upto_region 3 with (go_at_call 9; refine (alive_n _).mono ?_; rintro e w2 ⟨rfl, h2⟩)
  have S2 : Hid (Sln w2 a n l) := hS.out.below h2.out
  go_upto_region 4 with (go_at_call 17; refine (bytes_n S2 hz).mono ?_; rintro e w3 ⟨gi, ni, rfl, h3⟩)
  have K3 : Hid (Blk w3 gi (l ++ marks)) := h3.out.2.2.1
  have NI : Hid (ni = n + 6) := h3.out.1
  have NJ : n ≤ ni := by have := NI.out; omega
  have B3 : Hid (Below w.heap.size w w3) := h2.out.trans (h3.out.2.2.2.mono h2.out.size)
  have I3 : Hid (Sln w3 (some ⟨gi, 0, none⟩) n l) := blk_front K3.out hS.out.lt hS.out.len hb.out
  have N3 : Hid (some (⟨gi, 0, none⟩ : Addr) = none → ni = 0) := fun h => by cases h
  have E3 : Hid (Sent w3 (fun g => g < 18) E) := hE.out.below B3.out
  clear h3 S2 h2
  go_upto_region 5 with (go_at_call 24; refine (readA_no I3 N3 NJ E3 (by decide) (by decide) hk).mono ?_; rintro e w4 ⟨v, rfl, h4⟩)
  have HV : Hid (v = erv E k) := h4.out.1
  have B34 : Hid (Below w3.heap.size w3 w4) := h4.out.2
  have B4 : Hid (Below w.heap.size w w4) := B3.out.trans (B34.out.mono B3.out.size)
  have S4 : Hid (Sln w4 a n l) := hS.out.below B4.out
  clear h4
  go_upto_region 6 with (go_at_call 25; refine (refread_no S4 hz hnc hk).mono ?_; rintro e w5 ⟨rfl, h5⟩)
  have B5 : Hid (Below w.heap.size w w5) := B4.out.trans (h5.out.mono B4.out.size)
  have B35 : Hid (Below w3.heap.size w3 w5) := B34.out.trans (h5.out.mono B34.out.size)
  have E5 : Hid (Sent w5 (fun g => g < 18) E) := hE.out.below B5.out
  obtain ⟨X0, HX0⟩ : ∃ X : List Cx, Hid (X = []) := ⟨[], rfl⟩
  have SM : Hid (decide (led X0 = led X0) = true) := decide_eq_true rfl
  go_wp2_with (first
    | (go_at_call 22; refine (bnum_any HV K56 E5).mono ?_; rintro e w6 ⟨rfl, h6⟩
       have B6 : Hid (Below w5.heap.size w5 w6) := h6.out
       have C6 : Hid (Cms w6 0 none 0 X0) := (by rw [HX0.out]; exact Cms.nil _ _ _))
    | (go_at_call 23; refine (same_n C6 C6).mono ?_; rintro e w7 ⟨rfl, h7⟩; rw [decide_eq_true (rfl : led X0 = led X0)]
       have B7 : Hid (Below w3.heap.size w3 w7) := (B35.out.trans (B6.out.mono B35.out.size)).trans (h7.out.mono (Nat.le_trans B35.out.size B6.out.size))
       have K7 : Hid (Blk w7 gi (l ++ marks)) := K3.out.below B7.out K3.out.lt
       have S7 : Hid (Sln w7 a n l) := hS.out.below (B3.out.trans (B7.out.mono B3.out.size)))
    | (go_at_call 19; refine (kept_n K7 NI S7).mono ?_; rintro e w8 ⟨rfl, h8⟩))
  go_ret
  refine ⟨rfl, ?_⟩
  obtain ⟨j, hj⟩ := h8.out
  rw [hj]
  exact below_drewN (B3.out.trans (B7.out.mono B3.out.size)) j
set_option maxHeartbeats 4000000 in
theorem reads_yes {ys : List Nm} (hE : Hid (Sent w (fun g => g < 18) E)) (hS : Hid (Sln w a n l)) (hz : Hid (a = none → c = 0)) (hnc : n ≤ c) (hb : Hid (n ≤ 140737488351232)) (ho : Hid ((opn l).2 = 0)) (hr : Hid (rdW (opn l).1 = some ys)) :
    Calls Tryd.prog 6 #[.slice a n c] w fun e w' => e = .returned (.bool true) ∧ Hid (Below w.heap.size w w') := by
  have SE : Hid (sealL (opn l).1 = l) := by
    show _ = _
    have h := ho.out
    unfold opn at h ⊢
    split at h
    · simp at h
    · split at h
      · rename_i h1 h2
        rw [if_neg h1, if_pos h2]
        exact h2
      · simp at h
  have RB := rdW_back (fun x hx => hS.out.lt x (by have h := SE.out; rw [← h]; unfold sealL; exact List.mem_append_left _ hx)) hr.out
  have WL : Hid (sealL (wrL ys) = l) := by show _ = _; rw [RB.1]; exact SE.out
  have YL : Hid (ys.length ≤ 4096) := RB.2.1
  have YA : Hid (∀ y ∈ ys, Nb y ∧ frm y.cm = true) := RB.2.2
  clear RB SE
  go_enter Tryd.func6, Tryd.ntmps6
  go_upto_region 3 with (go_at_call 9; refine (alive_n _).mono ?_; rintro e w2 ⟨rfl, h2⟩)
  have S2 : Hid (Sln w2 a n l) := hS.out.below h2.out
  go_upto_region 4 with (go_at_call 17; refine (bytes_n S2 hz).mono ?_; rintro e w3 ⟨gi, ni, rfl, h3⟩)
  have K3 : Hid (Blk w3 gi (l ++ marks)) := h3.out.2.2.1
  have NI : Hid (ni = n + 6) := h3.out.1
  have NJ : n ≤ ni := by have := NI.out; omega
  have B3 : Hid (Below w.heap.size w w3) := h2.out.trans (h3.out.2.2.2.mono h2.out.size)
  have I3 : Hid (Sln w3 (some ⟨gi, 0, none⟩) n l) := blk_front K3.out hS.out.lt hS.out.len hb.out
  have N3 : Hid (some (⟨gi, 0, none⟩ : Addr) = none → ni = 0) := fun h => by cases h
  have E3 : Hid (Sent w3 (fun g => g < 18) E) := hE.out.below B3.out
  clear h3 S2 h2
  go_upto_region 5 with (go_at_call 24; refine (readA_yes I3 N3 NJ E3 (by decide) (by decide) ho hr).mono ?_; rintro e w4 ⟨la, ln, lc, rfl, h4⟩)
  obtain ⟨b34, Y, hY, OY⟩ := h4.out
  have B34 : Hid (Below w3.heap.size w3 w4) := b34
  have HY : Hid (led Y = ys.map Nm.cm) := hY
  have O4 : Hid (Cms w4 0 la ln Y) := OY.cms.mono (Nat.zero_le _)
  have B4 : Hid (Below w.heap.size w w4) := B3.out.trans (B34.out.mono B3.out.size)
  have S4 : Hid (Sln w4 a n l) := hS.out.below B4.out
  clear h4 b34 hY OY
  go_upto_region 6 with (go_at_call 25; refine (refread_yes S4 hz hnc ho hr).mono ?_; rintro e w5 ⟨ma, mn, mc, rfl, h5⟩)
  obtain ⟨b45, Z, hZ, OZ⟩ := h5.out
  have B45 : Hid (Below w4.heap.size w4 w5) := b45
  have HZ : Hid (led Z = ys.map Nm.cm) := hZ
  have P5 : Hid (Cms w5 0 ma mn Z) := OZ.cms.mono (Nat.zero_le _)
  have O5 : Hid (Cms w5 0 la ln Y) := O4.out.below B45.out
  clear h5 b45 hZ OZ O4
  have B5 : Hid (Below w.heap.size w w5) := B4.out.trans (B45.out.mono B4.out.size)
  have B35 : Hid (Below w3.heap.size w3 w5) := B34.out.trans (B45.out.mono B34.out.size)
  have E5 : Hid (Sent w5 (fun g => g < 18) E) := hE.out.below B5.out
  have SM : Hid (decide (led Y = led Z) = true) := decide_eq_true (HY.out.trans HZ.out.symm)
  have YC : Hid (Y.map Cx.cm = ys.map Nm.cm) := HY.out
  have LN : ln ≤ 4096 := by
    have h1 := congrArg List.length HY.out
    simp [led] at h1
    have := O5.out.len
    have := YL.out
    omega
  go_upto_region 10 with (first
    | (go_at_call 22; refine (numR0).mono ?_; rintro e w6 ⟨rfl, h6⟩
       have B6 : Hid (Below w5.heap.size w5 w6) := h6.out
       have C6 : Hid (Cms w6 0 la ln Y) := O5.out.below h6.out
       have D6 : Hid (Cms w6 0 ma mn Z) := P5.out.below h6.out)
    | (go_at_call 23; refine (same_n C6 D6).mono ?_; rintro e w7 ⟨rfl, h7⟩; rw [SM.out]
       have B57 : Hid (Below w5.heap.size w5 w7) := B6.out.trans (h7.out.mono B6.out.size)
       have B7 : Hid (Below w3.heap.size w3 w7) := B35.out.trans (B57.out.mono B35.out.size)
       have K7 : Hid (Blk w7 gi (l ++ marks)) := K3.out.below B7.out K3.out.lt
       have S7 : Hid (Sln w7 a n l) := hS.out.below (B3.out.trans (B7.out.mono B3.out.size)))
    | (go_at_call 19; refine (kept_n K7 NI S7).mono ?_; rintro e w8 ⟨rfl, h8⟩))
  have B78 : Hid (Below w7.heap.size w7 w8) := by obtain ⟨j, hj⟩ := h8.out; rw [hj]; exact below_drewN (Below.refl _ _) j
  have B58 : Hid (Below w5.heap.size w5 w8) := B57.out.trans (B78.out.mono B57.out.size)
  have B8 : Hid (Below w.heap.size w w8) := B5.out.trans (B58.out.mono B5.out.size)
  have C8 : Hid (Cms w8 0 la ln Y) := O5.out.below B58.out
  have E8 : Hid (Sent w8 (fun g => g < 18) E) := hE.out.below B8.out
  clear h8
  go_upto_region 11 with (go_at_call 20; refine (writeR_yes E8 (by decide) C8 LN YC YA).mono ?_; rintro e w9 ⟨gb, nb, rfl, h9⟩)
  have K9 : Hid (Blk w9 gb l) := by have h := h9.out.1; rw [WL.out] at h; exact h
  have NB : Hid (nb = l.length) := by
    have h := h9.out.2.1
    have h4 : (sealL (wrL ys)).length = (wrL ys).length + 4 := by unfold sealL; simp [be4]
    rw [WL.out] at h4
    show _ = _
    omega
  have B9 : Hid (Below w.heap.size w w9) := B8.out.trans (h9.out.2.2.mono B8.out.size)
  have S9 : Hid (Sln w9 a n l) := hS.out.below B9.out
  have Q1 := conv_n (by have h : Hid (Sln w9 (some ⟨gb, 0, none⟩) l.length l) := Blk.sln K9.out hS.out.lt (by have := hS.out.len; have := hb.out; have := NB.out; omega); rwa [← NB.out] at h : Hid (Sln w9 (some ⟨gb, 0, none⟩) nb l)) (k := nb)
  have Q2 := conv_n S9 (k := c)
  have q0 := fun d w => eq_str d (spell l) w
  clear h9
  go_wp2
  go_ret
  exact ⟨rfl, B9.out⟩
theorem reads_n (hE : Hid (Sent w (fun g => g < 18) E)) (hS : Hid (Sln w a n l)) (hz : Hid (a = none → c = 0)) (hnc : n ≤ c) (hb : Hid (n ≤ 140737488351232)) :
    Calls Tryd.prog 6 #[.slice a n c] w fun e w' => e = .returned (.bool true) ∧ Hid (Below w.heap.size w w') := by
  rcases opn_code l with h | h | h
  · rcases opt_cases (rdW (opn l).1) with h1 | ⟨ys, h1⟩
    · exact reads_no hE hS hz hnc hb (show refu l 5 from .inl ⟨h, h1, rfl⟩)
    · exact reads_yes hE hS hz hnc hb h h1
  · exact reads_no hE hS hz hnc hb (show refu l 5 from .inr ⟨h, .inl rfl⟩)
  · exact reads_no hE hS hz hnc hb (show refu l 6 from .inr ⟨h, .inr rfl⟩)
end
end Go.Proofs.YtoegfckafnlknaaDoor
