/- DiskRenames: write, sync, rename: the old file or the new one. -/
import Derived.Test.YtdoenacobmebpaaDoorDf
namespace Go.Proofs.YtdoenacobmebpaaDoor
open Go.ChangeShapes Go.WideShapes Go.ChangeAt Go.RowKit
set_option maxRecDepth 20000
set_option linter.unusedVariables false
set_option linter.unusedSimpArgs false
theorem pick_place (x : Int) (N : Nat) (hN : 0 < N) : ∃ (t : Int) (r : Nat), Int.tmod x (N : Int) = t ∧ -(N : Int) < t ∧ t < (N : Int) ∧ Int.tmod (t + (N : Int)) (N : Int) = (r : Int) ∧ r < N := by
  have h1 : Int.tmod x (N : Int) < (N : Int) := Int.tmod_lt_of_pos x (by omega)
  have h2 : -(N : Int) < Int.tmod x (N : Int) := by
    have := Int.tmod_lt_of_pos (-x) (show (0 : Int) < (N : Int) by omega)
    rw [Int.neg_tmod] at this
    omega
  have h3 : Int.tmod (Int.tmod x (N : Int) + (N : Int)) (N : Int) = (Int.tmod x (N : Int) + (N : Int)) % (N : Int) := Int.tmod_eq_emod_of_nonneg (by omega)
  have h4 : 0 ≤ (Int.tmod x (N : Int) + (N : Int)) % (N : Int) := Int.emod_nonneg _ (by omega)
  have h5 : (Int.tmod x (N : Int) + (N : Int)) % (N : Int) < (N : Int) := Int.emod_lt_of_pos _ (by omega)
  exact ⟨Int.tmod x (N : Int), ((Int.tmod x (N : Int) + (N : Int)) % (N : Int)).toNat, rfl, h2, h1, by rw [h3]; omega, by omega⟩
/- a drive by two names, all else that the law leans on with it -/
structure Sx (w0 w : World) (d m : Nat) (F T : Option Fl) (k : Nat) (a0 : Option Addr) (n0 : Nat) (l0 : List Nat) (a1 : Option Addr) (n1 : Nat) (l1 : List Nat) : Prop where
  dv : ∃ v, Dv w d m v k ∧ v nF = F ∧ v nT = T
  s0 : Sln w a0 n0 l0
  s1 : Sln w a1 n1 l1
  bel : Below w0.heap.size w0 w
  ld : w0.heap.size ≤ d
  lm : w0.heap.size ≤ m
section
variable {w0 w w' : World} {d m : Nat} {F T : Option Fl} {k : Nat} {a0 : Option Addr} {n0 : Nat} {l0 : List Nat} {a1 : Option Addr} {n1 : Nat} {l1 : List Nat}
theorem Sx.next (h : Sx w0 w d m F T k a0 n0 l0 a1 n1 l1) (z0 : Sln w0 a0 n0 l0) (z1 : Sln w0 a1 n1 l1) {F' T' : Option Fl} {k' : Nat} (hv : ∃ v, Dv w' d m v k' ∧ v nF = F' ∧ v nT = T') (hc : ChD w w' d m) : Sx w0 w' d m F' T' k' a0 n0 l0 a1 n1 l1 := by
  have b : Below w0.heap.size w0 w' := h.bel.trans (hc.below h.ld h.lm h.bel.size)
  exact ⟨hv, z0.below b, z1.below b, b, h.ld, h.lm⟩
variable (z0 : Hid (Sln w0 a0 n0 l0)) (z1 : Hid (Sln w0 a1 n1 l1)) (hq : Hid (Sx w0 w d m F T k a0 n0 l0 a1 n1 l1))
include z0 z1 hq
theorem sx_wf (hk : Hid (k < 512)) (c : Nat) : Calls Tryd.prog 13 #[.pointer (some ⟨d, 0, none⟩), .string ⟨#[102]⟩, .slice a0 n0 c] w fun e w' => e = .returned .nilIface ∧ Hid (Sx w0 w' d m (some ⟨spell l0, (F.getD f0).s, (F.getD f0).h⟩) T (k + 1) a0 n0 l0 a1 n1 l1) := by
  obtain ⟨v, h1, h2, h3⟩ := hq.out.dv
  refine (write_v (c := c) (show Hid (Dv w d m v k) from h1) hk nF (show Hid (Sln w a0 n0 l0) from hq.out.s0) nm_f).mono ?_
  rintro e w' ⟨rfl, H⟩
  exact ⟨rfl, hq.out.next z0.out z1.out ⟨_, H.out.1, by rw [upd_same, h2], by rw [upd_other _ _ tf_ne]; exact h3⟩ H.out.2⟩
theorem sx_wt (hk : Hid (k < 512)) (c : Nat) : Calls Tryd.prog 13 #[.pointer (some ⟨d, 0, none⟩), .string ⟨#[116]⟩, .slice a1 n1 c] w fun e w' => e = .returned .nilIface ∧ Hid (Sx w0 w' d m F (some ⟨spell l1, (T.getD f0).s, (T.getD f0).h⟩) (k + 1) a0 n0 l0 a1 n1 l1) := by
  obtain ⟨v, h1, h2, h3⟩ := hq.out.dv
  refine (write_v (c := c) (show Hid (Dv w d m v k) from h1) hk nT (show Hid (Sln w a1 n1 l1) from hq.out.s1) nm_t).mono ?_
  rintro e w' ⟨rfl, H⟩
  exact ⟨rfl, hq.out.next z0.out z1.out ⟨_, H.out.1, by rw [upd_other _ _ ft_ne]; exact h2, by rw [upd_same, h3]⟩ H.out.2⟩
theorem sx_sf {f : Fl} (hf : Hid (F = some f)) : Calls Tryd.prog 14 #[.pointer (some ⟨d, 0, none⟩), .string ⟨#[102]⟩] w fun e w' => e = .returned .nilIface ∧ Hid (Sx w0 w' d m (some ⟨f.b, f.b, true⟩) T k a0 n0 l0 a1 n1 l1) := by
  obtain ⟨v, h1, h2, h3⟩ := hq.out.dv
  refine (sync_v (show Hid (Dv w d m v k) from h1) nF f nm_f (h2.trans hf.out)).mono ?_
  rintro e w' ⟨rfl, H⟩
  exact ⟨rfl, hq.out.next z0.out z1.out ⟨_, H.out.1, upd_same _ _ _, by rw [upd_other _ _ tf_ne]; exact h3⟩ H.out.2⟩
theorem sx_st {f : Fl} (hf : Hid (T = some f)) : Calls Tryd.prog 14 #[.pointer (some ⟨d, 0, none⟩), .string ⟨#[116]⟩] w fun e w' => e = .returned .nilIface ∧ Hid (Sx w0 w' d m F (some ⟨f.b, f.b, true⟩) k a0 n0 l0 a1 n1 l1) := by
  obtain ⟨v, h1, h2, h3⟩ := hq.out.dv
  refine (sync_v (show Hid (Dv w d m v k) from h1) nT f nm_t (h3.trans hf.out)).mono ?_
  rintro e w' ⟨rfl, H⟩
  exact ⟨rfl, hq.out.next z0.out z1.out ⟨_, H.out.1, by rw [upd_other _ _ ft_ne]; exact h2, upd_same _ _ _⟩ H.out.2⟩
theorem sx_rn {f : Fl} (hf : Hid (T = some f)) : Calls Tryd.prog 17 #[.pointer (some ⟨d, 0, none⟩), .string ⟨#[116]⟩, .string ⟨#[102]⟩] w fun e w' => e = .returned .nilIface ∧ Hid (Sx w0 w' d m (some f) none k a0 n0 l0 a1 n1 l1) := by
  obtain ⟨v, h1, h2, h3⟩ := hq.out.dv
  refine (rename_v (show Hid (Dv w d m v k) from h1) nT nF f nm_t nm_f (h3.trans hf.out)).mono ?_
  rintro e w' ⟨rfl, H⟩
  exact ⟨rfl, hq.out.next z0.out z1.out ⟨_, H.out.1, upd_same _ _ _, by rw [upd_other _ _ tf_ne, upd_same]⟩ H.out.2⟩
theorem sx_c : Calls Tryd.prog 11 #[.pointer (some ⟨d, 0, none⟩)] w fun e w' => e = .returned (.tuple #[]) ∧ Hid (Sx w0 w' d m (cr F) (cr T) 512 a0 n0 l0 a1 n1 l1) := by
  obtain ⟨v, h1, h2, h3⟩ := hq.out.dv
  refine (crash_v (show Hid (Dv w d m v k) from h1)).mono ?_
  rintro e w' ⟨rfl, H⟩
  exact ⟨rfl, hq.out.next z0.out z1.out ⟨_, H.out.1, by rw [h2], by rw [h3]⟩ H.out.2⟩
theorem sx_r {f : Fl} (hf : Hid (F = some f)) (hb : f.b.size ≤ 140737488352256) : Calls Tryd.prog 16 #[.pointer (some ⟨d, 0, none⟩), .string ⟨#[102]⟩] w fun e w' => ∃ g k' c, e = .returned (.tuple #[.slice (some ⟨g, 0, none⟩) k' c, .nilIface]) ∧ Hid (Sln w' (some ⟨g, 0, none⟩) k' (bytesOf f.b) ∧ Sx w0 w' d m F T k a0 n0 l0 a1 n1 l1) := by
  obtain ⟨v, h1, h2, h3⟩ := hq.out.dv
  refine (read_v (show Hid (Dv w d m v k) from h1) nF f nm_f (h2.trans hf.out) hb).mono ?_
  rintro e w' ⟨g, k', c, rfl, H⟩
  exact ⟨g, k', c, rfl, H.out.1, hq.out.next z0.out z1.out ⟨v, H.out.2.2.2.2, h2, h3⟩ (ChD.of_below H.out.2.1)⟩
end
set_option maxHeartbeats 4000000 in
theorem renames_n {w : World} {E : Nat → Addr} {a0 : Option Addr} {n0 c0 : Nat} {l0 : List Nat} {a1 : Option Addr} {n1 c1 : Nat} {l1 : List Nat} {x : Int} (z0' : Hid (Sln w a0 n0 l0)) (z1' : Hid (Sln w a1 n1 l1)) (wx : (Lit.int .i64 x).wf = true) (hE : Hid (Er w E)) :
    Calls Tryd.prog 5 #[.slice a0 n0 c0, .slice a1 n1 c1, .int .i64 x] w fun e w' => e = .returned (.bool true) ∧ Hid (Below w.heap.size w w') := by
  have z0 : Hid (Sln w a0 n0 l0) := z0'
  have z1 : Hid (Sln w a1 n1 l1) := z1'
  have b0 : Hid (l0.length ≤ 140737488352256) := z0.out.sli.2.1
  have b1 : Hid (l1.length ≤ 140737488352256) := z1.out.sli.2.1
  have bx := bounds_i64 wx
  obtain ⟨t, r, e1, t1, t2, e2, hr⟩ := pick_place x 4 (by omega)
  have t1' : -4 < t := t1
  have t2' : t < 4 := t2
  have e1' : Int.tmod x 4 = t := e1
  have k0 : Hid (0 < 512) := by show _ < _; omega
  have k1 : Hid (1 < 512) := by show _ < _; omega
  have hr4 : r = 0 ∨ r = 1 ∨ r = 2 ∨ r = 3 := by omega
  go_enter Tryd.func5, Tryd.ntmps5
  rcases hr4 with rfl | rfl | rfl | rfl
  all_goals
    have e2' : Int.tmod (t + 4) 4 = _ := e2
    clear e1 e2 t1 t2 hr
    go_wp2_with (first
      | (go_at_call 7; refine (alive_n hE).mono ?_; rintro e w1 ⟨rfl, H1⟩)
      | (go_at_call 8; refine (new_v _).mono ?_; rintro e w2 ⟨d, m, rfl, H2⟩
         have Qv2 : Hid (Sx w w2 d m none none 0 a0 n0 l0 a1 n1 l1) := by
           have b2 : Below w.heap.size w w2 := H1.out.trans (H2.out.2.2.2.mono H1.out.size)
           have h1 := H1.out.size
           exact ⟨⟨_, H2.out.1, rfl, rfl⟩, z0.out.below b2, z1.out.below b2, b2, by have := H2.out.2.1; omega, by have := H2.out.2.2.1; omega⟩
         clear H1 H2)
      | (go_at_call 13; refine (sx_wf z0 z1 Qv2 k0 c0).mono ?_; rintro e w3 ⟨rfl, H⟩; have Qv3 : Hid (Sx w w3 d m (some ⟨spell l0, ⟨#[]⟩, false⟩) none 1 a0 n0 l0 a1 n1 l1) := H.out; clear H Qv2)
      | (go_at_call 14; refine (sx_sf z0 z1 Qv3 (f := ⟨spell l0, ⟨#[]⟩, false⟩) rfl).mono ?_; rintro e w4 ⟨rfl, H⟩; have Qv4 : Hid (Sx w w4 d m (some ⟨spell l0, spell l0, true⟩) none 1 a0 n0 l0 a1 n1 l1) := H.out; clear H Qv3))
  · refine wp_loop_rounds 4 ?_
    rw [rounds_succ]
    go_wp2_with (first
      | (go_at_call 16; refine (sx_r z0 z1 Qu09 (f := ⟨spell l0, spell l0, true⟩) rfl (by rw [spell_size]; exact b0.out)).mono ?_; rintro e wz ⟨g, k', cz, rfl, H⟩
         have CV1 : (convert 32 9 (.slice (some ⟨g, 0, none⟩) k' cz)).run Tryd.prog wz = .ok (.string (spell l0)) wz := by
           have h := conv_n (k := cz) (show Hid (Sln wz (some ⟨g, 0, none⟩) k' (bytesOf (spell l0))) from H.out.1)
           rw [spell_bytesOf] at h
           exact h
         have CV2 : (convert 32 9 (.slice a0 n0 c0)).run Tryd.prog wz = .ok (.string (spell l0)) wz := conv_n (k := c0) (show Hid (Sln wz a0 n0 l0) from H.out.2.s0)
         have BE : ((spell l0).toList == (spell l0).toList) = true := by simp
         have FIN : Hid (Below w.heap.size w wz) := H.out.2.bel
         clear H Qu09)
      | (go_at_call 11; refine (sx_c z0 z1 Qu00).mono ?_; rintro e u09 ⟨rfl, H⟩; have Qu09 : Hid (Sx w u09 d m (some ⟨spell l0, spell l0, true⟩) none 512 a0 n0 l0 a1 n1 l1) := H.out; clear H Qu00)
      | (go_at_call 11; refine (sx_c z0 z1 Qv4).mono ?_; rintro e u00 ⟨rfl, H⟩; have Qu00 : Hid (Sx w u00 d m (some ⟨spell l0, spell l0, true⟩) none 512 a0 n0 l0 a1 n1 l1) := H.out; clear H Qv4))
    go_ret
    exact ⟨rfl, FIN.out⟩
  · refine wp_loop_rounds 4 ?_
    rw [rounds_succ]
    go_wp2_with (first
      | (go_at_call 16; refine (sx_r z0 z1 Qu19 (f := ⟨spell l0, spell l0, true⟩) rfl (by rw [spell_size]; exact b0.out)).mono ?_; rintro e wz ⟨g, k', cz, rfl, H⟩
         have CV1 : (convert 32 9 (.slice (some ⟨g, 0, none⟩) k' cz)).run Tryd.prog wz = .ok (.string (spell l0)) wz := by
           have h := conv_n (k := cz) (show Hid (Sln wz (some ⟨g, 0, none⟩) k' (bytesOf (spell l0))) from H.out.1)
           rw [spell_bytesOf] at h
           exact h
         have CV2 : (convert 32 9 (.slice a0 n0 c0)).run Tryd.prog wz = .ok (.string (spell l0)) wz := conv_n (k := c0) (show Hid (Sln wz a0 n0 l0) from H.out.2.s0)
         have BE : ((spell l0).toList == (spell l0).toList) = true := by simp
         have FIN : Hid (Below w.heap.size w wz) := H.out.2.bel
         clear H Qu19)
      | (go_at_call 11; refine (sx_c z0 z1 Qu11).mono ?_; rintro e u19 ⟨rfl, H⟩; have Qu19 : Hid (Sx w u19 d m (some ⟨spell l0, spell l0, true⟩) none 512 a0 n0 l0 a1 n1 l1) := H.out; clear H Qu11)
      | (go_at_call 11; refine (sx_c z0 z1 Qu10).mono ?_; rintro e u11 ⟨rfl, H⟩; have Qu11 : Hid (Sx w u11 d m (some ⟨spell l0, spell l0, true⟩) none 512 a0 n0 l0 a1 n1 l1) := H.out; clear H Qu10)
      | (go_at_call 13; refine (sx_wt z0 z1 Qv4 k1 c1).mono ?_; rintro e u10 ⟨rfl, H⟩; have Qu10 : Hid (Sx w u10 d m (some ⟨spell l0, spell l0, true⟩) (some ⟨spell l1, ⟨#[]⟩, false⟩) 2 a0 n0 l0 a1 n1 l1) := H.out; clear H Qv4))
    rw [rounds_succ]
    go_wp2_with (first
      | (go_at_call 16; refine (sx_r z0 z1 Qu19 (f := ⟨spell l0, spell l0, true⟩) rfl (by rw [spell_size]; exact b0.out)).mono ?_; rintro e wz ⟨g, k', cz, rfl, H⟩
         have CV1 : (convert 32 9 (.slice (some ⟨g, 0, none⟩) k' cz)).run Tryd.prog wz = .ok (.string (spell l0)) wz := by
           have h := conv_n (k := cz) (show Hid (Sln wz (some ⟨g, 0, none⟩) k' (bytesOf (spell l0))) from H.out.1)
           rw [spell_bytesOf] at h
           exact h
         have CV2 : (convert 32 9 (.slice a0 n0 c0)).run Tryd.prog wz = .ok (.string (spell l0)) wz := conv_n (k := c0) (show Hid (Sln wz a0 n0 l0) from H.out.2.s0)
         have BE : ((spell l0).toList == (spell l0).toList) = true := by simp
         have FIN : Hid (Below w.heap.size w wz) := H.out.2.bel
         clear H Qu19)
      | (go_at_call 11; refine (sx_c z0 z1 Qu11).mono ?_; rintro e u19 ⟨rfl, H⟩; have Qu19 : Hid (Sx w u19 d m (some ⟨spell l0, spell l0, true⟩) none 512 a0 n0 l0 a1 n1 l1) := H.out; clear H Qu11)
      | (go_at_call 11; refine (sx_c z0 z1 Qu10).mono ?_; rintro e u11 ⟨rfl, H⟩; have Qu11 : Hid (Sx w u11 d m (some ⟨spell l0, spell l0, true⟩) none 512 a0 n0 l0 a1 n1 l1) := H.out; clear H Qu10)
      | (go_at_call 13; refine (sx_wt z0 z1 Qv4 k1 c1).mono ?_; rintro e u10 ⟨rfl, H⟩; have Qu10 : Hid (Sx w u10 d m (some ⟨spell l0, spell l0, true⟩) (some ⟨spell l1, ⟨#[]⟩, false⟩) 2 a0 n0 l0 a1 n1 l1) := H.out; clear H Qv4))
    go_ret
    exact ⟨rfl, FIN.out⟩
  · refine wp_loop_rounds 4 ?_
    rw [rounds_succ]
    go_wp2_with (first
      | (go_at_call 16; refine (sx_r z0 z1 Qu29 (f := ⟨spell l0, spell l0, true⟩) rfl (by rw [spell_size]; exact b0.out)).mono ?_; rintro e wz ⟨g, k', cz, rfl, H⟩
         have CV1 : (convert 32 9 (.slice (some ⟨g, 0, none⟩) k' cz)).run Tryd.prog wz = .ok (.string (spell l0)) wz := by
           have h := conv_n (k := cz) (show Hid (Sln wz (some ⟨g, 0, none⟩) k' (bytesOf (spell l0))) from H.out.1)
           rw [spell_bytesOf] at h
           exact h
         have CV2 : (convert 32 9 (.slice a0 n0 c0)).run Tryd.prog wz = .ok (.string (spell l0)) wz := conv_n (k := c0) (show Hid (Sln wz a0 n0 l0) from H.out.2.s0)
         have BE : ((spell l0).toList == (spell l0).toList) = true := by simp
         have FIN : Hid (Below w.heap.size w wz) := H.out.2.bel
         clear H Qu29)
      | (go_at_call 11; refine (sx_c z0 z1 Qu22).mono ?_; rintro e u29 ⟨rfl, H⟩; have Qu29 : Hid (Sx w u29 d m (some ⟨spell l0, spell l0, true⟩) (some ⟨spell l1, spell l1, true⟩) 512 a0 n0 l0 a1 n1 l1) := H.out; clear H Qu22)
      | (go_at_call 11; refine (sx_c z0 z1 Qu21).mono ?_; rintro e u22 ⟨rfl, H⟩; have Qu22 : Hid (Sx w u22 d m (some ⟨spell l0, spell l0, true⟩) (some ⟨spell l1, spell l1, true⟩) 512 a0 n0 l0 a1 n1 l1) := H.out; clear H Qu21)
      | (go_at_call 14; refine (sx_st z0 z1 Qu20 (f := ⟨spell l1, ⟨#[]⟩, false⟩) rfl).mono ?_; rintro e u21 ⟨rfl, H⟩; have Qu21 : Hid (Sx w u21 d m (some ⟨spell l0, spell l0, true⟩) (some ⟨spell l1, spell l1, true⟩) 2 a0 n0 l0 a1 n1 l1) := H.out; clear H Qu20)
      | (go_at_call 13; refine (sx_wt z0 z1 Qv4 k1 c1).mono ?_; rintro e u20 ⟨rfl, H⟩; have Qu20 : Hid (Sx w u20 d m (some ⟨spell l0, spell l0, true⟩) (some ⟨spell l1, ⟨#[]⟩, false⟩) 2 a0 n0 l0 a1 n1 l1) := H.out; clear H Qv4))
    rw [rounds_succ]
    go_wp2_with (first
      | (go_at_call 16; refine (sx_r z0 z1 Qu29 (f := ⟨spell l0, spell l0, true⟩) rfl (by rw [spell_size]; exact b0.out)).mono ?_; rintro e wz ⟨g, k', cz, rfl, H⟩
         have CV1 : (convert 32 9 (.slice (some ⟨g, 0, none⟩) k' cz)).run Tryd.prog wz = .ok (.string (spell l0)) wz := by
           have h := conv_n (k := cz) (show Hid (Sln wz (some ⟨g, 0, none⟩) k' (bytesOf (spell l0))) from H.out.1)
           rw [spell_bytesOf] at h
           exact h
         have CV2 : (convert 32 9 (.slice a0 n0 c0)).run Tryd.prog wz = .ok (.string (spell l0)) wz := conv_n (k := c0) (show Hid (Sln wz a0 n0 l0) from H.out.2.s0)
         have BE : ((spell l0).toList == (spell l0).toList) = true := by simp
         have FIN : Hid (Below w.heap.size w wz) := H.out.2.bel
         clear H Qu29)
      | (go_at_call 11; refine (sx_c z0 z1 Qu22).mono ?_; rintro e u29 ⟨rfl, H⟩; have Qu29 : Hid (Sx w u29 d m (some ⟨spell l0, spell l0, true⟩) (some ⟨spell l1, spell l1, true⟩) 512 a0 n0 l0 a1 n1 l1) := H.out; clear H Qu22)
      | (go_at_call 11; refine (sx_c z0 z1 Qu21).mono ?_; rintro e u22 ⟨rfl, H⟩; have Qu22 : Hid (Sx w u22 d m (some ⟨spell l0, spell l0, true⟩) (some ⟨spell l1, spell l1, true⟩) 512 a0 n0 l0 a1 n1 l1) := H.out; clear H Qu21)
      | (go_at_call 14; refine (sx_st z0 z1 Qu20 (f := ⟨spell l1, ⟨#[]⟩, false⟩) rfl).mono ?_; rintro e u21 ⟨rfl, H⟩; have Qu21 : Hid (Sx w u21 d m (some ⟨spell l0, spell l0, true⟩) (some ⟨spell l1, spell l1, true⟩) 2 a0 n0 l0 a1 n1 l1) := H.out; clear H Qu20)
      | (go_at_call 13; refine (sx_wt z0 z1 Qv4 k1 c1).mono ?_; rintro e u20 ⟨rfl, H⟩; have Qu20 : Hid (Sx w u20 d m (some ⟨spell l0, spell l0, true⟩) (some ⟨spell l1, ⟨#[]⟩, false⟩) 2 a0 n0 l0 a1 n1 l1) := H.out; clear H Qv4))
    rw [rounds_succ]
    go_wp2_with (first
      | (go_at_call 16; refine (sx_r z0 z1 Qu29 (f := ⟨spell l0, spell l0, true⟩) rfl (by rw [spell_size]; exact b0.out)).mono ?_; rintro e wz ⟨g, k', cz, rfl, H⟩
         have CV1 : (convert 32 9 (.slice (some ⟨g, 0, none⟩) k' cz)).run Tryd.prog wz = .ok (.string (spell l0)) wz := by
           have h := conv_n (k := cz) (show Hid (Sln wz (some ⟨g, 0, none⟩) k' (bytesOf (spell l0))) from H.out.1)
           rw [spell_bytesOf] at h
           exact h
         have CV2 : (convert 32 9 (.slice a0 n0 c0)).run Tryd.prog wz = .ok (.string (spell l0)) wz := conv_n (k := c0) (show Hid (Sln wz a0 n0 l0) from H.out.2.s0)
         have BE : ((spell l0).toList == (spell l0).toList) = true := by simp
         have FIN : Hid (Below w.heap.size w wz) := H.out.2.bel
         clear H Qu29)
      | (go_at_call 11; refine (sx_c z0 z1 Qu22).mono ?_; rintro e u29 ⟨rfl, H⟩; have Qu29 : Hid (Sx w u29 d m (some ⟨spell l0, spell l0, true⟩) (some ⟨spell l1, spell l1, true⟩) 512 a0 n0 l0 a1 n1 l1) := H.out; clear H Qu22)
      | (go_at_call 11; refine (sx_c z0 z1 Qu21).mono ?_; rintro e u22 ⟨rfl, H⟩; have Qu22 : Hid (Sx w u22 d m (some ⟨spell l0, spell l0, true⟩) (some ⟨spell l1, spell l1, true⟩) 512 a0 n0 l0 a1 n1 l1) := H.out; clear H Qu21)
      | (go_at_call 14; refine (sx_st z0 z1 Qu20 (f := ⟨spell l1, ⟨#[]⟩, false⟩) rfl).mono ?_; rintro e u21 ⟨rfl, H⟩; have Qu21 : Hid (Sx w u21 d m (some ⟨spell l0, spell l0, true⟩) (some ⟨spell l1, spell l1, true⟩) 2 a0 n0 l0 a1 n1 l1) := H.out; clear H Qu20)
      | (go_at_call 13; refine (sx_wt z0 z1 Qv4 k1 c1).mono ?_; rintro e u20 ⟨rfl, H⟩; have Qu20 : Hid (Sx w u20 d m (some ⟨spell l0, spell l0, true⟩) (some ⟨spell l1, ⟨#[]⟩, false⟩) 2 a0 n0 l0 a1 n1 l1) := H.out; clear H Qv4))
    go_ret
    exact ⟨rfl, FIN.out⟩
  · refine wp_loop_rounds 4 ?_
    rw [rounds_succ]
    go_wp2_with (first
      | (go_at_call 16; refine (sx_r z0 z1 Qu39 (f := ⟨spell l1, spell l1, true⟩) rfl (by rw [spell_size]; exact b1.out)).mono ?_; rintro e wz ⟨g, k', cz, rfl, H⟩
         have CV1 : (convert 32 9 (.slice (some ⟨g, 0, none⟩) k' cz)).run Tryd.prog wz = .ok (.string (spell l1)) wz := by
           have h := conv_n (k := cz) (show Hid (Sln wz (some ⟨g, 0, none⟩) k' (bytesOf (spell l1))) from H.out.1)
           rw [spell_bytesOf] at h
           exact h
         have CV2 : (convert 32 9 (.slice a1 n1 c1)).run Tryd.prog wz = .ok (.string (spell l1)) wz := conv_n (k := c1) (show Hid (Sln wz a1 n1 l1) from H.out.2.s1)
         have BE : ((spell l1).toList == (spell l1).toList) = true := by simp
         have FIN : Hid (Below w.heap.size w wz) := H.out.2.bel
         clear H Qu39)
      | (go_at_call 11; refine (sx_c z0 z1 Qu32).mono ?_; rintro e u39 ⟨rfl, H⟩; have Qu39 : Hid (Sx w u39 d m (some ⟨spell l1, spell l1, true⟩) none 512 a0 n0 l0 a1 n1 l1) := H.out; clear H Qu32)
      | (go_at_call 17; refine (sx_rn z0 z1 Qu31 (f := ⟨spell l1, spell l1, true⟩) rfl).mono ?_; rintro e u32 ⟨rfl, H⟩; have Qu32 : Hid (Sx w u32 d m (some ⟨spell l1, spell l1, true⟩) none 2 a0 n0 l0 a1 n1 l1) := H.out; clear H Qu31)
      | (go_at_call 14; refine (sx_st z0 z1 Qu30 (f := ⟨spell l1, ⟨#[]⟩, false⟩) rfl).mono ?_; rintro e u31 ⟨rfl, H⟩; have Qu31 : Hid (Sx w u31 d m (some ⟨spell l0, spell l0, true⟩) (some ⟨spell l1, spell l1, true⟩) 2 a0 n0 l0 a1 n1 l1) := H.out; clear H Qu30)
      | (go_at_call 13; refine (sx_wt z0 z1 Qv4 k1 c1).mono ?_; rintro e u30 ⟨rfl, H⟩; have Qu30 : Hid (Sx w u30 d m (some ⟨spell l0, spell l0, true⟩) (some ⟨spell l1, ⟨#[]⟩, false⟩) 2 a0 n0 l0 a1 n1 l1) := H.out; clear H Qv4))
    rw [rounds_succ]
    go_wp2_with (first
      | (go_at_call 16; refine (sx_r z0 z1 Qu39 (f := ⟨spell l1, spell l1, true⟩) rfl (by rw [spell_size]; exact b1.out)).mono ?_; rintro e wz ⟨g, k', cz, rfl, H⟩
         have CV1 : (convert 32 9 (.slice (some ⟨g, 0, none⟩) k' cz)).run Tryd.prog wz = .ok (.string (spell l1)) wz := by
           have h := conv_n (k := cz) (show Hid (Sln wz (some ⟨g, 0, none⟩) k' (bytesOf (spell l1))) from H.out.1)
           rw [spell_bytesOf] at h
           exact h
         have CV2 : (convert 32 9 (.slice a1 n1 c1)).run Tryd.prog wz = .ok (.string (spell l1)) wz := conv_n (k := c1) (show Hid (Sln wz a1 n1 l1) from H.out.2.s1)
         have BE : ((spell l1).toList == (spell l1).toList) = true := by simp
         have FIN : Hid (Below w.heap.size w wz) := H.out.2.bel
         clear H Qu39)
      | (go_at_call 11; refine (sx_c z0 z1 Qu32).mono ?_; rintro e u39 ⟨rfl, H⟩; have Qu39 : Hid (Sx w u39 d m (some ⟨spell l1, spell l1, true⟩) none 512 a0 n0 l0 a1 n1 l1) := H.out; clear H Qu32)
      | (go_at_call 17; refine (sx_rn z0 z1 Qu31 (f := ⟨spell l1, spell l1, true⟩) rfl).mono ?_; rintro e u32 ⟨rfl, H⟩; have Qu32 : Hid (Sx w u32 d m (some ⟨spell l1, spell l1, true⟩) none 2 a0 n0 l0 a1 n1 l1) := H.out; clear H Qu31)
      | (go_at_call 14; refine (sx_st z0 z1 Qu30 (f := ⟨spell l1, ⟨#[]⟩, false⟩) rfl).mono ?_; rintro e u31 ⟨rfl, H⟩; have Qu31 : Hid (Sx w u31 d m (some ⟨spell l0, spell l0, true⟩) (some ⟨spell l1, spell l1, true⟩) 2 a0 n0 l0 a1 n1 l1) := H.out; clear H Qu30)
      | (go_at_call 13; refine (sx_wt z0 z1 Qv4 k1 c1).mono ?_; rintro e u30 ⟨rfl, H⟩; have Qu30 : Hid (Sx w u30 d m (some ⟨spell l0, spell l0, true⟩) (some ⟨spell l1, ⟨#[]⟩, false⟩) 2 a0 n0 l0 a1 n1 l1) := H.out; clear H Qv4))
    rw [rounds_succ]
    go_wp2_with (first
      | (go_at_call 16; refine (sx_r z0 z1 Qu39 (f := ⟨spell l1, spell l1, true⟩) rfl (by rw [spell_size]; exact b1.out)).mono ?_; rintro e wz ⟨g, k', cz, rfl, H⟩
         have CV1 : (convert 32 9 (.slice (some ⟨g, 0, none⟩) k' cz)).run Tryd.prog wz = .ok (.string (spell l1)) wz := by
           have h := conv_n (k := cz) (show Hid (Sln wz (some ⟨g, 0, none⟩) k' (bytesOf (spell l1))) from H.out.1)
           rw [spell_bytesOf] at h
           exact h
         have CV2 : (convert 32 9 (.slice a1 n1 c1)).run Tryd.prog wz = .ok (.string (spell l1)) wz := conv_n (k := c1) (show Hid (Sln wz a1 n1 l1) from H.out.2.s1)
         have BE : ((spell l1).toList == (spell l1).toList) = true := by simp
         have FIN : Hid (Below w.heap.size w wz) := H.out.2.bel
         clear H Qu39)
      | (go_at_call 11; refine (sx_c z0 z1 Qu32).mono ?_; rintro e u39 ⟨rfl, H⟩; have Qu39 : Hid (Sx w u39 d m (some ⟨spell l1, spell l1, true⟩) none 512 a0 n0 l0 a1 n1 l1) := H.out; clear H Qu32)
      | (go_at_call 17; refine (sx_rn z0 z1 Qu31 (f := ⟨spell l1, spell l1, true⟩) rfl).mono ?_; rintro e u32 ⟨rfl, H⟩; have Qu32 : Hid (Sx w u32 d m (some ⟨spell l1, spell l1, true⟩) none 2 a0 n0 l0 a1 n1 l1) := H.out; clear H Qu31)
      | (go_at_call 14; refine (sx_st z0 z1 Qu30 (f := ⟨spell l1, ⟨#[]⟩, false⟩) rfl).mono ?_; rintro e u31 ⟨rfl, H⟩; have Qu31 : Hid (Sx w u31 d m (some ⟨spell l0, spell l0, true⟩) (some ⟨spell l1, spell l1, true⟩) 2 a0 n0 l0 a1 n1 l1) := H.out; clear H Qu30)
      | (go_at_call 13; refine (sx_wt z0 z1 Qv4 k1 c1).mono ?_; rintro e u30 ⟨rfl, H⟩; have Qu30 : Hid (Sx w u30 d m (some ⟨spell l0, spell l0, true⟩) (some ⟨spell l1, ⟨#[]⟩, false⟩) 2 a0 n0 l0 a1 n1 l1) := H.out; clear H Qv4))
    rw [rounds_succ]
    go_wp2_with (first
      | (go_at_call 16; refine (sx_r z0 z1 Qu39 (f := ⟨spell l1, spell l1, true⟩) rfl (by rw [spell_size]; exact b1.out)).mono ?_; rintro e wz ⟨g, k', cz, rfl, H⟩
         have CV1 : (convert 32 9 (.slice (some ⟨g, 0, none⟩) k' cz)).run Tryd.prog wz = .ok (.string (spell l1)) wz := by
           have h := conv_n (k := cz) (show Hid (Sln wz (some ⟨g, 0, none⟩) k' (bytesOf (spell l1))) from H.out.1)
           rw [spell_bytesOf] at h
           exact h
         have CV2 : (convert 32 9 (.slice a1 n1 c1)).run Tryd.prog wz = .ok (.string (spell l1)) wz := conv_n (k := c1) (show Hid (Sln wz a1 n1 l1) from H.out.2.s1)
         have BE : ((spell l1).toList == (spell l1).toList) = true := by simp
         have FIN : Hid (Below w.heap.size w wz) := H.out.2.bel
         clear H Qu39)
      | (go_at_call 11; refine (sx_c z0 z1 Qu32).mono ?_; rintro e u39 ⟨rfl, H⟩; have Qu39 : Hid (Sx w u39 d m (some ⟨spell l1, spell l1, true⟩) none 512 a0 n0 l0 a1 n1 l1) := H.out; clear H Qu32)
      | (go_at_call 17; refine (sx_rn z0 z1 Qu31 (f := ⟨spell l1, spell l1, true⟩) rfl).mono ?_; rintro e u32 ⟨rfl, H⟩; have Qu32 : Hid (Sx w u32 d m (some ⟨spell l1, spell l1, true⟩) none 2 a0 n0 l0 a1 n1 l1) := H.out; clear H Qu31)
      | (go_at_call 14; refine (sx_st z0 z1 Qu30 (f := ⟨spell l1, ⟨#[]⟩, false⟩) rfl).mono ?_; rintro e u31 ⟨rfl, H⟩; have Qu31 : Hid (Sx w u31 d m (some ⟨spell l0, spell l0, true⟩) (some ⟨spell l1, spell l1, true⟩) 2 a0 n0 l0 a1 n1 l1) := H.out; clear H Qu30)
      | (go_at_call 13; refine (sx_wt z0 z1 Qv4 k1 c1).mono ?_; rintro e u30 ⟨rfl, H⟩; have Qu30 : Hid (Sx w u30 d m (some ⟨spell l0, spell l0, true⟩) (some ⟨spell l1, ⟨#[]⟩, false⟩) 2 a0 n0 l0 a1 n1 l1) := H.out; clear H Qv4))
    go_ret
    exact ⟨rfl, FIN.out⟩
end Go.Proofs.YtdoenacobmebpaaDoor
