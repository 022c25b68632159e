/- How long the body should be. -/
import Derived.Test.YtemhhlongfabmaaGreatDoorHe
import Derived.Test.YtemhhlongfabmaaGreatDoorVs
namespace Go.Proofs.YtemhhlongfabmaaGreatDoor
open Go.ChangeShapes Go.WideShapes Go.ChangeAt Go.RowKit
set_option maxRecDepth 20000
set_option linter.unusedVariables false
set_option linter.unusedSimpArgs false
def cod : ByteArray := ⟨#[116, 114, 97, 110, 115, 102, 101, 114, 45, 101, 110, 99, 111, 100, 105, 110, 103]⟩
def cln : ByteArray := ⟨#[99, 111, 110, 116, 101, 110, 116, 45, 108, 101, 110, 103, 116, 104]⟩
def bszO : Option ByteArray → Nat × Option Nat
  | none => (0, none)
  | some t => if okD t then (if 1024 < numB t t.size then (0, some 0) else (numB t t.size, none)) else (0, some 12)
def bsz (l : List Fl) : Nat × Option Nat :=
  if 0 < cntF l cod then (0, some 12) else if 1 < cntF l cln then (0, some 12) else bszO (fst? l cln)
def errV (E : Nat → Addr) : Option Nat → Value
  | none => .nilIface
  | some g => er (E g)
theorem fst_mem {nm v : ByteArray} : ∀ {l : List Fl}, fst? l nm = some v → ∃ i, i < l.length ∧ (l.getD i fz).2 = v
  | [], h => by simp [fst?] at h
  | f :: r, h => by
    unfold fst? at h
    split at h
    · exact ⟨0, by simp, by simpa using h⟩
    · obtain ⟨i, h1, h2⟩ := fst_mem h
      exact ⟨i + 1, by simpa using h1, by simpa using h2⟩
set_option maxHeartbeats 2000000 in
theorem bodySize_n {m t : ByteArray} {a : Option Addr} {n c : Nat} {B : Value} {l : List Fl} {w : World} {M : Nat → Prop} {E : Nat → Addr} (hF : Hid (Fw w a n l)) (hE : Hid (Sent w M E)) (M0 : M 0) (M12 : M 12) :
    Calls Tryz.prog 46 #[.agg #[.string m, .string t, .slice a n c, B]] w fun e w' => e = .returned (.tuple #[.int .i64 ((bsz l).1 : Nat), errV E (bsz l).2]) ∧ Hid (Below w.heap.size w w') := by
  obtain ⟨wa, HA⟩ : ∃ wa, Hid (w.alloc (.cells #[.string m, .string t, .slice a n c, B] 27) = wa) := ⟨_, rfl⟩
  have BA : Hid (Bx w wa w.heap.size 27 #[.string m, .string t, .slice a n c, B]) := by rw [← HA.out]; exact Bx.new w w 27 _ (Below.refl _ _)
  have FA : Hid (Fw wa a n l) := hF.out.below (by rw [← HA.out]; exact alloc1 _ _)
  have EA : Hid (Sent wa M E) := hE.out.below (by rw [← HA.out]; exact alloc1 _ _)
  obtain ⟨k1, H1⟩ : ∃ k, Hid (cntF l cod = k) := ⟨_, rfl⟩
  obtain ⟨k2, H2⟩ : ∃ k, Hid (cntF l cln = k) := ⟨_, rfl⟩
  have C1 : Hid (∀ {w : World}, Hid (Fw w a n l) → Calls Tryz.prog 18 #[.agg #[.string m, .string t, .slice a n c, B], .string { data := #[116, 114, 97, 110, 115, 102, 101, 114, 45, 101, 110, 99, 111, 100, 105, 110, 103] }] w fun e w' => e = .returned (.int .i64 (k1 : Nat)) ∧ Hid (Below w.heap.size w w')) := fun h => by
    have := count_n (m := m) (t := t) (nm := cod) (c := c) (B := B) h
    rw [H1.out] at this
    exact this
  have C2 : Hid (∀ {w : World}, Hid (Fw w a n l) → Calls Tryz.prog 18 #[.agg #[.string m, .string t, .slice a n c, B], .string { data := #[99, 111, 110, 116, 101, 110, 116, 45, 108, 101, 110, 103, 116, 104] }] w fun e w' => e = .returned (.int .i64 (k2 : Nat)) ∧ Hid (Below w.heap.size w w')) := fun h => by
    have := count_n (m := m) (t := t) (nm := cln) (c := c) (B := B) h
    rw [H2.out] at this
    exact this
  by_cases h1 : 0 < k1
  · have EV : Hid (bsz l = (0, some 12)) := (by unfold bsz; rw [H1.out, if_pos h1] : bsz l = (0, some 12))
    have i1 : (0 : Int) < (k1 : Int) := by omega
    clear h1
    go_enter Tryz.func46, Tryz.ntmps46
    go_wp2_with (first
        | (go_at_call 18; rw [HA.out]; refine (C1.out FA).mono ?_; rintro e w1 ⟨rfl, B1⟩
           have F1 : Hid (Fw w1 a n l) := FA.out.below B1.out
           have E1 : Hid (Sent w1 M E) := EA.out.below B1.out
           have K1 : Hid (Bx w w1 w.heap.size 27 #[.string m, .string t, .slice a n c, B]) := BA.out.below B1.out
           have G1 : w1.cell? ⟨12, 0, none⟩ = some (er (E 12)) := E1.out.c 12 M12))
    go_quiet (fail)
    go_wp2
    go_ret2
    rw [EV.out]
    exact ⟨rfl, below_drewN K1.out.bel _⟩
  · have i1 : ¬ ((0 : Int) < (k1 : Int)) := by omega
    by_cases h2 : 1 < k2
    · have EV : Hid (bsz l = (0, some 12)) := (by unfold bsz; rw [H1.out, if_neg h1, H2.out, if_pos h2] : bsz l = (0, some 12))
      have i2 : (1 : Int) < (k2 : Int) := by omega
      clear h1 h2
      go_enter Tryz.func46, Tryz.ntmps46
      go_wp2_with (first
          | (go_at_call 18; rw [HA.out]; refine (C1.out FA).mono ?_; rintro e w1 ⟨rfl, B1⟩
             have F1 : Hid (Fw w1 a n l) := FA.out.below B1.out
             have E1 : Hid (Sent w1 M E) := EA.out.below B1.out
             have K1 : Hid (Bx w w1 w.heap.size 27 #[.string m, .string t, .slice a n c, B]) := BA.out.below B1.out
             have r0 : w1.cell? ⟨w.heap.size, 0, none⟩ = some (.string m) := by simp [World.cell?, K1.out.row]
             have r1 : w1.cell? ⟨w.heap.size, 1, none⟩ = some (.string t) := by simp [World.cell?, K1.out.row]
             have r2 : w1.cell? ⟨w.heap.size, 2, none⟩ = some (.slice a n c) := by simp [World.cell?, K1.out.row]
             have r3 : w1.cell? ⟨w.heap.size, 3, none⟩ = some B := by simp [World.cell?, K1.out.row])
          | (go_at_call 18; refine (C2.out F1).mono ?_; rintro e w2 ⟨rfl, B2⟩
             have F2 : Hid (Fw w2 a n l) := F1.out.below B2.out
             have E2 : Hid (Sent w2 M E) := E1.out.below B2.out
             have K2 : Hid (Bx w w2 w.heap.size 27 #[.string m, .string t, .slice a n c, B]) := K1.out.below B2.out
             have G2 : w2.cell? ⟨12, 0, none⟩ = some (er (E 12)) := E2.out.c 12 M12))
      go_quiet (fail)
      go_wp2
      go_ret2
      rw [EV.out]
      exact ⟨rfl, below_drewN K2.out.bel _⟩
    · have i2 : ¬ ((1 : Int) < (k2 : Int)) := by omega
      obtain ⟨o, HO⟩ : ∃ o, Hid (fst? l cln = o) := ⟨_, rfl⟩
      have EV0 : Hid (bsz l = bszO o) := (by unfold bsz; rw [H1.out, if_neg h1, H2.out, if_neg h2, HO.out] : bsz l = bszO o)
      clear h1 h2
      cases o with
      | none =>
        have EV : Hid (bsz l = (0, none)) := EV0.out
        have C3 : Hid (∀ {w : World}, Hid (Fw w a n l) → Calls Tryz.prog 17 #[.agg #[.string m, .string t, .slice a n c, B], .string { data := #[99, 111, 110, 116, 101, 110, 116, 45, 108, 101, 110, 103, 116, 104] }] w fun e w' => e = .returned (.tuple #[.string ⟨#[]⟩, .bool false]) ∧ Hid (Below w.heap.size w w')) := fun h => by
          have := field_n (m := m) (t := t) (nm := cln) (c := c) (B := B) h
          rw [HO.out] at this
          exact this
        go_enter Tryz.func46, Tryz.ntmps46
        go_wp2_with (first
            | (go_at_call 18; rw [HA.out]; refine (C1.out FA).mono ?_; rintro e w1 ⟨rfl, B1⟩
               have F1 : Hid (Fw w1 a n l) := FA.out.below B1.out
               have E1 : Hid (Sent w1 M E) := EA.out.below B1.out
               have K1 : Hid (Bx w w1 w.heap.size 27 #[.string m, .string t, .slice a n c, B]) := BA.out.below B1.out
               have r0 : w1.cell? ⟨w.heap.size, 0, none⟩ = some (.string m) := by simp [World.cell?, K1.out.row]
               have r1 : w1.cell? ⟨w.heap.size, 1, none⟩ = some (.string t) := by simp [World.cell?, K1.out.row]
               have r2 : w1.cell? ⟨w.heap.size, 2, none⟩ = some (.slice a n c) := by simp [World.cell?, K1.out.row]
               have r3 : w1.cell? ⟨w.heap.size, 3, none⟩ = some B := by simp [World.cell?, K1.out.row])
            | (go_at_call 18; refine (C2.out F1).mono ?_; rintro e w2 ⟨rfl, B2⟩
               have F2 : Hid (Fw w2 a n l) := F1.out.below B2.out
               have E2 : Hid (Sent w2 M E) := E1.out.below B2.out
               have K2 : Hid (Bx w w2 w.heap.size 27 #[.string m, .string t, .slice a n c, B]) := K1.out.below B2.out
               have r0 : w2.cell? ⟨w.heap.size, 0, none⟩ = some (.string m) := by simp [World.cell?, K2.out.row]
               have r1 : w2.cell? ⟨w.heap.size, 1, none⟩ = some (.string t) := by simp [World.cell?, K2.out.row]
               have r2 : w2.cell? ⟨w.heap.size, 2, none⟩ = some (.slice a n c) := by simp [World.cell?, K2.out.row]
               have r3 : w2.cell? ⟨w.heap.size, 3, none⟩ = some B := by simp [World.cell?, K2.out.row])
            | (go_at_call 17; refine (C3.out F2).mono ?_; rintro e w3 ⟨rfl, B3⟩
               have E3 : Hid (Sent w3 M E) := E2.out.below B3.out
               have K3 : Hid (Bx w w3 w.heap.size 27 #[.string m, .string t, .slice a n c, B]) := K2.out.below B3.out))
        go_ret2
        rw [EV.out]
        exact ⟨rfl, K3.out.bel⟩
      | some v =>
        have zv : v.size ≤ 281474976710656 := by
          obtain ⟨i, h3, h4⟩ := fst_mem HO.out
          have := hF.out.vs i (by rw [hF.out.len]; exact h3)
          rw [h4] at this
          omega
        have C3 : Hid (∀ {w : World}, Hid (Fw w a n l) → Calls Tryz.prog 17 #[.agg #[.string m, .string t, .slice a n c, B], .string { data := #[99, 111, 110, 116, 101, 110, 116, 45, 108, 101, 110, 103, 116, 104] }] w fun e w' => e = .returned (.tuple #[.string v, .bool true]) ∧ Hid (Below w.heap.size w w')) := fun h => by
          have := field_n (m := m) (t := t) (nm := cln) (c := c) (B := B) h
          rw [HO.out] at this
          exact this
        rcases Bool.eq_false_or_eq_true (okD v) with h5 | h5
        · have OK : Hid (okD v = true) := h5
          clear h5
          obtain ⟨z, HZ⟩ : ∃ z, Hid (numB v v.size = z) := ⟨_, rfl⟩
          have C4 : Hid (∀ w, Calls Tryz.prog 59 #[.string v] w fun e w' => e = .returned (.tuple #[.int .i64 (z : Nat), .bool true]) ∧ w' = w) := fun w => by
            have := number_yes v OK w
            rw [HZ.out] at this
            exact this
          by_cases h6 : 1024 < z
          · have EV : Hid (bsz l = (0, some 0)) := (by rw [EV0.out]; unfold bszO; dsimp only; rw [if_pos OK.out, HZ.out, if_pos h6] : bsz l = (0, some 0))
            have i3 : (1024 : Int) < (z : Int) := by omega
            clear h6 EV0
            go_enter Tryz.func46, Tryz.ntmps46
            go_wp2_with (first
                | (go_at_call 18; rw [HA.out]; refine (C1.out FA).mono ?_; rintro e w1 ⟨rfl, B1⟩
                   have F1 : Hid (Fw w1 a n l) := FA.out.below B1.out
                   have E1 : Hid (Sent w1 M E) := EA.out.below B1.out
                   have K1 : Hid (Bx w w1 w.heap.size 27 #[.string m, .string t, .slice a n c, B]) := BA.out.below B1.out
                   have r0 : w1.cell? ⟨w.heap.size, 0, none⟩ = some (.string m) := by simp [World.cell?, K1.out.row]
                   have r1 : w1.cell? ⟨w.heap.size, 1, none⟩ = some (.string t) := by simp [World.cell?, K1.out.row]
                   have r2 : w1.cell? ⟨w.heap.size, 2, none⟩ = some (.slice a n c) := by simp [World.cell?, K1.out.row]
                   have r3 : w1.cell? ⟨w.heap.size, 3, none⟩ = some B := by simp [World.cell?, K1.out.row])
                | (go_at_call 18; refine (C2.out F1).mono ?_; rintro e w2 ⟨rfl, B2⟩
                   have F2 : Hid (Fw w2 a n l) := F1.out.below B2.out
                   have E2 : Hid (Sent w2 M E) := E1.out.below B2.out
                   have K2 : Hid (Bx w w2 w.heap.size 27 #[.string m, .string t, .slice a n c, B]) := K1.out.below B2.out
                   have r0 : w2.cell? ⟨w.heap.size, 0, none⟩ = some (.string m) := by simp [World.cell?, K2.out.row]
                   have r1 : w2.cell? ⟨w.heap.size, 1, none⟩ = some (.string t) := by simp [World.cell?, K2.out.row]
                   have r2 : w2.cell? ⟨w.heap.size, 2, none⟩ = some (.slice a n c) := by simp [World.cell?, K2.out.row]
                   have r3 : w2.cell? ⟨w.heap.size, 3, none⟩ = some B := by simp [World.cell?, K2.out.row])
                | (go_at_call 17; refine (C3.out F2).mono ?_; rintro e w3 ⟨rfl, B3⟩
                   have E3 : Hid (Sent w3 M E) := E2.out.below B3.out
                   have K3 : Hid (Bx w w3 w.heap.size 27 #[.string m, .string t, .slice a n c, B]) := K2.out.below B3.out
                   have G3 : w3.cell? ⟨0, 0, none⟩ = some (er (E 0)) := E3.out.c 0 M0)
                | (go_at_call 59; refine (C4.out _).mono ?_; rintro e w4 ⟨rfl, h4⟩; rw [h4]; clear h4))
            go_quiet (fail)
            go_wp2
            go_ret2
            rw [EV.out]
            exact ⟨rfl, below_drewN K3.out.bel _⟩
          · have EV : Hid (bsz l = (z, none)) := (by rw [EV0.out]; unfold bszO; dsimp only; rw [if_pos OK.out, HZ.out, if_neg h6] : bsz l = (z, none))
            have i3 : ¬ ((1024 : Int) < (z : Int)) := by omega
            clear h6 EV0
            go_enter Tryz.func46, Tryz.ntmps46
            go_wp2_with (first
                | (go_at_call 18; rw [HA.out]; refine (C1.out FA).mono ?_; rintro e w1 ⟨rfl, B1⟩
                   have F1 : Hid (Fw w1 a n l) := FA.out.below B1.out
                   have E1 : Hid (Sent w1 M E) := EA.out.below B1.out
                   have K1 : Hid (Bx w w1 w.heap.size 27 #[.string m, .string t, .slice a n c, B]) := BA.out.below B1.out
                   have r0 : w1.cell? ⟨w.heap.size, 0, none⟩ = some (.string m) := by simp [World.cell?, K1.out.row]
                   have r1 : w1.cell? ⟨w.heap.size, 1, none⟩ = some (.string t) := by simp [World.cell?, K1.out.row]
                   have r2 : w1.cell? ⟨w.heap.size, 2, none⟩ = some (.slice a n c) := by simp [World.cell?, K1.out.row]
                   have r3 : w1.cell? ⟨w.heap.size, 3, none⟩ = some B := by simp [World.cell?, K1.out.row])
                | (go_at_call 18; refine (C2.out F1).mono ?_; rintro e w2 ⟨rfl, B2⟩
                   have F2 : Hid (Fw w2 a n l) := F1.out.below B2.out
                   have E2 : Hid (Sent w2 M E) := E1.out.below B2.out
                   have K2 : Hid (Bx w w2 w.heap.size 27 #[.string m, .string t, .slice a n c, B]) := K1.out.below B2.out
                   have r0 : w2.cell? ⟨w.heap.size, 0, none⟩ = some (.string m) := by simp [World.cell?, K2.out.row]
                   have r1 : w2.cell? ⟨w.heap.size, 1, none⟩ = some (.string t) := by simp [World.cell?, K2.out.row]
                   have r2 : w2.cell? ⟨w.heap.size, 2, none⟩ = some (.slice a n c) := by simp [World.cell?, K2.out.row]
                   have r3 : w2.cell? ⟨w.heap.size, 3, none⟩ = some B := by simp [World.cell?, K2.out.row])
                | (go_at_call 17; refine (C3.out F2).mono ?_; rintro e w3 ⟨rfl, B3⟩
                   have E3 : Hid (Sent w3 M E) := E2.out.below B3.out
                   have K3 : Hid (Bx w w3 w.heap.size 27 #[.string m, .string t, .slice a n c, B]) := K2.out.below B3.out)
                | (go_at_call 59; refine (C4.out _).mono ?_; rintro e w4 ⟨rfl, h4⟩; rw [h4]; clear h4))
            go_ret2
            rw [EV.out]
            exact ⟨rfl, K3.out.bel⟩
        · have OK : Hid (okD v = false) := h5
          have EV : Hid (bsz l = (0, some 12)) := (by rw [EV0.out]; unfold bszO; dsimp only; rw [if_neg (by rw [h5]; decide)] : bsz l = (0, some 12))
          clear h5 EV0
          go_enter Tryz.func46, Tryz.ntmps46
          go_wp2_with (first
              | (go_at_call 18; rw [HA.out]; refine (C1.out FA).mono ?_; rintro e w1 ⟨rfl, B1⟩
                 have F1 : Hid (Fw w1 a n l) := FA.out.below B1.out
                 have E1 : Hid (Sent w1 M E) := EA.out.below B1.out
                 have K1 : Hid (Bx w w1 w.heap.size 27 #[.string m, .string t, .slice a n c, B]) := BA.out.below B1.out
                 have r0 : w1.cell? ⟨w.heap.size, 0, none⟩ = some (.string m) := by simp [World.cell?, K1.out.row]
                 have r1 : w1.cell? ⟨w.heap.size, 1, none⟩ = some (.string t) := by simp [World.cell?, K1.out.row]
                 have r2 : w1.cell? ⟨w.heap.size, 2, none⟩ = some (.slice a n c) := by simp [World.cell?, K1.out.row]
                 have r3 : w1.cell? ⟨w.heap.size, 3, none⟩ = some B := by simp [World.cell?, K1.out.row])
              | (go_at_call 18; refine (C2.out F1).mono ?_; rintro e w2 ⟨rfl, B2⟩
                 have F2 : Hid (Fw w2 a n l) := F1.out.below B2.out
                 have E2 : Hid (Sent w2 M E) := E1.out.below B2.out
                 have K2 : Hid (Bx w w2 w.heap.size 27 #[.string m, .string t, .slice a n c, B]) := K1.out.below B2.out
                 have r0 : w2.cell? ⟨w.heap.size, 0, none⟩ = some (.string m) := by simp [World.cell?, K2.out.row]
                 have r1 : w2.cell? ⟨w.heap.size, 1, none⟩ = some (.string t) := by simp [World.cell?, K2.out.row]
                 have r2 : w2.cell? ⟨w.heap.size, 2, none⟩ = some (.slice a n c) := by simp [World.cell?, K2.out.row]
                 have r3 : w2.cell? ⟨w.heap.size, 3, none⟩ = some B := by simp [World.cell?, K2.out.row])
              | (go_at_call 17; refine (C3.out F2).mono ?_; rintro e w3 ⟨rfl, B3⟩
                 have E3 : Hid (Sent w3 M E) := E2.out.below B3.out
                 have K3 : Hid (Bx w w3 w.heap.size 27 #[.string m, .string t, .slice a n c, B]) := K2.out.below B3.out
                 have G3 : w3.cell? ⟨12, 0, none⟩ = some (er (E 12)) := E3.out.c 12 M12)
              | (go_at_call 59; refine (number_no v zv OK _).mono ?_; rintro e w4 ⟨rfl, h4⟩; rw [h4]; clear h4))
          go_quiet (fail)
          go_wp2
          go_ret2
          rw [EV.out]
          exact ⟨rfl, below_drewN K3.out.bel _⟩
end Go.Proofs.YtemhhlongfabmaaGreatDoor
