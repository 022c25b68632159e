/- The document's Decimal and Signed. -/
import Derived.Test.YtemhhlongfabmaaGreatDoorHv
namespace Go.Proofs.YtemhhlongfabmaaGreatDoor
open Go.ChangeShapes Go.WideShapes Go.ChangeAt Go.RowKit
set_option maxRecDepth 20000
set_option linter.unusedVariables false
set_option linter.unusedSimpArgs false
def dcN (u : Nat) : List Nat := (Lib.decDigits u).map UInt8.toNat
def dcR (u : Nat) : List Nat := if u = 0 then [] else dcN u
theorem dcN_step (u : Nat) : dcN u = dcR (u / 10) ++ [48 + u % 10] := by
  have hd : ∀ k, k < 10 → (UInt8.ofNat (48 + k)).toNat = 48 + k := by decide
  unfold dcR dcN
  rw [Lib.decDigits]
  split
  · rename_i h
    rw [if_pos (by omega)]
    simp only [List.map_cons, List.map_nil, List.nil_append]
    rw [hd u h, Nat.mod_eq_of_lt h]
  · rw [if_neg (by omega), List.map_append]
    simp only [List.map_cons, List.map_nil]
    rw [hd _ (by omega)]
theorem dcN_lt (u : Nat) : ∀ x ∈ dcN u, x < 256 := fun x hx => by
  obtain ⟨y, _, rfl⟩ := List.mem_map.1 hx
  exact UInt8.toNat_lt y
theorem spell_dcN (u : Nat) : spell (dcN u) = ⟨(Lib.decDigits u).toArray⟩ := by
  have h := spell_bo (⟨(Lib.decDigits u).toArray⟩ : ByteArray)
  have e : bo (⟨(Lib.decDigits u).toArray⟩ : ByteArray) = dcN u := by simp [bo, dcN]
  rw [e] at h
  exact h
theorem dcN_len (u : Nat) (h : u ≤ 9223372036854775808) : (dcN u).length ≤ 19 := by
  unfold dcN
  rw [List.length_map]
  exact dec_len u 19 (by omega) (by omega)
theorem spell_nil : ((spell []).toList == []) = true := by
  rw [ByteArray.toList_eq, spell_data]
  rfl
theorem spell_sz (L : List Nat) : (spell L).size = L.length := by
  rw [Lib.size_eq, spell_data]
  simp
theorem spell_cons (x : Nat) (L : List Nat) : ((spell (x :: L)).toList == []) = false := by
  rw [ByteArray.toList_eq, spell_data]
  rfl
theorem spell_app (a b : List Nat) : spell (a ++ b) = spell a ++ spell b := by
  apply ByteArray.ext
  apply Array.toList_inj.1
  rw [spell_data]
  simp [ByteArray.data_append, spell_data]
theorem one_conv {w w' : World} {d : Nat} (hd : d < 256) (hw : Hid (w.alloc (.cells #[.int .u8 (d : Int)] 5) = w')) : Sln w' (some ⟨w.heap.size, 0, none⟩) 1 [d] := by
  refine ⟨rfl, fun x hx => ?_, by simp, .inr ⟨w.heap.size, 0, rfl, by rw [← hw.out]; simp, fun i hi => ?_⟩⟩
  · rw [List.mem_singleton] at hx; omega
  · obtain rfl : i = 0 := by simpa using hi
    rw [← hw.out]
    simp
theorem itS_pos (u : Nat) : itS (u : Int) = spell (dcN u) := by
  unfold itS
  rw [Lib.itoa_nonneg, spell_dcN]
theorem itS_neg (u : Nat) (h : 1 ≤ u) : itS (-(u : Int)) = ⟨#[45]⟩ ++ spell (dcN u) := by
  unfold itS
  rw [Lib.itoa_neg u h, spell_dcN]
  rfl
set_option maxHeartbeats 2000000 in
theorem decimal_n (u : Nat) (hu : u ≤ 9223372036854775807) (w : World) : Calls Tryz.prog 37 #[.int .i64 (u : Int)] w fun e w' => e = .returned (.string (itS (u : Int))) ∧ Hid (Below w.heap.size w w') := by
  go_enter Tryz.func37, Tryz.ntmps37
  go_wp2
  go_loopw [0, 3] (fun tn ts wr => ∃ (m : Nat) (L : List Nat), m ≤ 9223372036854775807 ∧ L.length ≤ 20 ∧ tn = .int .i64 (m : Int) ∧ ts = .string (spell L) ∧ Hid ((L = [] ∧ m = u) ∨ (L ≠ [] ∧ dcN u = dcR m ++ L)) ∧ Hid (Below w.heap.size w wr)) (fun tn ts _ => (intOf tn).toNat + (match ts with | .string s => if s.size = 0 then 1 else 0 | _ => 0))
  case atStart => exact ⟨u, [], hu, by simp, rfl, rfl, .inl ⟨rfl, rfl⟩, Below.refl _ _⟩
  case round =>
    obtain ⟨m, L, hm, hL, rfl, rfl, HL, HB⟩ := hrel
    have hr : (m : Int).tmod 10 = ((m % 10 : Nat) : Int) := by rw [Int.tmod_eq_emod_of_nonneg (by omega)]; omega
    have hq : (m : Int).tdiv 10 = ((m / 10 : Nat) : Int) := by rw [Int.tdiv_eq_ediv_of_nonneg (by omega)]; omega
    obtain ⟨r, R⟩ : ∃ r, Hid (m % 10 = r) := ⟨_, rfl⟩
    obtain ⟨q, Q⟩ : ∃ r, Hid (m / 10 = r) := ⟨_, rfl⟩
    have r9 : r ≤ 9 := by rw [← R.out]; omega
    have q9 : q ≤ m := by rw [← Q.out]; omega
    rw [R.out] at hr
    rw [Q.out] at hq
    rcases HL.out with he | ⟨hne, he⟩
    · have HE : Hid (L = [] ∧ m = u) := he
      clear he
      have hl : ((spell L).toList == []) = true := by rw [HE.out.1]; exact spell_nil
      have NX : Hid (dcN u = dcR q ++ (48 + r) :: L) := by
        have h := dcN_step m
        rw [R.out, Q.out, HE.out.2] at h
        rw [HE.out.1]
        exact h
      have LE : Hid (L.length + 1 ≤ 20) := by rw [HE.out.1]; exact (by decide : ([] : List Nat).length + 1 ≤ 20)
      obtain ⟨wa, HA⟩ : ∃ wa, Hid (wr.alloc (.cells #[.int .u8 (48 + (r : Int))] 5) = wa) := ⟨_, rfl⟩
      have BA : Hid (Below w.heap.size w wa) := by rw [← HA.out]; exact HB.out.alloc HB.out.size _
      have SA : Hid (Sln wa (some ⟨wr.heap.size, 0, none⟩) 1 [48 + r]) := one_conv (w := wr) (by omega) (by rw [show ((48 + r : Nat) : Int) = 48 + (r : Int) by omega]; exact HA)
      have CV := conv_n (k := 1) SA
      have AD : ∀ W, (Op.stringOp .add (spell [48 + r]) (spell L)).run Tryz.prog W = .ok (.string (spell ((48 + r) :: L))) W := fun W => by
        have h := addS (spell [48 + r]) (spell L) (by rw [spell_sz, spell_sz]; simp; omega) W
        rw [← spell_app] at h
        exact h
      have z1 : (spell ((48 + r) :: L)).size = L.length + 1 := by rw [spell_sz]; rfl
      go_wp2_with (rw [HA.out])
      go_roundw
      case rel => exact ⟨q, (48 + r) :: L, by omega, by rw [List.length_cons]; exact LE.out, by go_num, rfl, .inr ⟨by simp, NX.out⟩, BA.out⟩
      case measure => (simp [intOf, z1]; rw [HE.out.1]; have := Q.out; exact (by omega : q < m + 1))
    · obtain ⟨y, L', rfl⟩ : ∃ y L', L = y :: L' := by cases L with | nil => exact absurd rfl hne | cons y t => exact ⟨y, t, rfl⟩
      have hl := spell_cons y L'
      by_cases m0 : m = 0
      · subst m0
        have EV : Hid (itS (u : Int) = spell (y :: L')) := by
          have h : dcN u = y :: L' := he
          rw [itS_pos, h]
          exact rfl
        go_wp2
        go_ret
        rw [EV.out]
        exact ⟨rfl, HB.out⟩
      obtain ⟨L, HLL⟩ : ∃ L, y :: L' = L := ⟨_, rfl⟩
      rw [HLL] at hl he hL ⊢
      have m1 : (0 : Int) < (m : Int) := by omega
      have NX : Hid (dcN u = dcR q ++ (48 + r) :: L) := by
        have h := dcN_step m
        rw [R.out, Q.out] at h
        have e : dcR m = dcN m := by unfold dcR; rw [if_neg m0]
        rw [he, e, h, List.append_assoc]
        exact rfl
      have LE : Hid (L.length + 1 ≤ 20) := by
        have h1 := dcN_len u (by omega)
        have h2 := congrArg List.length NX.out
        simp only [List.length_append, List.length_cons] at h2
        exact (by omega : L.length + 1 ≤ 20)
      obtain ⟨wa, HA⟩ : ∃ wa, Hid (wr.alloc (.cells #[.int .u8 (48 + (r : Int))] 5) = wa) := ⟨_, rfl⟩
      have BA : Hid (Below w.heap.size w wa) := by rw [← HA.out]; exact HB.out.alloc HB.out.size _
      have SA : Hid (Sln wa (some ⟨wr.heap.size, 0, none⟩) 1 [48 + r]) := one_conv (w := wr) (by omega) (by rw [show ((48 + r : Nat) : Int) = 48 + (r : Int) by omega]; exact HA)
      have CV := conv_n (k := 1) SA
      have AD : ∀ W, (Op.stringOp .add (spell [48 + r]) (spell L)).run Tryz.prog W = .ok (.string (spell ((48 + r) :: L))) W := fun W => by
        have h := addS (spell [48 + r]) (spell L) (by rw [spell_sz, spell_sz]; simp; omega) W
        rw [← spell_app] at h
        exact h
      have z1 : (spell ((48 + r) :: L)).size = L.length + 1 := by rw [spell_sz]; rfl
      go_wp2_with (rw [HA.out])
      go_roundw
      case rel => exact ⟨q, (48 + r) :: L, by omega, by rw [List.length_cons]; exact LE.out, by go_num, rfl, .inr ⟨by simp, NX.out⟩, BA.out⟩
      case measure => (simp [intOf, z1]; have h := Q.out; exact Nat.lt_of_lt_of_le (by omega : q < m) (Nat.le_add_right _ _))
set_option maxHeartbeats 2000000 in
theorem signed_n (st : Int) (h0 : -9223372036854775808 ≤ st) (h1 : st ≤ 9223372036854775807) (w : World) : Calls Tryz.prog 36 #[.int .i64 st] w fun e w' => e = .returned (.string (itS st)) ∧ Hid (Below w.heap.size w w') := by
  by_cases hp : 0 ≤ st
  · obtain ⟨u, rfl⟩ : ∃ u : Nat, st = (u : Int) := ⟨st.toNat, by omega⟩
    have D : Hid (∀ w, Calls Tryz.prog 37 #[.int .i64 (u : Int)] w fun e w' => e = .returned (.string (itS (u : Int))) ∧ Hid (Below w.heap.size w w')) := fun w => decimal_n u (by omega) w
    obtain ⟨s, HS⟩ : ∃ s, Hid (itS (u : Int) = s) := ⟨_, rfl⟩
    rw [HS.out] at D ⊢
    go_enter Tryz.func36, Tryz.ntmps36
    go_wp2_with (go_at_call 37; refine (D.out _).mono ?_; rintro e w1 ⟨rfl, D1⟩)
    go_ret
    exact ⟨rfl, D1.out⟩
  · obtain ⟨u, rfl⟩ : ∃ u : Nat, st = -(u : Int) := ⟨st.natAbs, by omega⟩
    have u1 : 1 ≤ u := by omega
    obtain ⟨IS, HS⟩ : ∃ s, Hid (itS (-(u : Int)) = s) := ⟨_, rfl⟩
    rw [HS.out]
    go_enter Tryz.func36, Tryz.ntmps36
    go_wp2
    go_loopw [0, 3] (fun tn ts wr => ∃ (m : Nat) (L : List Nat), m ≤ 9223372036854775808 ∧ L.length ≤ 20 ∧ tn = .int .i64 (-(m : Int)) ∧ ts = .string (spell L) ∧ Hid (dcN u = dcR m ++ L) ∧ Hid (Below w.heap.size w wr)) (fun tn ts _ => (intOf tn).natAbs)
    case atStart => exact ⟨u, [], by omega, by simp, rfl, rfl, (by unfold dcR; rw [if_neg (by omega), List.append_nil] : dcN u = dcR u ++ []), Below.refl _ _⟩
    case round =>
      obtain ⟨m, L, hm, hL, rfl, rfl, HL, HB⟩ := hrel
      by_cases m0 : m = 0
      · subst m0
        have EV : Hid (IS = { data := #[45] } ++ spell L) := by
          have h : dcN u = L := HL.out
          rw [← HS.out, itS_neg u u1, h]
          exact rfl
        have AD : ∀ W, (Op.stringOp .add { data := #[45] } (spell L)).run Tryz.prog W = .ok (.string ({ data := #[45] } ++ spell L)) W := fun W => addS _ _ (by rw [spell_sz]; exact (by omega : 1 + L.length ≤ 9223372036854775807)) W
        go_wp2
        go_ret
        rw [EV.out]
        exact ⟨rfl, HB.out⟩
      have hr : (m : Int).tmod 10 = ((m % 10 : Nat) : Int) := by rw [Int.tmod_eq_emod_of_nonneg (by omega)]; omega
      have hq : (m : Int).tdiv 10 = ((m / 10 : Nat) : Int) := by rw [Int.tdiv_eq_ediv_of_nonneg (by omega)]; omega
      obtain ⟨r, R⟩ : ∃ r, Hid (m % 10 = r) := ⟨_, rfl⟩
      obtain ⟨q, Q⟩ : ∃ r, Hid (m / 10 = r) := ⟨_, rfl⟩
      have r9 : r ≤ 9 := by rw [← R.out]; omega
      have q9 : q < m := by rw [← Q.out]; omega
      rw [R.out] at hr
      rw [Q.out] at hq
      have hr2 : (-(m : Int)).tmod 10 = -(r : Int) := by rw [Int.neg_tmod, hr]
      have hq2 : (-(m : Int)).tdiv 10 = -(q : Int) := by rw [Int.neg_tdiv, hq]
      have m1 : ¬ (m : Int) = 0 := by omega
      have NX : Hid (dcN u = dcR q ++ (48 + r) :: L) := by
        have h := dcN_step m
        rw [R.out, Q.out] at h
        have e : dcR m = dcN m := by unfold dcR; rw [if_neg m0]
        rw [HL.out, e, h, List.append_assoc]
        exact rfl
      have LE : Hid (L.length + 1 ≤ 20) := by
        have h1 := dcN_len u (by omega)
        have h2 := congrArg List.length NX.out
        simp only [List.length_append, List.length_cons] at h2
        exact (by omega : L.length + 1 ≤ 20)
      obtain ⟨wa, HA⟩ : ∃ wa, Hid (wr.alloc (.cells #[.int .u8 (48 + (r : Int))] 5) = wa) := ⟨_, rfl⟩
      have BA : Hid (Below w.heap.size w wa) := by rw [← HA.out]; exact HB.out.alloc HB.out.size _
      have SA : Hid (Sln wa (some ⟨wr.heap.size, 0, none⟩) 1 [48 + r]) := one_conv (w := wr) (by omega) (by rw [show ((48 + r : Nat) : Int) = 48 + (r : Int) by omega]; exact HA)
      have CV := conv_n (k := 1) SA
      have AD : ∀ W, (Op.stringOp .add (spell [48 + r]) (spell L)).run Tryz.prog W = .ok (.string (spell ((48 + r) :: L))) W := fun W => by
        have h := addS (spell [48 + r]) (spell L) (by rw [spell_sz, spell_sz]; simp; omega) W
        rw [← spell_app] at h
        exact h
      have z1 : (spell ((48 + r) :: L)).size = L.length + 1 := by rw [spell_sz]; rfl
      go_wp2_with (rw [HA.out])
      go_roundw
      case rel => exact ⟨q, (48 + r) :: L, by omega, by rw [List.length_cons]; exact LE.out, by go_num, rfl, NX.out, BA.out⟩
      case measure => simp [intOf]; omega
end Go.Proofs.YtemhhlongfabmaaGreatDoor
