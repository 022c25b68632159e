/- A field's line. -/
import Derived.Test.YtemhhlongfabmaaGreatDoorHc
namespace Go.Proofs.YtemhhlongfabmaaGreatDoor
open Go.ChangeShapes Go.WideShapes Go.ChangeAt Go.RowKit
set_option maxRecDepth 20000
set_option linter.unusedVariables false
set_option linter.unusedSimpArgs false
def col : ByteArray := ⟨#[58]⟩
def lowA (s : ByteArray) : ByteArray := ⟨(Lib.toLowerA s.data.toList).toArray⟩
def triA (s : ByteArray) : ByteArray := ⟨(Lib.trimS s.data.toList [32, 9]).toArray⟩
def rdL (s : ByteArray) : Option (ByteArray × ByteArray) :=
  if (cutA s col).2.2 && (gdN (cutA s col).1 && gdV (cutA s col).2.1) then some (lowA (cutA s col).1, triA (cutA s col).2.1) else none
def aggF (n v : ByteArray) : Array Value := #[.string n, .string v]
theorem sz41 (n v : ByteArray) : (Tryz.prog.info? 41).map (·.size) = some (aggF n v).size := by
  show _ = some 2
  kernel_rfl
theorem one41 (n v : ByteArray) : (aggF n v).all (·.oneCell') = true := by simp [aggF, Value.oneCell']
def FieldEnd (o : Option (ByteArray × ByteArray)) (e : Ending) : Prop := match o with
  | some (n, v) => e = .returned (.tuple #[.agg (aggF n v), .bool true])
  | none => e = .returned (.tuple #[.agg (aggF ⟨#[]⟩ ⟨#[]⟩), .bool false])
theorem nm_ascii {s : ByteArray} (h : gdN s = true) : ∀ (j : Nat) (b : UInt8), s.data.toList[j]? = some b → b.toNat < 128 := by
  intro j b hb
  have h1 : evB nmB s s.size = true := by unfold gdN at h; rw [Bool.and_eq_true] at h; exact h.2
  have hj : j < s.data.toList.length := (List.getElem?_eq_some_iff.1 hb).1
  have h2 := (evB_iff nmB s s.size).1 h1 j (by rw [Lib.size_eq]; exact hj)
  have e : sb s j = b.toNat := by unfold sb; rw [List.getD, hb]; rfl
  rw [e] at h2
  simp only [nmB, grB, smB, dgB, Bool.or_eq_true, decide_eq_true_eq] at h2
  omega
theorem low_n (s : ByteArray) (hs : s.size < 4294967281) (h : Hid (gdN s = true)) (w : World) : Calls Tryz.prog 57 #[.string s] w fun e w' => e = .returned (.string (lowA s)) ∧ Hid (Below w.heap.size w w') :=
  (Tryz.strings_ToLower_ascii s w (by omega) (nm_ascii h.out)).mono fun e w' x => ⟨x.1, x.2⟩
theorem tri_n (s : ByteArray) (hs : s.size < 4294967281) (w : World) : Calls Tryz.prog 58 #[.string s, .string { data := #[32, 9] }] w fun e w' => e = .returned (.string (triA s)) ∧ Hid (Below w.heap.size w w') :=
  (Tryz.strings_Trim_laid s ⟨#[32, 9]⟩ w (by omega) (by decide) (ascii_of_all (by decide))).mono fun e w' x => ⟨x.1, x.2⟩
set_option maxHeartbeats 2000000 in
theorem readField_n (s : ByteArray) (hs : s.size < 4294967281) {w : World} (hm : Hid (Mx w)) : Calls Tryz.prog 45 #[.string s] w fun e w' => FieldEnd (rdL s) e ∧ Hid (Below w.heap.size w w') := by
  obtain ⟨a, r, ok, HA⟩ : ∃ a r ok, Hid (cutA s col = (a, r, ok)) := ⟨_, _, _, rfl⟩
  have za : a.size < 4294967281 := by have := (cut_size s col).1; rw [HA.out] at this; dsimp only at this; omega
  have zr : r.size < 4294967281 := by have := (cut_size s col).2; rw [HA.out] at this; dsimp only at this; omega
  obtain ⟨b1, E1⟩ : ∃ b, Hid (gdN a = b) := ⟨_, rfl⟩
  obtain ⟨b2, E2⟩ : ∃ b, Hid (gdV r = b) := ⟨_, rfl⟩
  have EV : Hid (rdL s = if ok && (b1 && b2) then some (lowA a, triA r) else none) := by unfold rdL; rw [HA.out]; dsimp only; rw [E1.out, E2.out]; exact (rfl : (_ : Option (ByteArray × ByteArray)) = _)
  rw [EV.out]
  have c1 : ∀ {w : World}, Hid (Mx w) → Calls Tryz.prog 52 #[.string s, .string { data := #[58] }] w fun e w' => e = .returned (.tuple #[.string a, .string r, .bool ok]) ∧ Hid (Below w.heap.size w w') := fun hm => by
    have := cut_n s col hs hm
    rw [HA.out] at this
    exact this
  have C1 : Hid (∀ {w : World}, Hid (Mx w) → Calls Tryz.prog 52 #[.string s, .string { data := #[58] }] w fun e w' => e = .returned (.tuple #[.string a, .string r, .bool ok]) ∧ Hid (Below w.heap.size w w')) := c1
  clear c1 EV
  obtain ⟨w0, H0⟩ : ∃ w0, Hid (w.alloc (.cells #[.string { data := #[] }, .string { data := #[] }] 41) = w0) := ⟨_, rfl⟩
  have M0 : Hid (Mx w0) := by rw [← H0.out]; exact hm.out.below (alloc1 _ _)
  have K0 : Hid (Bx w w0 w.heap.size 41 (aggF ⟨#[]⟩ ⟨#[]⟩)) := by rw [← H0.out]; exact Bx.new w w 41 _ (Below.refl _ _)
  cases ok with
  | false =>
    go_enter Tryz.func45, Tryz.ntmps45
    go_wp2_with (first
        | (go_at_call 52; rw [H0.out]; refine (C1.out M0).mono ?_; rintro e w1 ⟨rfl, B1⟩
           have K1 : Hid (Bx w w1 w.heap.size 41 (aggF ⟨#[]⟩ ⟨#[]⟩)) := K0.out.below B1.out
           obtain ⟨w9, H9⟩ : ∃ w9, Hid (w1.setRow w.heap.size (aggF ⟨#[]⟩ ⟨#[]⟩) = w9) := ⟨_, rfl⟩
           have K9 : Hid (Bx w w9 w.heap.size 41 (aggF ⟨#[]⟩ ⟨#[]⟩)) := by rw [← H9.out]; exact K1.out.set _)
        | (go_at_call 55; refine (goodName_n a (by omega) _).mono ?_; rintro e w3 ⟨rfl, h3⟩; rw [h3, E1.out]; clear h3)
        | (go_at_call 56; refine (goodValue_n r (by omega) _).mono ?_; rintro e w4 ⟨rfl, h4⟩; rw [h4, E2.out]; clear h4)
        | (refine wpList_store_row (by rfl) 41 (.tmp 2) (.tmp 25) (by rfl) w.heap.size (aggF ⟨#[]⟩ ⟨#[]⟩) (by rfl) (by rfl) 41 _ K1.out.row (sz41 _ _) (by rfl) (one41 _ _) ?_; refine (show _ = w9 from H9.out) ▸ ?_))
    try simp only [Exit.inBlock, Exit.then]
    refine bodyPost_ret (res_row2 (by rfl) (by rfl) K9.out.row und41 (sz41 _ _)) rfl ?_
    exact ⟨rfl, K9.out.bel⟩
  | true =>
    cases b1 with
    | false =>
      go_enter Tryz.func45, Tryz.ntmps45
      go_wp2_with (first
          | (go_at_call 52; rw [H0.out]; refine (C1.out M0).mono ?_; rintro e w1 ⟨rfl, B1⟩
             have K1 : Hid (Bx w w1 w.heap.size 41 (aggF ⟨#[]⟩ ⟨#[]⟩)) := K0.out.below B1.out
             obtain ⟨w9, H9⟩ : ∃ w9, Hid (w1.setRow w.heap.size (aggF ⟨#[]⟩ ⟨#[]⟩) = w9) := ⟨_, rfl⟩
             have K9 : Hid (Bx w w9 w.heap.size 41 (aggF ⟨#[]⟩ ⟨#[]⟩)) := by rw [← H9.out]; exact K1.out.set _)
          | (go_at_call 55; refine (goodName_n a (by omega) _).mono ?_; rintro e w3 ⟨rfl, h3⟩; rw [h3, E1.out]; clear h3)
          | (go_at_call 56; refine (goodValue_n r (by omega) _).mono ?_; rintro e w4 ⟨rfl, h4⟩; rw [h4, E2.out]; clear h4)
          | (refine wpList_store_row (by rfl) 41 (.tmp 2) (.tmp 25) (by rfl) w.heap.size (aggF ⟨#[]⟩ ⟨#[]⟩) (by rfl) (by rfl) 41 _ K1.out.row (sz41 _ _) (by rfl) (one41 _ _) ?_; refine (show _ = w9 from H9.out) ▸ ?_))
      try simp only [Exit.inBlock, Exit.then]
      refine bodyPost_ret (res_row2 (by rfl) (by rfl) K9.out.row und41 (sz41 _ _)) rfl ?_
      exact ⟨rfl, K9.out.bel⟩
    | true =>
      cases b2 with
      | false =>
        go_enter Tryz.func45, Tryz.ntmps45
        go_wp2_with (first
            | (go_at_call 52; rw [H0.out]; refine (C1.out M0).mono ?_; rintro e w1 ⟨rfl, B1⟩
               have K1 : Hid (Bx w w1 w.heap.size 41 (aggF ⟨#[]⟩ ⟨#[]⟩)) := K0.out.below B1.out
               obtain ⟨w9, H9⟩ : ∃ w9, Hid (w1.setRow w.heap.size (aggF ⟨#[]⟩ ⟨#[]⟩) = w9) := ⟨_, rfl⟩
               have K9 : Hid (Bx w w9 w.heap.size 41 (aggF ⟨#[]⟩ ⟨#[]⟩)) := by rw [← H9.out]; exact K1.out.set _)
            | (go_at_call 55; refine (goodName_n a (by omega) _).mono ?_; rintro e w3 ⟨rfl, h3⟩; rw [h3, E1.out]; clear h3)
            | (go_at_call 56; refine (goodValue_n r (by omega) _).mono ?_; rintro e w4 ⟨rfl, h4⟩; rw [h4, E2.out]; clear h4)
            | (refine wpList_store_row (by rfl) 41 (.tmp 2) (.tmp 25) (by rfl) w.heap.size (aggF ⟨#[]⟩ ⟨#[]⟩) (by rfl) (by rfl) 41 _ K1.out.row (sz41 _ _) (by rfl) (one41 _ _) ?_; refine (show _ = w9 from H9.out) ▸ ?_))
        try simp only [Exit.inBlock, Exit.then]
        refine bodyPost_ret (res_row2 (by rfl) (by rfl) K9.out.row und41 (sz41 _ _)) rfl ?_
        exact ⟨rfl, K9.out.bel⟩
      | true =>
        go_enter Tryz.func45, Tryz.ntmps45
        go_wp2_with (first
            | (go_at_call 52; rw [H0.out]; refine (C1.out M0).mono ?_; rintro e w1 ⟨rfl, B1⟩
               have K1 : Hid (Bx w w1 w.heap.size 41 (aggF ⟨#[]⟩ ⟨#[]⟩)) := K0.out.below B1.out)
            | (go_at_call 55; refine (goodName_n a (by omega) _).mono ?_; rintro e w3 ⟨rfl, h3⟩; rw [h3, E1.out]; clear h3)
            | (go_at_call 56; refine (goodValue_n r (by omega) _).mono ?_; rintro e w4 ⟨rfl, h4⟩; rw [h4, E2.out]; clear h4)
            | (go_at_call 57; refine (low_n a za E1 _).mono ?_; rintro e w5 ⟨rfl, B5⟩
               have K5 : Hid (Bx w w5 w.heap.size 41 (aggF ⟨#[]⟩ ⟨#[]⟩)) := K1.out.below B5.out)
            | (go_at_call 58; refine (tri_n r zr _).mono ?_; rintro e w6 ⟨rfl, B6⟩
               have K6 : Hid (Bx w w6 w.heap.size 41 (aggF ⟨#[]⟩ ⟨#[]⟩)) := K5.out.below B6.out
               obtain ⟨w9, H9⟩ : ∃ w9, Hid (w6.setRow w.heap.size (aggF (lowA a) (triA r)) = w9) := ⟨_, rfl⟩
               have K9 : Hid (Bx w w9 w.heap.size 41 (aggF (lowA a) (triA r))) := by rw [← H9.out]; exact K6.out.set _)
            | (refine wpList_store_row (by rfl) 41 (.tmp 2) (.tmp 30) (by rfl) w.heap.size (aggF (lowA a) (triA r)) (by rfl) (by rfl) 41 _ K6.out.row (sz41 _ _) (by rfl) (one41 _ _) ?_; refine (show _ = w9 from H9.out) ▸ ?_))
        try simp only [Exit.inBlock, Exit.then]
        refine bodyPost_ret (res_row2 (by rfl) (by rfl) K9.out.row und41 (sz41 _ _)) rfl ?_
        exact ⟨rfl, K9.out.bel⟩
end Go.Proofs.YtemhhlongfabmaaGreatDoor
