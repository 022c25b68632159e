/- UriParses: the program's Parse and the document's, side by side. -/
import Derived.Test.YtalagagnolhppaaDoorUl
import Derived.Test.YtalagagnolhppaaDoorUo
namespace Go.Proofs.YtalagagnolhppaaDoor
open Go.ChangeShapes Go.WideShapes Go.ChangeAt Go.RowKit
set_option maxRecDepth 20000
set_option linter.unusedVariables false
set_option linter.unusedSimpArgs false
theorem box2 {W : World} {g : Nat} {t : TypeId} {a b : Value} (h : W.heap[g]? = some (.cells #[a, b] t (0, 0))) : W.cell? ⟨g, 0, none⟩ = some a ∧ W.cell? ⟨g, 1, none⟩ = some b := by
  refine ⟨?_, ?_⟩ <;> simp [World.cell?, h]
theorem Fw.zero (W : World) : Fw W none 0 [] := ⟨rfl, by omega, .inl rfl⟩
theorem prsU_len {t p : ByteArray} {fs : List Fl} (h : prsU t = some (p, fs)) : fs.length ≤ t.size := by
  unfold prsU at h
  split at h
  · cases hd : dcS (ctA 63 t) with
    | none => rw [hd] at h; cases h
    | some q =>
      rw [hd] at h
      cases hl : prL (pcs (ctB 63 t)) with
      | none => rw [hl] at h; cases h
      | some gs =>
        rw [hl] at h
        cases h
        have h1 := prL_len hl
        have h2 := pcs_len (ctB 63 t)
        have h3 := ctB_size 63 t
        omega
  · cases h
set_option maxHeartbeats 4000000 in
theorem parses_law (t : ByteArray) (hs : t.size ≤ 1048576) {w : World} {M : Nat → Prop} {E : Nat → Addr} (hE : Hid (Sent w M E)) (M0 : M 0) : Calls Tryd.prog 3 #[.string t] w fun e w' => e = .returned (.bool true) ∧ Hid (Below w.heap.size w w') := by
  have ES : ∀ W, (binOp .eql 27 (.iface 109 (.pointer (some (E 0)))) (.iface 109 (.pointer (some (E 0))))).run Tryd.prog W = .ok (.bool true) W := fun W => eql_same W (E 0)
  cases hp : prsU t with
  | none =>
    have PA : Hid (∀ {W : World}, Hid (Sent W M E) → Calls Tryd.prog 9 #[.string t] W fun e w' => e = .returned (.tuple #[.agg #[.string { data := #[] }, .slice none 0 0], .iface 109 (.pointer (some (E 0)))]) ∧ Hid (Below W.heap.size W w')) := fun {W} h => by
      have := parseU_n t (by omega) h M0
      rw [hp] at this
      exact this
    have RA : Hid (∀ {W : World}, Calls Tryd.prog 10 #[.string t] W fun e w' => e = .returned (.tuple #[.agg #[.string { data := #[] }, .slice none 0 0], .bool false]) ∧ Hid (Below W.heap.size W w')) := fun {W} => by
      have := refparseU_n t (by omega) (w := W)
      rw [hp] at this
      exact this
    clear hp
    go_enter Tryd.func3, Tryd.ntmps3
    go_upto_region 4 with (first
      | (go_at_call 8; refine (alive_n hE M0).mono ?_; rintro e w1 ⟨rfl, B1⟩
         have E1 : Hid (Sent w1 M E) := hE.out.below B1.out)
      | (go_at_call 9; refine (PA.out E1).mono ?_; rintro e w2 ⟨rfl, B2⟩))
    have D2 : Hid (Below w.heap.size w w2) := B1.out.trans (B2.out.mono B1.out.size)
    obtain ⟨q, HQ⟩ : ∃ q, Hid (w2.heap.size = q) := ⟨_, rfl⟩
    obtain ⟨w3, H3⟩ : ∃ x, Hid (w2.alloc (.cells #[.string { data := #[] }, .slice none 0 0] 25) = x) := ⟨_, rfl⟩
    rw [H3.out, HQ.out]
    have X3 : Hid (Bx w w3 q 25 #[.string { data := #[] }, .slice none 0 0]) := by rw [← H3.out, ← HQ.out]; exact Bx.new w w2 25 _ D2.out
    have D23 : Hid (Below w2.heap.size w2 w3) := by rw [← H3.out]; exact alloc1 _ _
    clear H3
    go_upto_region 5 with (go_at_call 10; refine (RA.out).mono ?_; rintro e w4 ⟨rfl, B4⟩)
    obtain ⟨r, HR⟩ : ∃ q, Hid (w4.heap.size = q) := ⟨_, rfl⟩
    obtain ⟨w5, H5⟩ : ∃ x, Hid (w4.alloc (.cells #[.string { data := #[] }, .slice none 0 0] 25) = x) := ⟨_, rfl⟩
    rw [H5.out, HR.out]
    have D45 : Hid (Below w4.heap.size w4 w5) := by rw [← H5.out]; exact alloc1 _ _
    have D04 : Hid (Below w.heap.size w w4) := X3.out.bel.trans (B4.out.mono X3.out.bel.size)
    have X5 : Hid (Bx w w5 q 25 #[.string { data := #[] }, .slice none 0 0]) := (X3.out.below B4.out).below D45.out
    have Y5 : Hid (Bx w w5 r 25 #[.string { data := #[] }, .slice none 0 0]) := by rw [← H5.out, ← HR.out]; exact Bx.new w w4 25 _ D04.out
    clear H5
    obtain ⟨p0, p1⟩ := box2 X5.out.row
    obtain ⟨s0, s1⟩ := box2 Y5.out.row
    have SM : Hid (Calls Tryd.prog 11 #[.agg #[.string { data := #[] }, .slice none 0 0], .agg #[.string { data := #[] }, .slice none 0 0]] w5 fun e w' => e = .returned (.bool true) ∧ Hid (Below w5.heap.size w5 w')) := sameU_n (p := ⟨#[]⟩) (c := 0) (c' := 0) (show Hid _ from Fw.zero w5) (show Hid _ from Fw.zero w5)
    have E5 := (hE.out.below X5.out.bel)
    go_wp2_with (go_at_call 11; refine SM.out.mono ?_; rintro e w6 ⟨rfl, B6⟩
                 have k0 : w6.cell? ⟨0, 0, none⟩ = some (.iface 109 (.pointer (some (E 0)))) := (E5.below B6.out).c 0 M0)
    go_ret
    exact ⟨rfl, X5.out.bel.trans (B6.out.mono X5.out.bel.size)⟩
  | some f =>
    obtain ⟨p, fs⟩ := f
    have fl := prsU_len hp
    have PA : Hid (∀ {W : World}, Hid (Sent W M E) → Calls Tryd.prog 9 #[.string t] W fun e w' => (∃ a n c, e = .returned (.tuple #[.agg #[.string p, .slice a n c], .nilIface]) ∧ Rw w' W.heap.size 39 EF a n c fs) ∧ Hid (Below W.heap.size W w')) := fun {W} h => by
      have := parseU_n t (by omega) h M0
      rw [hp] at this
      exact this
    have RA : Hid (∀ {W : World}, Calls Tryd.prog 10 #[.string t] W fun e w' => (∃ a n c, e = .returned (.tuple #[.agg #[.string p, .slice a n c], .bool true]) ∧ Rw w' W.heap.size 39 EF a n c fs) ∧ Hid (Below W.heap.size W w')) := fun {W} => by
      have := refparseU_n t (by omega) (w := W)
      rw [hp] at this
      exact this
    clear hp ES
    go_enter Tryd.func3, Tryd.ntmps3
    go_upto_region 4 with (first
      | (go_at_call 8; refine (alive_n hE M0).mono ?_; rintro e w1 ⟨rfl, B1⟩
         have E1 : Hid (Sent w1 M E) := hE.out.below B1.out)
      | (go_at_call 9; refine (PA.out E1).mono ?_; rintro e w2 ⟨⟨a, n, c, he, hR0⟩, B2⟩; obtain rfl := he
         have R2 : Hid (Rw w2 w1.heap.size 39 EF a n c fs) := hR0
         clear hR0))
    have D2 : Hid (Below w.heap.size w w2) := B1.out.trans (B2.out.mono B1.out.size)
    obtain ⟨q, HQ⟩ : ∃ q, Hid (w2.heap.size = q) := ⟨_, rfl⟩
    obtain ⟨w3, H3⟩ : ∃ x, Hid (w2.alloc (.cells #[.string p, .slice a n c] 25) = x) := ⟨_, rfl⟩
    rw [H3.out, HQ.out]
    have X3 : Hid (Bx w w3 q 25 #[.string p, .slice a n c]) := by rw [← H3.out, ← HQ.out]; exact Bx.new w w2 25 _ D2.out
    have D23 : Hid (Below w2.heap.size w2 w3) := by rw [← H3.out]; exact alloc1 _ _
    clear H3
    go_upto_region 5 with (go_at_call 10; refine (RA.out).mono ?_; rintro e w4 ⟨⟨a2, n2, c2, he, hR0⟩, B4⟩; obtain rfl := he)
    have R4 : Hid (Rw w4 w3.heap.size 39 EF a2 n2 c2 fs) := hR0
    clear hR0
    obtain ⟨r, HR⟩ : ∃ q, Hid (w4.heap.size = q) := ⟨_, rfl⟩
    obtain ⟨w5, H5⟩ : ∃ x, Hid (w4.alloc (.cells #[.string p, .slice a2 n2 c2] 25) = x) := ⟨_, rfl⟩
    rw [H5.out, HR.out]
    have D45 : Hid (Below w4.heap.size w4 w5) := by rw [← H5.out]; exact alloc1 _ _
    have D04 : Hid (Below w.heap.size w w4) := X3.out.bel.trans (B4.out.mono X3.out.bel.size)
    have X5 : Hid (Bx w w5 q 25 #[.string p, .slice a n c]) := (X3.out.below B4.out).below D45.out
    have Y5 : Hid (Bx w w5 r 25 #[.string p, .slice a2 n2 c2]) := by rw [← H5.out, ← HR.out]; exact Bx.new w w4 25 _ D04.out
    clear H5
    obtain ⟨p0, p1⟩ := box2 X5.out.row
    obtain ⟨s0, s1⟩ := box2 Y5.out.row
    obtain rfl : n2 = n := R4.out.len.trans R2.out.len.symm
    have NL : Hid (n2 = fs.length) := R4.out.len
    have F5 : Hid (Fw w5 a n2 fs) := ((((fw_rw R2.out (by have := NL.out; omega)).below D23.out).below B4.out).below D45.out)
    have F6 : Hid (Fw w5 a2 n2 fs) := (fw_rw R4.out (by have := NL.out; omega)).below D45.out
    have SM : Hid (Calls Tryd.prog 11 #[.agg #[.string p, .slice a n2 c], .agg #[.string p, .slice a2 n2 c2]] w5 fun e w' => e = .returned (.bool true) ∧ Hid (Below w5.heap.size w5 w')) := sameU_n F5 F6
    go_wp2_with (go_at_call 11; refine SM.out.mono ?_; rintro e w6 ⟨rfl, B6⟩)
    go_ret
    exact ⟨rfl, X5.out.bel.trans (B6.out.mono X5.out.bel.size)⟩
end Go.Proofs.YtalagagnolhppaaDoor
