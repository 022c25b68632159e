/- The calls of package gf on slices, by what the slices read as. -/
import Derived.Test.YtokkjdgfhpocdaaDoorWj
namespace Go.Proofs.YtokkjdgfhpocdaaDoor
open Go.ChangeShapes Go.WideShapes Go.ChangeAt Go.RowKit
set_option linter.unusedVariables false
set_option linter.unusedSimpArgs false
/- a slice of n elements that reads as l -/
structure Sln (w : World) (a : Option Addr) (n : Nat) (l : List Nat) : Prop where
  len : n = l.length
  sli : Sli w a l
theorem Sln.below {w w' : World} {a : Option Addr} {n : Nat} {l : List Nat} (h : Sln w a n l) (hb : Below w.heap.size w w') : Sln w' a n l := ⟨h.len, h.sli.below hb⟩
theorem Sln.drewN {w : World} {a : Option Addr} {n : Nat} {l : List Nat} (h : Sln w a n l) (k : Nat) : Sln (w.drewN k) a n l := h.below (below_drewN (Below.refl _ _) k)
theorem Sln.drew {w : World} {a : Option Addr} {n : Nat} {l : List Nat} (h : Sln w a n l) : Sln w.drew a n l := h.drewN 1
theorem Sln.lt {w : World} {a : Option Addr} {n : Nat} {l : List Nat} (h : Sln w a n l) : ∀ x ∈ l, x < 256 := h.sli.1
theorem Blk.sln {w : World} {g : Nat} {l : List Nat} (h : Blk w g l) (h1 : ∀ x ∈ l, x < 256) (h2 : l.length ≤ 140737488351232) : Sln w (some ⟨g, 0, none⟩) l.length l := ⟨rfl, h.sli h1 h2⟩
/- what a call that makes a row leaves -/
structure Made (w w' : World) (g n : Nat) (l : List Nat) : Prop where
  at_ : g = w.heap.size
  blk : Blk w' g l
  sln : Sln w' (some ⟨g, 0, none⟩) n l
  bel : Below w.heap.size w w'
theorem addScaled_n {a1 a2 : Option Addr} {n1 n2 k1 k2 c : Nat} {l1 l2 : List Nat} {w : World} (hc : c < 256) (h1 : Hid (Sln w a1 n1 l1)) (h2 : Hid (Sln w a2 n2 l2)) :
    Calls Tryd.prog 37 #[.slice a1 n1 k1, .int .u8 (c : Int), .slice a2 n2 k2] w fun e w' => ∃ g n, e = .returned (.slice (some ⟨g, 0, none⟩) n n) ∧ Hid (Made w w' g n (addSc l1 c l2)) := by
  have e1 := h1.out.len
  have e2 := h2.out.len
  subst e1; subst e2
  refine (addScaled_any a1 a2 k1 k2 c l1 l2 w hc h1.out.sli h2.out.sli).mono ?_
  rintro e w' ⟨n, hn, rfl, hB, hbel⟩
  have m1 := h1.out.sli.2.1
  have m2 := h2.out.sli.2.1
  refine ⟨_, n, rfl, rfl, hB, ⟨by rw [addSc_length]; exact hn, hB.sli (addSc_lt hc h1.out.lt) (by rw [addSc_length]; omega)⟩, hbel⟩
theorem scale_n {a : Option Addr} {n k c : Nat} {l : List Nat} {w : World} (hc : c < 256) (h : Hid (Sln w a n l)) :
    Calls Tryd.prog 46 #[.int .u8 (c : Int), .slice a n k] w fun e w' => ∃ g n, e = .returned (.slice (some ⟨g, 0, none⟩) n n) ∧ Hid (Made w w' g n (scaled c l)) := by
  have e1 := h.out.len
  have m := h.out.sli.2.1
  rw [← e1] at m
  have mk := make_bytes n (by omega)
  have HK : Hid (Calls Tryd.prog 47 #[.slice (some ⟨w.heap.size, 0, none⟩) n n, .slice a n k, .pointer (some ⟨w.heap.size + 1, 0, none⟩)] ((w.alloc (.cells (madeCells #[.int .u8 0] n) 5)).alloc (.cells #[.int .u8 (c : Int)] 5)) fun e w' => e = .returned (.tuple #[]) ∧ Hid (Made w w' w.heap.size n (scaled c l))) := by
    have hb : Below w.heap.size w (w.alloc (.cells (madeCells #[.int .u8 0] n) 5)) := (Below.refl _ _).alloc (Nat.le_refl _) _
    have hk := kern_boxed w (w.alloc (.cells (madeCells #[.int .u8 0] n) 5)) w.heap.size n c (List.replicate n 0) l a k hc (Blk.made w n) (replicate_lt n) (by simp) m h.out.sli (by omega) hb (Nat.le_refl _)
    rw [← e1] at hk
    have hz : (w.alloc (.cells (madeCells #[.int .u8 0] n) 5)).heap.size = w.heap.size + 1 := by simp
    rw [hz] at hk
    refine hk.mono ?_
    rintro e w' ⟨rfl, h1, h2⟩
    have h1' : Blk w' w.heap.size (scaled c l) := by unfold scaled; rw [← e1]; exact h1
    exact ⟨rfl, rfl, h1', ⟨by rw [scaled_length]; exact e1, h1'.sli (scaled_lt hc) (by rw [scaled_length, ← e1]; exact m)⟩, h2⟩
  clear e1
  go_enter Tryd.func46, Tryd.ntmps46
  go_wp2_with (first | (go_at_call 47; refine HK.out.mono ?_; rintro e w' ⟨rfl, hM⟩) | go_in)
  go_ret
  exact ⟨_, n, rfl, hM⟩
theorem conv_n {a : Option Addr} {n k : Nat} {l : List Nat} {w : World} (h : Hid (Sln w a n l)) : (convert 33 9 (.slice a n k)).run Tryd.prog w = .ok (.string (spell l)) w := by
  rw [run_convert_bytes_string w 33 9 5 a n k Tryd.underlying33 Tryd.underlying5 Tryd.underlying9]
  have e := h.out.len
  by_cases g : l = []
  · subst g
    have e0 : n = 0 := e
    subst e0
    cases a with
    | none => simp [Conv.bytesToString, spell, Sem.run_pure]
    | some a =>
      have hl : (loadCells a 0).run Tryd.prog w = .ok (([] : List Int).map (Value.int .u8)).toArray w := by simpa using run_loadCells_list (P := Tryd.prog) w a [] (by simp)
      exact run_bytesToString w a 0 k [] hl
  · obtain ⟨b, off, rfl, _, r⟩ := h.out.sli.2.2.resolve_left g
    have hl : (loadCells ⟨b, off, none⟩ n).run Tryd.prog w = .ok ((l.map fun x : Nat => (x : Int)).map (Value.int .u8)).toArray w := by
      have h0 := run_loadCells_list (P := Tryd.prog) w ⟨b, off, none⟩ ((l.map fun x : Nat => (x : Int)).map (Value.int .u8)) (fun j v hv => by
        simp at hv
        obtain ⟨x, hx, rfl⟩ := hv
        obtain ⟨hj, _⟩ := List.getElem?_eq_some_iff.1 hx
        have h4 := r j hj
        have h5 : l.getD j 0 = x := by simp [hx]
        rw [h5] at h4
        rw [show (⟨b, off, none⟩ : Addr).add j = ⟨b, off + j, none⟩ from by simp [Addr.add]]
        exact h4)
      have e3 : ((l.map fun x : Nat => (x : Int)).map (Value.int .u8)).length = n := by simp [e]
      rw [e3] at h0
      exact h0
    exact run_bytesToString w ⟨b, off, none⟩ n k _ hl
end Go.Proofs.YtokkjdgfhpocdaaDoor
