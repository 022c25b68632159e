/- The document's Parse over a head's lines: the request's box, one field more; plain facts. -/
import Derived.Test.YtemhhlongfabmaaGreatDoorHh
import Derived.Test.YtemhhlongfabmaaGreatDoorIg
namespace Go.Proofs.YtemhhlongfabmaaGreatDoor
open Go.ChangeShapes Go.WideShapes Go.ChangeAt Go.RowKit
set_option maxRecDepth 20000
set_option linter.unusedVariables false
set_option linter.unusedSimpArgs false
structure Ps (w W : World) (g : Nat) (m t : ByteArray) (a : Option Addr) (n c : Nat) (fs : List Fl) : Prop where
  k : Bx w W g 27 (aggR m t (.slice a n c) nilS)
  rw : Rw W w.heap.size 41 EF a n c fs
section
variable {w W W' : World} {g : Nat} {m t : ByteArray} {a : Option Addr} {n c : Nat} {fs : List Fl}
theorem Ps.bel (h : Ps w W g m t a n c fs) : Below w.heap.size w W := h.k.bel
theorem Ps.below (h : Ps w W g m t a n c fs) (hb : Below W.heap.size W W') : Ps w W' g m t a n c fs := ⟨h.k.below hb, h.rw.below hb⟩
theorem Ps.cs (h : Ps w W g m t a n c fs) : W.cell? ⟨g, 0, none⟩ = some (.string m) ∧ W.cell? ⟨g, 1, none⟩ = some (.string t) ∧ W.cell? ⟨g, 2, none⟩ = some (.slice a n c) ∧ W.cell? ⟨g, 3, none⟩ = some nilS ∧ W.frozen? ⟨g, 2, none⟩ = false ∧ W.frozen? ⟨g, 3, none⟩ = false := by
  refine ⟨?_, ?_, ?_, ?_, ?_, ?_⟩ <;> simp [World.cell?, World.frozen?, h.k.row, aggR]
theorem Ps.new (w : World) (m t : ByteArray) : Ps w (w.alloc (.cells #[.string m, .string t, .slice none 0 0, .slice none 0 0] 27)) w.heap.size m t none 0 0 [] :=
  ⟨Bx.new w w 27 _ (Below.refl _ _), Rw.nil _ _ _ _ (by decide)⟩
theorem Ps.not (h : Ps w W g m t a n c fs) : some g ≠ blkOf a := fun e => by
  obtain ⟨cur, h1, _⟩ := h.rw.blk e.symm
  rw [h.k.row] at h1
  cases h1
theorem Ps.app (h : Ps w W g m t a n c fs) (f : Fl) (hn : n ≤ 4294967281) :
    ∃ a' c' W3, (Builtin.append_ #[25, 25] 25 #[.slice a n c, .slice (some ⟨W.heap.size + 1, 0, none⟩) 1 1]).run Tryz.prog ((W.alloc (.cells #[.string f.1, .string f.2] 41)).alloc (.cells #[.string f.1, .string f.2] 41)) = .ok (.slice a' (n + 1) c') W3 ∧
      Ps w (W3.setCell ⟨g, 2, none⟩ (.slice a' (n + 1) c')) g m t a' (n + 1) c' (fs ++ [f]) ∧ W3.cell? ⟨g, 2, none⟩ = some (.slice a n c) ∧ W3.frozen? ⟨g, 2, none⟩ = false := by
  have h2 : Ps w ((W.alloc (.cells #[.string f.1, .string f.2] 41)).alloc (.cells #[.string f.1, .string f.2] 41)) g m t a n c fs := (h.below (alloc1 _ _)).below (alloc1 _ _)
  have hp : ((W.alloc (.cells #[.string f.1, .string f.2] 41)).alloc (.cells #[.string f.1, .string f.2] 41)).heap[W.heap.size + 1]? = some (.cells (EF.e f).toArray 41 (0, 0)) := by
    have := heap_alloc_new (W.alloc (.cells #[.string f.1, .string f.2] 41)) (.cells #[.string f.1, .string f.2] 41)
    have e1 : (W.alloc (.cells #[.string f.1, .string f.2] 41)).heap.size = W.heap.size + 1 := by simp
    rw [e1] at this
    exact this
  obtain ⟨W2, hW2⟩ : ∃ W2, (W.alloc (.cells #[.string f.1, .string f.2] 41)).alloc (.cells #[.string f.1, .string f.2] 41) = W2 := ⟨_, rfl⟩
  rw [hW2] at h2 hp ⊢
  obtain ⟨a', c', W3, hrun, hown, hgr, hnew⟩ := app_one (t := 25) (e := 41) (z := 2) Tryz.underlying25 info41 rfl (by decide) h2.rw.row hp rfl (EF.one f) (by omega) (by simp only [maxLen]; omega) h2.bel.size
  have hr : ∀ q, blkOf a = some q → w.heap.size ≤ q := fun q e => (h2.rw.lt e).1
  have k6 := h2.k.grown hgr hr h2.not
  have r3 : Rw W3 w.heap.size 41 EF a' (n + 1) c' (fs ++ [f]) := ⟨by rw [EF.fl_app, EF.fl_one]; exact hown, by decide⟩
  refine ⟨a', c', W3, hrun, ⟨⟨?_, ?_, k6.ge⟩, ?_⟩, ?_, ?_⟩
  · rw [set_blk k6.row]
    rfl
  · exact k6.bel.trans ⟨rfl, rfl, rfl, by simp [World.setCell], fun q hq => Below.heap_setCell _ _ _ _ (show q ≠ g by have := k6.ge; omega)⟩
  · refine r3.keep1 (fun q e => Below.heap_setCell _ _ _ _ ?_)
    rintro rfl
    obtain ⟨cur, e1, _⟩ := r3.blk e
    rw [k6.row] at e1
    cases e1
  · simp [World.cell?, k6.row, aggR]
  · simp [World.frozen?, k6.row]
end
/- the fields so far, and whether all is well -/
structure Fr (ok0 : Bool) (tl : List ByteArray) (i : Nat) (ok : Bool) (fs : List Fl) : Prop where
  len : fs.length = i
  yes : ok = true → ok0 = true ∧ flds (tl.take i) = some fs
  no : ok = false → ok0 = false ∨ flds tl = none
theorem Fr.zero (ok0 : Bool) (tl : List ByteArray) : Fr ok0 tl 0 ok0 [] := ⟨rfl, fun h => ⟨h, by simp [flds]⟩, fun h => .inl h⟩
theorem Fr.good {ok0 : Bool} {tl : List ByteArray} {i : Nat} {ok : Bool} {fs : List Fl} {f : Fl} (h : Fr ok0 tl i ok fs) (hi : i < tl.length) (hf : rdL tl[i] = some f) : Fr ok0 tl (i + 1) ok (fs ++ [f]) := by
  refine ⟨by simp [h.len], fun e => ?_, h.no⟩
  obtain ⟨h1, h2⟩ := h.yes e
  refine ⟨h1, ?_⟩
  rw [List.take_succ_eq_append_getElem hi]
  exact flds_snoc h2 hf
theorem Fr.bad {ok0 : Bool} {tl : List ByteArray} {i : Nat} {ok : Bool} {fs : List Fl} {f : Fl} (h : Fr ok0 tl i ok fs) (hi : i < tl.length) (hf : rdL tl[i] = none) : Fr ok0 tl (i + 1) false (fs ++ [f]) := by
  refine ⟨by simp [h.len], (fun e => by cases e), fun _ => .inr (flds_bad hi ?_)⟩
  simpa [List.getD, hi] using hf
/- the digits of a length so far -/
structure Dg (y : ByteArray) (j : Nat) (ok : Bool) (sz : Int) : Prop where
  yes : ok = true → 1 ≤ y.size ∧ y.size ≤ 9 ∧ (∀ q, q < j → dgB (sb y q) = true) ∧ sz = (numB y j : Nat)
  no : ok = false → okD y = false
theorem Dg.start {y : ByteArray} (h1 : 1 ≤ y.size) (h2 : y.size ≤ 9) : Dg y 0 true 0 := ⟨fun _ => ⟨h1, h2, fun q hq => by omega, rfl⟩, fun h => by cases h⟩
theorem okD_short {y : ByteArray} (h : y.size = 0) : okD y = false := by
  have e : y = ⟨#[]⟩ := by
    apply ba_extD
    have := Lib.size_eq y
    rw [h] at this
    rw [List.eq_nil_of_length_eq_zero this.symm]
  unfold okD
  rw [e]
  rfl
theorem okD_long {y : ByteArray} (h : ¬ y.size ≤ 9) : okD y = false := by
  unfold okD
  rw [decide_eq_false h]
  simp
theorem Dg.more {y : ByteArray} {j z : Nat} (h : Dg y j true (z : Nat)) (hd : dgB (sb y j) = true) : Dg y (j + 1) true ((10 * z + (sb y j - 48) : Nat) : Int) := by
  obtain ⟨h1, h2, h3, h4⟩ := h.yes rfl
  refine ⟨fun _ => ⟨h1, h2, fun q hq => ?_, ?_⟩, fun h => by cases h⟩
  · by_cases e : q = j
    · rw [e]; exact hd
    · exact h3 q (by omega)
  · rw [numB]
    omega
theorem Dg.fall {y : ByteArray} {j : Nat} (hj : j < y.size) (hd : dgB (sb y j) = false) (k : Nat) (sz : Int) : Dg y k false sz := by
  refine ⟨(fun h => by cases h), fun _ => ?_⟩
  unfold okD
  rw [evB_false hj hd]
  simp
theorem Dg.lt {y : ByteArray} {j : Nat} {sz : Int} (h : Dg y j true sz) : ∃ z : Nat, sz = (z : Nat) ∧ z < 10 ^ j ∧ y.size ≤ 9 := by
  obtain ⟨h1, h2, h3, h4⟩ := h.yes rfl
  exact ⟨_, h4, numB_lt y j h3, h2⟩
theorem Dg.done {y : ByteArray} {ok : Bool} {j : Nat} {sz : Int} (h : Dg y j ok sz) (hj : ok = true → j = y.size) : ok = okD y ∧ (ok = true → sz = (numB y y.size : Nat)) := by
  cases ok with
  | false => exact ⟨(h.no rfl).symm, fun e => by cases e⟩
  | true =>
    obtain ⟨h1, h2, h3, h4⟩ := h.yes rfl
    obtain rfl := hj rfl
    refine ⟨?_, fun _ => h4⟩
    have e0 : decide (y = ⟨#[]⟩) = false := decide_eq_false (fun e => by rw [e] at h1; exact absurd h1 (by decide))
    unfold okD
    rw [e0, decide_eq_true h2, (evB_iff dgB y y.size).2 h3]
    rfl
end Go.Proofs.YtemhhlongfabmaaGreatDoor
