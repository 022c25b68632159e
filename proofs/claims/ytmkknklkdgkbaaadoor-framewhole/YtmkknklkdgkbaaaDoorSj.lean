/- What Sum and Hex of package sha do to a machine, for all slices. -/
import Derived.Test.YtmkknklkdgkbaaaDoorSi
namespace Go.Proofs.YtmkknklkdgkbaaaDoor
open Go.ChangeShapes Go.WideShapes Go.ChangeAt Go.RowKit
set_option linter.unusedVariables false
set_option linter.unusedSimpArgs false
theorem Sln.apart {w : World} {a : Option Addr} {n g : Nat} {l : List Nat} (h : Sln w a n l) (hg : w.heap.size ≤ g) : ∀ b off, l ≠ [] → a = some ⟨b, off, none⟩ → b ≠ g := by
  intro b off h0 h1
  obtain ⟨b', off', h2, hl, _⟩ := h.sli.2.2.resolve_left h0
  rw [h2] at h1
  simp at h1
  omega
/- a result's variable, kept -/
structure Kp (w wr : World) : Prop where
  out : Arr .u8 61 wr w.heap.size Zb32
  bel : Below w.heap.size w wr
theorem Kp.first (w : World) : Kp w (w.alloc (.cells (cs .u8 Zb32) 61)) := ⟨Arr.new w .u8 61 Zb32, (Below.refl _ _).alloc (Nat.le_refl _) _⟩
theorem Kp.below {w a b : World} (h : Kp w a) (hb : Below a.heap.size a b) : Kp w b := ⟨h.out.below hb h.out.lt, h.bel.trans (hb.mono h.bel.size)⟩
theorem Kp.but {w a b : World} {g : Nat} (h : Kp w a) (hb : But g a b) (hg : w.heap.size < g) : Kp w b :=
  ⟨(hb.block w.heap.size h.out.lt (by omega)).trans h.out, But.below h.bel hb (by omega) h.bel.size⟩
set_option maxRecDepth 20000 in
set_option maxHeartbeats 1000000 in
theorem shsum_n {w : World} {a : Option Addr} {n k : Nat} {l : List Nat} (hS : Hid (Sln w a n l)) (hk : n ≤ k) (hKs : Hid (Kst w)) (h0 : Hid (19 < w.heap.size)) :
    Calls Tryd.prog 50 #[.slice a n k] w fun e w' => ∃ d, e = .returned (.agg (cs .u8 d)) ∧ Hid (d = Gs.sum l ∧ Below w.heap.size w w') := by
  have K0 : Hid (Kp w (w.alloc (.cells (cs .u8 Zb32) 61))) := Kp.first w
  go_enter Tryd.func50, Tryd.ntmps50
  go_wp2_with (first
    | (go_at_call 64; refine (new_n _).mono ?_; rintro e w1 ⟨g, rfl, H1⟩
       have K1 : Hid (Kp w w1) := K0.out.below H1.out.2.2
       have g1 : Hid (w.heap.size < g) := by
         have h5 : (w.alloc (.cells (cs .u8 Zb32) 61)).heap.size = w.heap.size + 1 := by simp
         have h6 : (w.alloc (.cells (cs .u8 Zb32) 61)).heap.size ≤ g := H1.out.1
         have h7 : w.heap.size < g := by omega
         exact h7
       have S1 : Hid (Sln w1 a n l) := hS.out.below K1.out.bel
       have P1 : Hid (∀ b off, l ≠ [] → a = some ⟨b, off, none⟩ → b ≠ g) := hS.out.apart (Nat.le_of_lt g1.out)
       have T1 : Hid (Kst w1) := hKs.out.below K1.out.bel h0.out
       have Z1 : Hid (19 < w1.heap.size) := Nat.lt_of_lt_of_le h0.out K1.out.bel.size
       have N1 : Hid (([] : List Nat).length + l.length < 4611686018427387904) := by
         have h7 : ([] : List Nat).length + l.length < 4611686018427387904 := by have := hS.out.sli.2.1; simp; omega
         exact h7
       have E1 : Hid (HS w1 g []) := H1.out.2.1)
    | (go_at_call 65; refine (write_n _ g n k [] l a E1 S1 hk P1 T1 Z1.out (by have := g1.out; have := h0.out; omega) N1).mono ?_; rintro e w2 ⟨rfl, H2⟩
       have K2 : Hid (Kp w w2) := K1.out.but H2.out.2 g1.out
       have T2 : Hid (Kst w2) := hKs.out.below K2.out.bel h0.out
       have Z2 : Hid (19 < w2.heap.size) := Nat.lt_of_lt_of_le h0.out K2.out.bel.size
       have E2 : Hid (HS w2 g l) := by have := H2.out.1; rw [List.nil_append] at this; exact this
       have N2 : Hid (l.length < 4611686018427387904) := by have := N1.out; simp at this; exact this)
    | (go_at_call 66; refine (hsum_n _ g l E2 T2 Z2 N2).mono ?_; rintro e w3 ⟨d, rfl, H3⟩
       have K3 : Hid (Kp w w3) := K2.out.below H3.out.2
       have A3 : Hid (Arr .u8 61 w3 w.heap.size Zb32) := K3.out.out
       have L3 : Hid (d.length = 32) := by rw [H3.out.1]; unfold Gs.sum; split <;> exact digest_length _)
    | (refine wpList_st0 (t := 61) (l := Zb32) (l2 := d) (by rfl) (by rfl) 61 (.tmp 2) (.tmp 9) (by rfl) (by rfl) (by rfl) A3 (by rw [L3.out]; exact sz25) (by rw [L3.out]; rfl) ?_))
  refine bodyPost_ret (v := .agg (cs .u8 d)) (res_arr (by rfl) (by rfl) (A3.out.setRow d) und25 (by rw [L3.out]; exact sz25)) rfl ?_
  exact ⟨d, rfl, H3.out.1, (Oth.setRow _).below K3.out.bel (Nat.le_refl _)⟩
end Go.Proofs.YtmkknklkdgkbaaaDoor
