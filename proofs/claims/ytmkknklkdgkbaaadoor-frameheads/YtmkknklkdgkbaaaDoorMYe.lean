import Derived.Test.YtmkknklkdgkbaaaDoorMYc
import Derived.Test.YtmkknklkdgkbaaaDoorMYd
import Derived.Lib.AppendZeros
/- Ye -/
/- The document's own Reader: Num and Bytes. -/
namespace Go.Proofs.YtmkknklkdgkbaaaDoor
open Go.ChangeShapes Go.WideShapes Go.ChangeAt Go.RowKit
set_option maxRecDepth 20000
set_option linter.unusedVariables false
set_option linter.unusedSimpArgs false
/- a Reader of the document's at block g: its bytes are whoever's -/
structure Rrf (w : World) (g : Nat) (a : Option Addr) (n c : Nat) (l : List Nat) (p : Nat) : Prop where
  blk : w.heap[g]? = some (.cells #[.slice a n c, .int .i64 (p : Int)] 74 (0, 0))
  sl : Sln w a n l
  nc : n ≤ c
  z : a = none → c = 0
  ne : ∀ b off, l ≠ [] → a = some ⟨b, off, none⟩ → b ≠ g
  le : p ≤ n
theorem Rrf.lt {w : World} {g : Nat} {a : Option Addr} {n c : Nat} {l : List Nat} {p : Nat} (h : Rrf w g a n c l p) : g < w.heap.size := (Array.getElem?_eq_some_iff.1 h.blk).1
theorem Rrf.c0 {w : World} {g : Nat} {a : Option Addr} {n c : Nat} {l : List Nat} {p : Nat} (h : Rrf w g a n c l p) : w.cell? ⟨g, 0, none⟩ = some (.slice a n c) := by
  have := h.blk
  simp [World.cell?, this]
theorem Rrf.c1 {w : World} {g : Nat} {a : Option Addr} {n c : Nat} {l : List Nat} {p : Nat} (h : Rrf w g a n c l p) : w.cell? ⟨g, 1, none⟩ = some (.int .i64 (p : Int)) := by
  have := h.blk
  simp [World.cell?, this]
theorem Rrf.below {w w' : World} {g : Nat} {a : Option Addr} {n c : Nat} {l : List Nat} {p : Nat} (h : Rrf w g a n c l p) (hb : Below w.heap.size w w') : Rrf w' g a n c l p := ⟨(hb.block g h.lt).trans h.blk, h.sl.below hb, h.nc, h.z, h.ne, h.le⟩
theorem Rrf.drewN {w : World} {g : Nat} {a : Option Addr} {n c : Nat} {l : List Nat} {p : Nat} (h : Rrf w g a n c l p) (j : Nat) : Rrf (w.drewN j) g a n c l p := h.below (below_drewN (Below.refl _ _) j)
theorem Rrf.go {w : World} {g : Nat} {a : Option Addr} {n c : Nat} {l : List Nat} {p : Nat} (h : Rrf w g a n c l p) {q : Nat} (hq : q ≤ n) : Rrf (w.setCell ⟨g, 1, none⟩ (.int .i64 (q : Int))) g a n c l q ∧ Wfr w (w.setCell ⟨g, 1, none⟩ (.int .i64 (q : Int))) g none :=
  ⟨⟨by rw [set_blk h.blk]; rfl, ((Wfr.refl w g none).setCell 1 _).sln h.sl (fun b off h1 h2 => ⟨h.ne b off h1 h2, by simp [blkOf]⟩), h.nc, h.z, h.ne, hq⟩, (Wfr.refl w g none).setCell 1 _⟩
theorem wfr_below {w w' : World} (g : Nat) (hB : Below w.heap.size w w') : Wfr w w' g none := ⟨hB.os, hB.tape, hB.output, hB.size, fun k hk _ _ => hB.block k hk⟩
set_option maxHeartbeats 1000000 in
theorem refrnum_any {w : World} {g : Nat} {a : Option Addr} {n c : Nat} {l : List Nat} {p : Nat} {z : Int} (hR : Hid (Rrf w g a n c l p)) :
    Calls Tryd.prog 40 #[.pointer (some ⟨g, 0, none⟩), .int .i64 z] w fun e w' => ∃ (k q : Nat), e = .returned (.tuple #[.int .i64 (k : Int), .int .i64 (q : Int)]) ∧ Hid (k = (rdN l p z).1 ∧ q = (rdN l p z).2.1 ∧ Rrf w' g a n c l (rdN l p z).2.2 ∧ Wfr w w' g none) := by
  obtain ⟨N, S, ok, hN0⟩ : ∃ N S ok, nat 9 (l.drop p) 0 0 = (N, S, ok) := ⟨_, _, _, rfl⟩
  have hN : Hid (nat 9 (l.drop p) 0 0 = (N, S, ok)) := hN0
  have hp := hR.out.le
  have hnc := hR.out.nc
  have S0 : Hid (Sln w.drew a n l) := hR.out.sl.drew
  have BW : Hid (Below w.heap.size w w.drew) := below_drewN (Below.refl _ _) 1
  have d0 : w.drew.cell? ⟨g, 0, none⟩ = some (.slice a n c) := (hR.out.drewN 1).c0
  have d1 : w.drew.cell? ⟨g, 1, none⟩ = some (.int .i64 (p : Int)) := (hR.out.drewN 1).c1
  obtain ⟨V, HV⟩ : ∃ V, Hid ((if ok then N else 0) = V) := ⟨_, rfl⟩
  obtain ⟨X, HX⟩ : ∃ X, Hid ((if ok then p + S else 0) = X) := ⟨_, rfl⟩
  have HB : Hid (ok = true → p + S ≤ n) := by
    intro h
    have hb := nat_bound 9 (l.drop p) 0 0 (by simp) (by rw [hN0]; exact h)
    rw [hN0] at hb
    have h1 := hb.2.2.1
    have h2 := hR.out.sl.len
    simp only [List.length_drop] at h1
    omega
  clear hN0
  go_enter Tryd.func40, Tryd.ntmps40
  go_upto_region 1 with (fail)
  go_region_held (fun w' => w'.cell? ⟨g, 0, none⟩ = some (.slice a n c) ∧ w'.cell? ⟨g, 1, none⟩ = some (.int .i64 (p : Int))) (exact ⟨d0, d1⟩) (first
    | (go_at_call 60; refine (refread_n S0 hnc hp hN).mono ?_; rintro e w1 ⟨rfl, H1⟩; rw [HV.out, HX.out]
       have B1 : Hid (Below w.heap.size w w1) := BW.out.trans H1.out
       have R1 : Hid (Rrf w1 g a n c l p) := hR.out.below B1.out
       have d0 := R1.out.c0
       have d1 := R1.out.c1))
  all_goals
    cases ok with
    | false =>
      have FIN : Hid (0 = (rdN l p z).1 ∧ 5 = (rdN l p z).2.1 ∧ Rrf w1 g a n c l (rdN l p z).2.2 ∧ Wfr w w1 g none) := by rw [rdN_bad (z := z) hN.out (fun h => by cases h)]; exact ⟨rfl, rfl, R1.out, wfr_below g B1.out⟩
      go_wp2
      go_ret2
      exact ⟨0, 5, rfl, FIN.out⟩
    | true =>
      by_cases hz : (N : Int) ≤ z
      · have eV : V = N := HV.out.symm
        have eX : X = p + S := HX.out.symm
        subst eV
        have hX : X ≤ n := by rw [eX]; exact HB.out rfl
        have G := R1.out.go hX
        have f1 : w1.frozen? ⟨g, 1, none⟩ = false := fz R1.out.blk 1
        have iz : ¬ (z < (V : Int)) := by omega
        have FIN : Hid (V = (rdN l p z).1 ∧ 0 = (rdN l p z).2.1 ∧ Rrf (w1.setCell ⟨g, 1, none⟩ (.int .i64 (X : Int))) g a n c l (rdN l p z).2.2 ∧ Wfr w (w1.setCell ⟨g, 1, none⟩ (.int .i64 (X : Int))) g none) := by rw [rdN_ok hN.out hz, ← eX]; exact ⟨rfl, rfl, G.1, (wfr_below g B1.out).none_trans G.2⟩
        clear G eX HV HX
        go_wp2
        go_ret2
        exact ⟨V, 0, rfl, FIN.out⟩
      · have eV : V = N := HV.out.symm
        subst eV
        have iz : z < (V : Int) := by omega
        have FIN : Hid (0 = (rdN l p z).1 ∧ 5 = (rdN l p z).2.1 ∧ Rrf w1 g a n c l (rdN l p z).2.2 ∧ Wfr w w1 g none) := by rw [rdN_bad (z := z) hN.out (fun _ => iz)]; exact ⟨rfl, rfl, R1.out, wfr_below g B1.out⟩
        clear HV HX
        go_wp2
        go_ret2
        exact ⟨0, 5, rfl, FIN.out⟩
/- what is cut out of a row -/
theorem slice_cut {w : World} {a : Option Addr} {n c q r N : Nat} {l : List Nat} (h : Sln w a n l) (hz : a = none → c = 0) (hnc : n ≤ c) (hr : q + N = r) (hn : r ≤ n) : Sln w (if c = q then a else a.map (·.add q)) (r - q) ((l.drop q).take N) ∧ ((if c = q then a else a.map (·.add q)) = none → c - q = 0) := by
  refine ⟨?_, fun h1 => ?_⟩
  · have h1 := slice_from h (lo := q) (by omega) hnc
    have h2 := h1.take (k := r - q) (by omega)
    rw [show r - q = N by omega] at h2 ⊢
    exact h2
  · by_cases hcq : c = q
    · omega
    · rw [if_neg hcq] at h1
      have := hz (by simpa using h1)
      omega
/- a Reader's two cells -/
def rS (g : Nat) (a : Option Addr) (n c r : Nat) (_ : Array Bool) (W : World) : Prop := W.cell? ⟨g, 0, none⟩ = some (.slice a n c) ∧ W.cell? ⟨g, 1, none⟩ = some (.int .i64 (r : Int))
set_option maxHeartbeats 2000000 in
theorem refrbytes_any {w : World} {g : Nat} {a : Option Addr} {n c : Nat} {l : List Nat} {p : Nat} {z : Int} (hR : Hid (Rrf w g a n c l p)) :
    Calls Tryd.prog 38 #[.pointer (some ⟨g, 0, none⟩), .int .i64 z] w fun e w' => ∃ (a' : Option Addr) (m c' q : Nat), e = .returned (.tuple #[.slice a' m c', .int .i64 (q : Int)]) ∧ Hid (Own w' w.heap.size a' m c' (rdB l p z).1 ∧ q = (rdB l p z).2.1 ∧ Rrf w' g a n c l (rdB l p z).2.2 ∧ Wfr w w' g none) := by
  obtain ⟨N, S, ok, hN0⟩ : ∃ N S ok, nat 9 (l.drop p) 0 0 = (N, S, ok) := ⟨_, _, _, rfl⟩
  have hN : Hid (nat 9 (l.drop p) 0 0 = (N, S, ok)) := hN0
  have hp := hR.out.le
  have hnc := hR.out.nc
  have hm := hR.out.sl.sli.2.1
  have hl : Hid (n = l.length) := hR.out.sl.len
  rw [← hl.out] at hm
  have S0 : Hid (Sln w.drew a n l) := hR.out.sl.drew
  have BW : Hid (Below w.heap.size w w.drew) := below_drewN (Below.refl _ _) 1
  have d0 : w.drew.cell? ⟨g, 0, none⟩ = some (.slice a n c) := (hR.out.drewN 1).c0
  have d1 : w.drew.cell? ⟨g, 1, none⟩ = some (.int .i64 (p : Int)) := (hR.out.drewN 1).c1
  obtain ⟨V, HV⟩ : ∃ V, Hid ((if ok then N else 0) = V) := ⟨_, rfl⟩
  obtain ⟨X, HX⟩ : ∃ X, Hid ((if ok then p + S else 0) = X) := ⟨_, rfl⟩
  have HB : Hid (ok = true → p + S ≤ n ∧ N < 9223372036854775808) := by
    intro h
    have hb := nat_bound 9 (l.drop p) 0 0 (by simp) (by rw [hN0]; exact h)
    rw [hN0] at hb
    have h1 := hb.2.2.1
    have h2 := hl.out
    simp only [List.length_drop] at h1
    have h3 := hb.1
    simp only at h3
    exact ⟨by omega, by omega⟩
  clear hN0
  go_enter Tryd.func38, Tryd.ntmps38
  go_upto_region 1 with (fail)
  go_region_held (fun w' => w'.cell? ⟨g, 0, none⟩ = some (.slice a n c) ∧ w'.cell? ⟨g, 1, none⟩ = some (.int .i64 (p : Int))) (exact ⟨d0, d1⟩) (first
    | (go_at_call 60; refine (refread_n S0 hnc hp hN).mono ?_; rintro e w1 ⟨rfl, H1⟩; rw [HV.out, HX.out]
       have B1 : Hid (Below w.heap.size w w1) := BW.out.trans H1.out
       have R1 : Hid (Rrf w1 g a n c l p) := hR.out.below B1.out
       have d0 := R1.out.c0
       have d1 := R1.out.c1))
  all_goals
    cases ok with
    | false =>
      have FIN : Hid (Own w1 w.heap.size none 0 0 (rdB l p z).1 ∧ 5 = (rdB l p z).2.1 ∧ Rrf w1 g a n c l (rdB l p z).2.2 ∧ Wfr w w1 g none) := by rw [rdB_bad (z := z) hN.out (fun h => by cases h)]; exact ⟨Own.nil _ _, rfl, R1.out, wfr_below g B1.out⟩
      go_wp2
      go_ret2
      exact ⟨none, 0, 0, 5, rfl, FIN.out⟩
    | true =>
      have eV : V = N := HV.out.symm
      subst eV
      have eX : X = p + S := HX.out.symm
      have hX : X ≤ n := by rw [eX]; exact (HB.out rfl).1
      have hV : V < 9223372036854775808 := (HB.out rfl).2
      have HX2 : Hid (X = p + S) := eX
      clear eX HV HX HB
      by_cases hz : (V : Int) ≤ z
      · have iz : ¬ (z < (V : Int)) := by omega
        obtain ⟨u, Hu⟩ : ∃ u, Hid (n - X = u) := ⟨_, rfl⟩
        have eu : (n : Int) - (X : Int) = (u : Int) := by have := Hu.out; omega
        have hu : u ≤ 140737488352256 := by rw [← Hu.out]; omega
        by_cases hf : V ≤ u
        · have if1 : ¬ ((u : Int) < (V : Int)) := by omega
          obtain ⟨r, Hr⟩ : ∃ r, Hid (X + V = r) := ⟨_, rfl⟩
          have er' : (X : Int) + (V : Int) = (r : Int) := by have := Hr.out; omega
          have hr : r ≤ n := by have h1 := Hr.out; have h2 := Hu.out; omega
          have hXr : X ≤ r := by have h1 := Hr.out; omega
          have hrc : r ≤ c := by omega
          have hrm : r ≤ 140737488352256 := by omega
          have hXm : X ≤ 140737488352256 := by omega
          have f1 : w1.frozen? ⟨g, 1, none⟩ = false := fz R1.out.blk 1
          have G := R1.out.go hr
          obtain ⟨w4, W4⟩ : ∃ w4, Hid (w1.setCell ⟨g, 1, none⟩ (.int .i64 (r : Int)) = w4) := ⟨_, rfl⟩
          rw [W4.out] at G
          have R4 : Hid (Rrf w4 g a n c l r) := G.1
          have F4 : Hid (Wfr w w4 g none) := (wfr_below g B1.out).none_trans G.2
          have RB : Hid (rdB l p z = ((l.drop X).take V, 0, r)) := by
            rw [rdB_ok hN.out hz (by have h1 := Hr.out; have h2 := HX2.out; have h3 := hl.out; omega), ← HX2.out, Hr.out]
            exact rfl
          clear G
          go_upto_region 5 with (fail)
          rw [W4.out]
          obtain ⟨W, HW⟩ : ∃ W, Hid (w4.drew = W) := ⟨_, rfl⟩
          have R5 : Hid (Rrf W g a n c l r) := by rw [← HW.out]; exact R4.out.drewN 1
          have F5 : Hid (Wfr w W g none) := by rw [← HW.out]; exact F4.out.none_trans (wfr_drewN _ g 1)
          have HS4 : Hid (rS g a n c r (Array.replicate 1 false) W) := ⟨R5.out.c0, R5.out.c1⟩
          have A5 : Below W.heap.size W (W.alloc (.cells #[] 5)) := (Below.refl _ _).alloc (Nat.le_refl _) _
          have R6 := R5.out.below A5
          have HS5 : Hid (rS g a n c r (Array.replicate 1 false) (W.alloc (.cells #[] 5))) := ⟨R6.c0, R6.c1⟩
          have SC := slice_cut R6.sl R6.z R6.nc Hr.out hr
          obtain ⟨a6, c6, w6, hrun, own6, gr6, new6⟩ := app_any (c2 := c - X) (own_empty W) SC.1 SC.2 (by omega) (by simp)
          rw [Nat.zero_add] at hrun own6
          rw [List.nil_append] at own6
          have B6 : Below W.heap.size W w6 := A5.grown gr6 (by simp) (fun j hj => by simp [blkOf] at hj; omega)
          have R7 := R5.out.below B6
          have HS6 : Hid (rS g a n c r (Array.replicate 1 false) w6) := ⟨R7.c0, R7.c1⟩
          have FIN : Hid (Own w6 w.heap.size a6 (r - X) c6 (rdB l p z).1 ∧ 0 = (rdB l p z).2.1 ∧ Rrf w6 g a n c l (rdB l p z).2.2 ∧ Wfr w w6 g none) := by rw [RB.out]; exact ⟨own6.base F5.out.size, rfl, R7, F5.out.none_trans (wfr_below g B6)⟩
          clear own6 gr6 new6 A5 R6 SC B6 R7 R5 F5 R4 F4 W4 RB
          by_cases hcX : c = X
          · rw [if_pos hcX] at hrun
            subst hcX
            obtain rfl : c = r := by omega
            simp only [Nat.sub_self] at hrun FIN
            have AP : Hid ((Builtin.append_ #[26, 26] 26 #[.slice (some ⟨W.heap.size, 0, none⟩) 0 0, .slice a 0 0]).run Tryd.prog (W.alloc (.cells #[] 5)) = .ok (.slice a6 0 c6) w6) := hrun
            clear hrun
            refine wp_region_till (S := rS g a n c c) (by kernel_rfl) ?_ (fun hS => ?_)
            · rw [HW.out]; exact HS4.out
            rw [HW.out] at hS ⊢
            clear HW
            refine till_take (i := 1) (v := .pointer (some ⟨g, 0, none⟩)) rfl (by kernel_rfl) (by kernel_rfl) (by kernel_rfl) (fun _ _ _ h => h) (fun L w => Iff.rfl) (Or.inl ⟨by rfl, fun w => by go_simp⟩) hS (fun hSb => ?_)
            simp only [List.getElem_toArray, List.getElem_cons_zero, List.getElem_cons_succ, Act.put, List.setIfInBounds_toArray, List.set_cons_zero, List.set_cons_succ]
            clear hS
            refine till_take (i := 2) (v := .pointer (some ⟨g, 0, none⟩)) rfl (by kernel_rfl) (by kernel_rfl) (by kernel_rfl) (fun _ _ _ h => h) (fun L w => Iff.rfl) (Or.inl ⟨by rfl, fun w => by go_simp⟩) hSb (fun hS => ?_)
            simp only [List.getElem_toArray, List.getElem_cons_zero, List.getElem_cons_succ, Act.put, List.setIfInBounds_toArray, List.set_cons_zero, List.set_cons_succ]
            clear hSb
            refine till_take (i := 3) (v := .pointer (some ⟨g, 0, none⟩)) rfl (by kernel_rfl) (by kernel_rfl) (by kernel_rfl) (fun _ _ _ h => h) (fun L w => Iff.rfl) (Or.inl ⟨by rfl, fun w => by go_simp⟩) hS (fun hSb => ?_)
            simp only [List.getElem_toArray, List.getElem_cons_zero, List.getElem_cons_succ, Act.put, List.setIfInBounds_toArray, List.set_cons_zero, List.set_cons_succ]
            clear hS
            refine till_read (i := 4) (c := 10) (v := .slice a n c) rfl rfl (by kernel_rfl) (by kernel_rfl) (by kernel_rfl) (by kernel_rfl) (by kernel_rfl) (fun _ _ _ h => h) (fun L w => Iff.rfl) (fun L w h1 h2 => h2) (Or.inl ⟨by rfl, fun w hSw => by (try dsimp only at hSw); go_simp⟩) hSb (fun hS => ?_)
            simp only [List.getElem_toArray, List.getElem_cons_zero, List.getElem_cons_succ, Act.put, List.setIfInBounds_toArray, List.set_cons_zero, List.set_cons_succ]
            clear hSb
            refine till_take (i := 5) (v := .int .i64 (c : Int)) rfl (by kernel_rfl) (by kernel_rfl) (by kernel_rfl) (fun _ _ _ h => h) (fun L w => Iff.rfl) (Or.inl ⟨by rfl, fun w => by go_simp⟩) hS (fun hSb => ?_)
            simp only [List.getElem_toArray, List.getElem_cons_zero, List.getElem_cons_succ, Act.put, List.setIfInBounds_toArray, List.set_cons_zero, List.set_cons_succ]
            clear hS
            refine till_take (i := 6) (v := .pointer (some ⟨g, 0, none⟩)) rfl (by kernel_rfl) (by kernel_rfl) (by kernel_rfl) (fun _ _ _ h => h) (fun L w => Iff.rfl) (Or.inl ⟨by rfl, fun w => by go_simp⟩) hSb (fun hS => ?_)
            simp only [List.getElem_toArray, List.getElem_cons_zero, List.getElem_cons_succ, Act.put, List.setIfInBounds_toArray, List.set_cons_zero, List.set_cons_succ]
            clear hSb
            refine till_take (i := 7) (v := .pointer (some ⟨g, 0, none⟩)) rfl (by kernel_rfl) (by kernel_rfl) (by kernel_rfl) (fun _ _ _ h => h) (fun L w => Iff.rfl) (Or.inl ⟨by rfl, fun w => by go_simp⟩) hS (fun hSb => ?_)
            simp only [List.getElem_toArray, List.getElem_cons_zero, List.getElem_cons_succ, Act.put, List.setIfInBounds_toArray, List.set_cons_zero, List.set_cons_succ]
            clear hS
            refine till_take (i := 8) (v := .pointer (some ⟨g, 1, none⟩)) rfl (by kernel_rfl) (by kernel_rfl) (by kernel_rfl) (fun _ _ _ h => h) (fun L w => Iff.rfl) (Or.inl ⟨by rfl, fun w => by go_simp⟩) hSb (fun hS => ?_)
            simp only [List.getElem_toArray, List.getElem_cons_zero, List.getElem_cons_succ, Act.put, List.setIfInBounds_toArray, List.set_cons_zero, List.set_cons_succ]
            clear hSb
            refine till_read (i := 9) (c := 10) (v := .int .i64 (c : Int)) rfl rfl (by kernel_rfl) (by kernel_rfl) (by kernel_rfl) (by kernel_rfl) (by kernel_rfl) (fun _ _ _ h => h) (fun L w => Iff.rfl) (fun L w h1 h2 => h2) (Or.inl ⟨by rfl, fun w hSw => by (try dsimp only at hSw); go_simp⟩) hS (fun hSb => ?_)
            simp only [List.getElem_toArray, List.getElem_cons_zero, List.getElem_cons_succ, Act.put, List.setIfInBounds_toArray, List.set_cons_zero, List.set_cons_succ]
            clear hS
            refine till_take (i := 10) (v := .slice a 0 0) rfl (by kernel_rfl) (by kernel_rfl) (by kernel_rfl) (fun _ _ _ h => h) (fun L w => Iff.rfl) (Or.inl ⟨by rfl, fun w => by go_simp⟩) hSb (fun hS => ?_)
            simp only [List.getElem_toArray, List.getElem_cons_zero, List.getElem_cons_succ, Act.put, List.setIfInBounds_toArray, List.set_cons_zero, List.set_cons_succ]
            clear hSb
            refine till_one (i := 0) (by kernel_rfl) rfl (fun K hK => ?_)
            simp only [List.getElem_toArray, List.getElem_cons_zero, List.getElem_cons_succ]
            rw [if_pos (by rfl)]
            go_simp
            refine hK.out _ _ (HS5.out) (fun hSb => ?_)
            clear hK K
            try simp only [List.getElem_toArray, List.getElem_cons_zero, List.getElem_cons_succ, Act.put, List.setIfInBounds_toArray, List.set_cons_zero, List.set_cons_succ]
            clear hS
            refine till_one (i := 11) (by kernel_rfl) rfl (fun K hK => ?_)
            simp only [List.getElem_toArray, List.getElem_cons_zero, List.getElem_cons_succ]
            rw [if_pos (by rfl)]
            refine Lib.wp_append_run _ (.tmp 46) (.tmp 56) 26 26 (by rfl) _ _ (by rfl) (by rfl) _ _ AP.out ?_
            refine hK.out _ _ (HS6.out) (fun hS => ?_)
            clear hK K
            try simp only [List.getElem_toArray, List.getElem_cons_zero, List.getElem_cons_succ, Act.put, List.setIfInBounds_toArray, List.set_cons_zero, List.set_cons_succ]
            clear hSb
            refine till_one (i := 12) (by kernel_rfl) rfl (fun K hK => ?_)
            simp only [List.getElem_toArray, List.getElem_cons_zero, List.getElem_cons_succ]
            rw [if_pos (by rfl)]
            go_simp
            refine hK.out _ _ (HS6.out) (fun hSb => ?_)
            clear hK K
            try simp only [List.getElem_toArray, List.getElem_cons_zero, List.getElem_cons_succ, Act.put, List.setIfInBounds_toArray, List.set_cons_zero, List.set_cons_succ]
            clear hS
            refine till_one (i := 13) (by kernel_rfl) rfl (fun K hK => ?_)
            simp only [List.getElem_toArray, List.getElem_cons_zero, List.getElem_cons_succ]
            rw [if_pos (by rfl)]
            go_simp
            refine hK.out _ _ (HS6.out) (fun hS => ?_)
            clear hK K
            try simp only [List.getElem_toArray, List.getElem_cons_zero, List.getElem_cons_succ, Act.put, List.setIfInBounds_toArray, List.set_cons_zero, List.set_cons_succ]
            clear hSb
            refine till_done (by kernel_rfl) ?_ _
            clear hS
            go_wp2
            go_ret2
            exact ⟨a6, 0, c6, 0, rfl, FIN.out⟩
          · rw [if_neg hcX] at hrun
            have AP : Hid ((Builtin.append_ #[26, 26] 26 #[.slice (some ⟨W.heap.size, 0, none⟩) 0 0, .slice (a.map (·.add X)) (r - X) (c - X)]).run Tryd.prog (W.alloc (.cells #[] 5)) = .ok (.slice a6 (r - X) c6) w6) := hrun
            clear hrun
            refine wp_region_till (S := rS g a n c r) (by kernel_rfl) ?_ (fun hS => ?_)
            · rw [HW.out]; exact HS4.out
            rw [HW.out] at hS ⊢
            clear HW
            refine till_take (i := 1) (v := .pointer (some ⟨g, 0, none⟩)) rfl (by kernel_rfl) (by kernel_rfl) (by kernel_rfl) (fun _ _ _ h => h) (fun L w => Iff.rfl) (Or.inl ⟨by rfl, fun w => by go_simp⟩) hS (fun hSb => ?_)
            simp only [List.getElem_toArray, List.getElem_cons_zero, List.getElem_cons_succ, Act.put, List.setIfInBounds_toArray, List.set_cons_zero, List.set_cons_succ]
            clear hS
            refine till_take (i := 2) (v := .pointer (some ⟨g, 0, none⟩)) rfl (by kernel_rfl) (by kernel_rfl) (by kernel_rfl) (fun _ _ _ h => h) (fun L w => Iff.rfl) (Or.inl ⟨by rfl, fun w => by go_simp⟩) hSb (fun hS => ?_)
            simp only [List.getElem_toArray, List.getElem_cons_zero, List.getElem_cons_succ, Act.put, List.setIfInBounds_toArray, List.set_cons_zero, List.set_cons_succ]
            clear hSb
            refine till_take (i := 3) (v := .pointer (some ⟨g, 0, none⟩)) rfl (by kernel_rfl) (by kernel_rfl) (by kernel_rfl) (fun _ _ _ h => h) (fun L w => Iff.rfl) (Or.inl ⟨by rfl, fun w => by go_simp⟩) hS (fun hSb => ?_)
            simp only [List.getElem_toArray, List.getElem_cons_zero, List.getElem_cons_succ, Act.put, List.setIfInBounds_toArray, List.set_cons_zero, List.set_cons_succ]
            clear hS
            refine till_read (i := 4) (c := 10) (v := .slice a n c) rfl rfl (by kernel_rfl) (by kernel_rfl) (by kernel_rfl) (by kernel_rfl) (by kernel_rfl) (fun _ _ _ h => h) (fun L w => Iff.rfl) (fun L w h1 h2 => h2) (Or.inl ⟨by rfl, fun w hSw => by (try dsimp only at hSw); go_simp⟩) hSb (fun hS => ?_)
            simp only [List.getElem_toArray, List.getElem_cons_zero, List.getElem_cons_succ, Act.put, List.setIfInBounds_toArray, List.set_cons_zero, List.set_cons_succ]
            clear hSb
            refine till_take (i := 5) (v := .int .i64 (X : Int)) rfl (by kernel_rfl) (by kernel_rfl) (by kernel_rfl) (fun _ _ _ h => h) (fun L w => Iff.rfl) (Or.inl ⟨by rfl, fun w => by go_simp⟩) hS (fun hSb => ?_)
            simp only [List.getElem_toArray, List.getElem_cons_zero, List.getElem_cons_succ, Act.put, List.setIfInBounds_toArray, List.set_cons_zero, List.set_cons_succ]
            clear hS
            refine till_take (i := 6) (v := .pointer (some ⟨g, 0, none⟩)) rfl (by kernel_rfl) (by kernel_rfl) (by kernel_rfl) (fun _ _ _ h => h) (fun L w => Iff.rfl) (Or.inl ⟨by rfl, fun w => by go_simp⟩) hSb (fun hS => ?_)
            simp only [List.getElem_toArray, List.getElem_cons_zero, List.getElem_cons_succ, Act.put, List.setIfInBounds_toArray, List.set_cons_zero, List.set_cons_succ]
            clear hSb
            refine till_take (i := 7) (v := .pointer (some ⟨g, 0, none⟩)) rfl (by kernel_rfl) (by kernel_rfl) (by kernel_rfl) (fun _ _ _ h => h) (fun L w => Iff.rfl) (Or.inl ⟨by rfl, fun w => by go_simp⟩) hS (fun hSb => ?_)
            simp only [List.getElem_toArray, List.getElem_cons_zero, List.getElem_cons_succ, Act.put, List.setIfInBounds_toArray, List.set_cons_zero, List.set_cons_succ]
            clear hS
            refine till_take (i := 8) (v := .pointer (some ⟨g, 1, none⟩)) rfl (by kernel_rfl) (by kernel_rfl) (by kernel_rfl) (fun _ _ _ h => h) (fun L w => Iff.rfl) (Or.inl ⟨by rfl, fun w => by go_simp⟩) hSb (fun hS => ?_)
            simp only [List.getElem_toArray, List.getElem_cons_zero, List.getElem_cons_succ, Act.put, List.setIfInBounds_toArray, List.set_cons_zero, List.set_cons_succ]
            clear hSb
            refine till_read (i := 9) (c := 10) (v := .int .i64 (r : Int)) rfl rfl (by kernel_rfl) (by kernel_rfl) (by kernel_rfl) (by kernel_rfl) (by kernel_rfl) (fun _ _ _ h => h) (fun L w => Iff.rfl) (fun L w h1 h2 => h2) (Or.inl ⟨by rfl, fun w hSw => by (try dsimp only at hSw); go_simp⟩) hS (fun hSb => ?_)
            simp only [List.getElem_toArray, List.getElem_cons_zero, List.getElem_cons_succ, Act.put, List.setIfInBounds_toArray, List.set_cons_zero, List.set_cons_succ]
            clear hS
            refine till_take (i := 10) (v := .slice (a.map (·.add X)) (r - X) (c - X)) rfl (by kernel_rfl) (by kernel_rfl) (by kernel_rfl) (fun _ _ _ h => h) (fun L w => Iff.rfl) (Or.inl ⟨by rfl, fun w => by go_simp⟩) hSb (fun hS => ?_)
            simp only [List.getElem_toArray, List.getElem_cons_zero, List.getElem_cons_succ, Act.put, List.setIfInBounds_toArray, List.set_cons_zero, List.set_cons_succ]
            clear hSb
            refine till_one (i := 0) (by kernel_rfl) rfl (fun K hK => ?_)
            simp only [List.getElem_toArray, List.getElem_cons_zero, List.getElem_cons_succ]
            rw [if_pos (by rfl)]
            go_simp
            refine hK.out _ _ (HS5.out) (fun hSb => ?_)
            clear hK K
            try simp only [List.getElem_toArray, List.getElem_cons_zero, List.getElem_cons_succ, Act.put, List.setIfInBounds_toArray, List.set_cons_zero, List.set_cons_succ]
            clear hS
            refine till_one (i := 11) (by kernel_rfl) rfl (fun K hK => ?_)
            simp only [List.getElem_toArray, List.getElem_cons_zero, List.getElem_cons_succ]
            rw [if_pos (by rfl)]
            refine Lib.wp_append_run _ (.tmp 46) (.tmp 56) 26 26 (by rfl) _ _ (by rfl) (by rfl) _ _ AP.out ?_
            refine hK.out _ _ (HS6.out) (fun hS => ?_)
            clear hK K
            try simp only [List.getElem_toArray, List.getElem_cons_zero, List.getElem_cons_succ, Act.put, List.setIfInBounds_toArray, List.set_cons_zero, List.set_cons_succ]
            clear hSb
            refine till_one (i := 12) (by kernel_rfl) rfl (fun K hK => ?_)
            simp only [List.getElem_toArray, List.getElem_cons_zero, List.getElem_cons_succ]
            rw [if_pos (by rfl)]
            go_simp
            refine hK.out _ _ (HS6.out) (fun hSb => ?_)
            clear hK K
            try simp only [List.getElem_toArray, List.getElem_cons_zero, List.getElem_cons_succ, Act.put, List.setIfInBounds_toArray, List.set_cons_zero, List.set_cons_succ]
            clear hS
            refine till_one (i := 13) (by kernel_rfl) rfl (fun K hK => ?_)
            simp only [List.getElem_toArray, List.getElem_cons_zero, List.getElem_cons_succ]
            rw [if_pos (by rfl)]
            go_simp
            refine hK.out _ _ (HS6.out) (fun hS => ?_)
            clear hK K
            try simp only [List.getElem_toArray, List.getElem_cons_zero, List.getElem_cons_succ, Act.put, List.setIfInBounds_toArray, List.set_cons_zero, List.set_cons_succ]
            clear hSb
            refine till_done (by kernel_rfl) ?_ _
            clear hS
            go_wp2
            go_ret2
            exact ⟨a6, r - X, c6, 0, rfl, FIN.out⟩
        · have if1 : (u : Int) < (V : Int) := by omega
          have FIN : Hid (Own w1 w.heap.size none 0 0 (rdB l p z).1 ∧ 5 = (rdB l p z).2.1 ∧ Rrf w1 g a n c l (rdB l p z).2.2 ∧ Wfr w w1 g none) := by rw [rdB_bad (z := z) hN.out (fun _ _ => by have h1 := HX2.out; have h2 := Hu.out; have h3 := hl.out; omega)]; exact ⟨Own.nil _ _, rfl, R1.out, wfr_below g B1.out⟩
          go_wp2
          go_ret2
          exact ⟨none, 0, 0, 5, rfl, FIN.out⟩
      · have iz : z < (V : Int) := by omega
        have FIN : Hid (Own w1 w.heap.size none 0 0 (rdB l p z).1 ∧ 5 = (rdB l p z).2.1 ∧ Rrf w1 g a n c l (rdB l p z).2.2 ∧ Wfr w w1 g none) := by rw [rdB_bad (z := z) hN.out (fun _ h => by omega)]; exact ⟨Own.nil _ _, rfl, R1.out, wfr_below g B1.out⟩
        go_wp2
        go_ret2
        exact ⟨none, 0, 0, 5, rfl, FIN.out⟩
end Go.Proofs.YtmkknklkdgkbaaaDoor
