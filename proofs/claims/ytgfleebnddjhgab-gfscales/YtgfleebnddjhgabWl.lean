/- What the Go function GfScales does, for all lists: it returns true, and changes nothing that was there. -/
import Derived.Test.YtgfleebnddjhgabWm
import Derived.Deep.RegionHeld
import Derived.Deep.CutRange
import Derived.WalkLawsBesides
namespace Go.Proofs.Ytgfleebnddjhgab
open Go.ChangeShapes Go.WideShapes Go.ChangeAt Go.RowKit
set_option linter.unusedVariables false
set_option linter.unusedSimpArgs false
/- the box that holds the struct, in a world -/
structure Box (w : World) (g : Nat) (v0 v1 v2 v3 : Value) : Prop where
  c0 : w.cell? ⟨g, 0, none⟩ = some v0
  c1 : w.cell? ⟨g, 1, none⟩ = some v1
  c2 : w.cell? ⟨g, 2, none⟩ = some v2
  c3 : w.cell? ⟨g, 3, none⟩ = some v3
theorem box_new (w w1 : World) (v0 v1 v2 v3 : Value) (t : TypeId) (hb : Below (w.alloc (.cells #[v0, v1, v2, v3] t)).heap.size (w.alloc (.cells #[v0, v1, v2, v3] t)) w1) : Box w1 w.heap.size v0 v1 v2 v3 := by
  have h : ∀ o, w1.cell? ⟨w.heap.size, o, none⟩ = (w.alloc (.cells #[v0, v1, v2, v3] t)).cell? ⟨w.heap.size, o, none⟩ := fun o => hb.cell (p := ⟨w.heap.size, o, none⟩) (by simp)
  exact ⟨by rw [h]; simp, by rw [h]; simp, by rw [h]; simp, by rw [h]; simp⟩
theorem slm {w w' : World} {a : Option Addr} {n g m : Nat} {l L : List Nat} (h : Hid (Sln w a n l)) (q : Hid (Made w w' g m L)) : Hid (Sln w' a n l) := h.out.below q.out.bel
theorem sld {w : World} {a : Option Addr} {n : Nat} {l : List Nat} (h : Hid (Sln w a n l)) : Hid (Sln w.drew a n l) := h.out.drew
theorem blm {w0 w w' : World} {g m : Nat} {L : List Nat} (h : Hid (Below w0.heap.size w0 w)) (q : Hid (Made w w' g m L)) : Hid (Below w0.heap.size w0 w') := h.out.trans (q.out.bel.mono h.out.size)
theorem slr {w w' : World} {g m : Nat} {L : List Nat} (q : Hid (Made w w' g m L)) : Hid (Sln w' (some ⟨g, 0, none⟩) m L) := q.out.sln
theorem bxm {w w' : World} {b g m : Nat} {L : List Nat} {v0 v1 v2 v3 : Value} (h : Hid (Box w b v0 v1 v2 v3)) (q : Hid (Made w w' g m L)) : Hid (Box w' b v0 v1 v2 v3) := by
  have hl := cell_lt h.out.c0
  have e : ∀ o, w'.cell? ⟨b, o, none⟩ = w.cell? ⟨b, o, none⟩ := fun o => q.out.bel.cell (p := ⟨b, o, none⟩) hl
  exact ⟨by rw [e]; exact h.out.c0, by rw [e]; exact h.out.c1, by rw [e]; exact h.out.c2, by rw [e]; exact h.out.c3⟩
theorem bxd {w : World} {b : Nat} {v0 v1 v2 v3 : Value} (h : Hid (Box w b v0 v1 v2 v3)) : Hid (Box w.drew b v0 v1 v2 v3) := ⟨h.out.c0, h.out.c1, h.out.c2, h.out.c3⟩
theorem same_n {a1 a2 : Option Addr} {n1 n2 k1 k2 : Nat} {l1 l2 : List Nat} {w : World} (h1 : Hid (Sln w a1 n1 l1)) (h2 : Hid (Sln w a2 n2 l2)) (he : l1 = l2) :
    Calls Try.prog 8 #[.slice a1 n1 k1, .slice a2 n2 k2] w fun e w' => e = .returned (.bool true) ∧ w' = w := by
  subst he
  have c1 := conv_n (k := k1) h1
  have c2 := conv_n (k := k2) h2
  go_enter Try.func8, Try.ntmps8
  go_wp2
  go_ret
  exact ⟨rfl, rfl⟩
theorem eq_len_lt {w : World} {a : Option Addr} {m nA nB : Nat} {L : List Nat} (h : Hid (Sln w a m L)) (h1 : L.length = max nA nB) (h2 : nA < nB) : ((m : Int) == (nB : Int)) = true := by
  have := h.out.len
  simp; omega
theorem eq_len_ge {w : World} {a : Option Addr} {m nA nB : Nat} {L : List Nat} (h : Hid (Sln w a m L)) (h1 : L.length = max nA nB) (h2 : ¬ nA < nB) : ((m : Int) == (nA : Int)) = true := by
  have := h.out.len
  simp; omega
set_option maxRecDepth 20000 in
set_option maxHeartbeats 4000000 in
theorem scales_any (aA aB aD : Option Addr) (nA nB nD kA kB kD c d : Nat) (lA lB lD : List Nat) (w : World) (hc : c < 256) (hd : d < 256) (A : Hid (Sln w aA nA lA)) (B : Hid (Sln w aB nB lB)) (D : Hid (Sln w aD nD lD)) :
    Calls Try.prog 3 #[.agg #[.slice aA nA kA, .slice aB nB kB, .slice aD nD kD, .int .u8 (c : Int)], .int .u8 (d : Int)] w fun e w' => e = .returned (.bool true) ∧ Below w.heap.size w w' := by
  have hdc := Gm.mul_lt d c hd
  have i1 : Hid (scaled c (addSc lA 1 lB) = addSc (scaled c lA) 1 (scaled c lB)) := scaled_sum c lA lB hc B.out.lt
  have i2 : Hid (scaled d (scaled c lA) = scaled (Gm.mul d c) lA) := scaled_scaled d c lA hd hc A.out.lt
  have i3 : Hid (addSc (addSc lA 1 lB) 1 lD = addSc lA 1 (addSc lB 1 lD)) := sum_assoc lA lB lD B.out.lt D.out.lt
  have i4 : Hid ((scaled c (addSc lA 1 lB)).length = max nA nB) := by rw [A.out.len, B.out.len]; exact (scaled_length _ _).trans (addSc_length _ _ _)
  go_enter Try.func3, Try.ntmps3
  go_upto_region 3 with (go_at_call 4; refine (alive_any _).mono ?_; rintro e w' ⟨rfl, hg, hbl⟩)
  have X : Hid (Box w' w.heap.size (.slice aA nA kA) (.slice aB nB kB) (.slice aD nD kD) (.int .u8 (c : Int))) := box_new w w' _ _ _ _ _ hbl
  have BL : Hid (Below w.heap.size w w') := ((Below.refl w.heap.size w).alloc (Nat.le_refl _) _).trans (hbl.mono (by simp))
  have A : Hid (Sln w' aA nA lA) := A.out.below BL.out
  have B : Hid (Sln w' aB nB lB) := B.out.below BL.out
  have D : Hid (Sln w' aD nD lD) := D.out.below BL.out
  clear hbl hg
  have A : Hid (Sln w'.drew aA nA lA) := A.out.drew
  have B : Hid (Sln w'.drew aB nB lB) := B.out.drew
  have D : Hid (Sln w'.drew aD nD lD) := D.out.drew
  have X : Hid (Box w'.drew w.heap.size (.slice aA nA kA) (.slice aB nB kB) (.slice aD nD kD) (.int .u8 (c : Int))) := bxd X
  have BL : Hid (Below w.heap.size w w'.drew) := BL.out.drew
  have x0 := X.out.c0
  have x1 := X.out.c1
  have x2 := X.out.c2
  have x3 := X.out.c3
  go_region_held (fun w' => w'.cell? ⟨w.heap.size, 0, none⟩ = some (.slice aA nA kA) ∧ w'.cell? ⟨w.heap.size, 1, none⟩ = some (.slice aB nB kB) ∧ w'.cell? ⟨w.heap.size, 2, none⟩ = some (.slice aD nD kD) ∧ w'.cell? ⟨w.heap.size, 3, none⟩ = some (.int .u8 (c : Int))) (exact ⟨X.out.c0, X.out.c1, X.out.c2, X.out.c3⟩) (first | (go_at_call 6; refine (sum_n (by assumption) (by assumption)).mono ?_; rintro e w' ⟨g, m, rfl, hM⟩; have A := slm A hM; have B := slm B hM; have D := slm D hM; have X := bxm X hM; have BL := blm BL hM; have x0 := X.out.c0; have x1 := X.out.c1; have x2 := X.out.c2; have x3 := X.out.c3; have R := slr hM) | (go_at_call 5; refine (scale_n (by assumption) (by assumption)).mono ?_; rintro e w' ⟨g, m, rfl, hM⟩; have A := slm A hM; have B := slm B hM; have D := slm D hM; have X := bxm X hM; have BL := blm BL hM; have x0 := X.out.c0; have x1 := X.out.c1; have x2 := X.out.c2; have x3 := X.out.c3; have R := slr hM) | (go_at_call 7; refine (mul_any _ _ hd hc _).mono ?_; rintro e w' ⟨rfl, rfl⟩))
  have RA := R
  go_wp2
  have A : Hid (Sln w'.drew aA nA lA) := A.out.drew
  have B : Hid (Sln w'.drew aB nB lB) := B.out.drew
  have D : Hid (Sln w'.drew aD nD lD) := D.out.drew
  have X : Hid (Box w'.drew w.heap.size (.slice aA nA kA) (.slice aB nB kB) (.slice aD nD kD) (.int .u8 (c : Int))) := bxd X
  have BL : Hid (Below w.heap.size w w'.drew) := BL.out.drew
  have x0 := X.out.c0
  have x1 := X.out.c1
  have x2 := X.out.c2
  have x3 := X.out.c3
  have RA := sld RA
  have R := sld R
  go_region_held (fun w' => w'.cell? ⟨w.heap.size, 0, none⟩ = some (.slice aA nA kA) ∧ w'.cell? ⟨w.heap.size, 1, none⟩ = some (.slice aB nB kB) ∧ w'.cell? ⟨w.heap.size, 2, none⟩ = some (.slice aD nD kD) ∧ w'.cell? ⟨w.heap.size, 3, none⟩ = some (.int .u8 (c : Int))) (exact ⟨X.out.c0, X.out.c1, X.out.c2, X.out.c3⟩) (first | (go_at_call 6; refine (sum_n (by assumption) (by assumption)).mono ?_; rintro e w' ⟨g, m, rfl, hM⟩; have A := slm A hM; have B := slm B hM; have D := slm D hM; have RA := slm RA hM; have X := bxm X hM; have BL := blm BL hM; have x0 := X.out.c0; have x1 := X.out.c1; have x2 := X.out.c2; have x3 := X.out.c3; have RP := slm R hM; have R := slr hM) | (go_at_call 5; refine (scale_n (by assumption) (by assumption)).mono ?_; rintro e w' ⟨g, m, rfl, hM⟩; have A := slm A hM; have B := slm B hM; have D := slm D hM; have RA := slm RA hM; have X := bxm X hM; have BL := blm BL hM; have x0 := X.out.c0; have x1 := X.out.c1; have x2 := X.out.c2; have x3 := X.out.c3; have RP := slm R hM; have R := slr hM) | (go_at_call 7; refine (mul_any _ _ hd hc _).mono ?_; rintro e w' ⟨rfl, rfl⟩))
  have RB := R
  go_wp2_with (first | (go_at_call 6; refine (sum_n (by assumption) (by assumption)).mono ?_; rintro e w' ⟨g, m, rfl, hM⟩; have A := slm A hM; have B := slm B hM; have D := slm D hM; have RA := slm RA hM; have RB := slm RB hM; have X := bxm X hM; have BL := blm BL hM; have x0 := X.out.c0; have x1 := X.out.c1; have x2 := X.out.c2; have x3 := X.out.c3; have RP := slm R hM; have R := slr hM) | (go_at_call 5; refine (scale_n (by assumption) (by assumption)).mono ?_; rintro e w' ⟨g, m, rfl, hM⟩; have A := slm A hM; have B := slm B hM; have D := slm D hM; have RA := slm RA hM; have RB := slm RB hM; have X := bxm X hM; have BL := blm BL hM; have x0 := X.out.c0; have x1 := X.out.c1; have x2 := X.out.c2; have x3 := X.out.c3; have RP := slm R hM; have R := slr hM) | (go_at_call 7; refine (mul_any _ _ hd hc _).mono ?_; rintro e w' ⟨rfl, rfl⟩))
  have RC := R
  have A : Hid (Sln w'.drew aA nA lA) := A.out.drew
  have B : Hid (Sln w'.drew aB nB lB) := B.out.drew
  have D : Hid (Sln w'.drew aD nD lD) := D.out.drew
  have X : Hid (Box w'.drew w.heap.size (.slice aA nA kA) (.slice aB nB kB) (.slice aD nD kD) (.int .u8 (c : Int))) := bxd X
  have BL : Hid (Below w.heap.size w w'.drew) := BL.out.drew
  have x0 := X.out.c0
  have x1 := X.out.c1
  have x2 := X.out.c2
  have x3 := X.out.c3
  have RA := sld RA
  have RB := sld RB
  have RC := sld RC
  have R := sld R
  go_region_held (fun w' => w'.cell? ⟨w.heap.size, 0, none⟩ = some (.slice aA nA kA) ∧ w'.cell? ⟨w.heap.size, 1, none⟩ = some (.slice aB nB kB) ∧ w'.cell? ⟨w.heap.size, 2, none⟩ = some (.slice aD nD kD) ∧ w'.cell? ⟨w.heap.size, 3, none⟩ = some (.int .u8 (c : Int))) (exact ⟨X.out.c0, X.out.c1, X.out.c2, X.out.c3⟩) (first | (go_at_call 6; refine (sum_n (by assumption) (by assumption)).mono ?_; rintro e w' ⟨g, m, rfl, hM⟩; have A := slm A hM; have B := slm B hM; have D := slm D hM; have RA := slm RA hM; have RB := slm RB hM; have RC := slm RC hM; have X := bxm X hM; have BL := blm BL hM; have x0 := X.out.c0; have x1 := X.out.c1; have x2 := X.out.c2; have x3 := X.out.c3; have RP := slm R hM; have R := slr hM) | (go_at_call 5; refine (scale_n (by assumption) (by assumption)).mono ?_; rintro e w' ⟨g, m, rfl, hM⟩; have A := slm A hM; have B := slm B hM; have D := slm D hM; have RA := slm RA hM; have RB := slm RB hM; have RC := slm RC hM; have X := bxm X hM; have BL := blm BL hM; have x0 := X.out.c0; have x1 := X.out.c1; have x2 := X.out.c2; have x3 := X.out.c3; have RP := slm R hM; have R := slr hM) | (go_at_call 7; refine (mul_any _ _ hd hc _).mono ?_; rintro e w' ⟨rfl, rfl⟩))
  have RE := R
  go_wp2
  have A : Hid (Sln w'.drew aA nA lA) := A.out.drew
  have B : Hid (Sln w'.drew aB nB lB) := B.out.drew
  have D : Hid (Sln w'.drew aD nD lD) := D.out.drew
  have X : Hid (Box w'.drew w.heap.size (.slice aA nA kA) (.slice aB nB kB) (.slice aD nD kD) (.int .u8 (c : Int))) := bxd X
  have BL : Hid (Below w.heap.size w w'.drew) := BL.out.drew
  have x0 := X.out.c0
  have x1 := X.out.c1
  have x2 := X.out.c2
  have x3 := X.out.c3
  have RA := sld RA
  have RB := sld RB
  have RC := sld RC
  have RE := sld RE
  have R := sld R
  go_region_held (fun w' => w'.cell? ⟨w.heap.size, 0, none⟩ = some (.slice aA nA kA) ∧ w'.cell? ⟨w.heap.size, 1, none⟩ = some (.slice aB nB kB) ∧ w'.cell? ⟨w.heap.size, 2, none⟩ = some (.slice aD nD kD) ∧ w'.cell? ⟨w.heap.size, 3, none⟩ = some (.int .u8 (c : Int))) (exact ⟨X.out.c0, X.out.c1, X.out.c2, X.out.c3⟩) (first | (go_at_call 6; refine (sum_n (by assumption) (by assumption)).mono ?_; rintro e w' ⟨g, m, rfl, hM⟩; have A := slm A hM; have B := slm B hM; have D := slm D hM; have RA := slm RA hM; have RB := slm RB hM; have RC := slm RC hM; have RE := slm RE hM; have X := bxm X hM; have BL := blm BL hM; have x0 := X.out.c0; have x1 := X.out.c1; have x2 := X.out.c2; have x3 := X.out.c3; have RP := slm R hM; have R := slr hM) | (go_at_call 5; refine (scale_n (by assumption) (by assumption)).mono ?_; rintro e w' ⟨g, m, rfl, hM⟩; have A := slm A hM; have B := slm B hM; have D := slm D hM; have RA := slm RA hM; have RB := slm RB hM; have RC := slm RC hM; have RE := slm RE hM; have X := bxm X hM; have BL := blm BL hM; have x0 := X.out.c0; have x1 := X.out.c1; have x2 := X.out.c2; have x3 := X.out.c3; have RP := slm R hM; have R := slr hM) | (go_at_call 7; refine (mul_any _ _ hd hc _).mono ?_; rintro e w' ⟨rfl, rfl⟩))
  have RF := R
  go_wp2
  have A : Hid (Sln w'.drew aA nA lA) := A.out.drew
  have B : Hid (Sln w'.drew aB nB lB) := B.out.drew
  have D : Hid (Sln w'.drew aD nD lD) := D.out.drew
  have X : Hid (Box w'.drew w.heap.size (.slice aA nA kA) (.slice aB nB kB) (.slice aD nD kD) (.int .u8 (c : Int))) := bxd X
  have BL : Hid (Below w.heap.size w w'.drew) := BL.out.drew
  have x0 := X.out.c0
  have x1 := X.out.c1
  have x2 := X.out.c2
  have x3 := X.out.c3
  have RA := sld RA
  have RB := sld RB
  have RC := sld RC
  have RE := sld RE
  have RF := sld RF
  have R := sld R
  go_region_held (fun w' => w'.cell? ⟨w.heap.size, 0, none⟩ = some (.slice aA nA kA) ∧ w'.cell? ⟨w.heap.size, 1, none⟩ = some (.slice aB nB kB) ∧ w'.cell? ⟨w.heap.size, 2, none⟩ = some (.slice aD nD kD) ∧ w'.cell? ⟨w.heap.size, 3, none⟩ = some (.int .u8 (c : Int))) (exact ⟨X.out.c0, X.out.c1, X.out.c2, X.out.c3⟩) (first | (go_at_call 6; refine (sum_n (by assumption) (by assumption)).mono ?_; rintro e w' ⟨g, m, rfl, hM⟩; have A := slm A hM; have B := slm B hM; have D := slm D hM; have RA := slm RA hM; have RB := slm RB hM; have RC := slm RC hM; have RE := slm RE hM; have RF := slm RF hM; have X := bxm X hM; have BL := blm BL hM; have x0 := X.out.c0; have x1 := X.out.c1; have x2 := X.out.c2; have x3 := X.out.c3; have RP := slm R hM; have R := slr hM) | (go_at_call 5; refine (scale_n (by assumption) (by assumption)).mono ?_; rintro e w' ⟨g, m, rfl, hM⟩; have A := slm A hM; have B := slm B hM; have D := slm D hM; have RA := slm RA hM; have RB := slm RB hM; have RC := slm RC hM; have RE := slm RE hM; have RF := slm RF hM; have X := bxm X hM; have BL := blm BL hM; have x0 := X.out.c0; have x1 := X.out.c1; have x2 := X.out.c2; have x3 := X.out.c3; have RP := slm R hM; have R := slr hM) | (go_at_call 7; refine (mul_any _ _ hd hc _).mono ?_; rintro e w' ⟨rfl, rfl⟩))
  have RG := R
  have x0 := X.out.c0
  have x1 := X.out.c1
  by_cases hle : nA < nB
  · have e9 := eq_len_lt RA i4.out hle
    go_wp2_with (first | (go_at_call 8; with_reducible refine (same_n RA RB i1.out).mono ?_; rintro e w' ⟨rfl, rfl⟩) | (go_at_call 8; with_reducible refine (same_n RC RE i2.out).mono ?_; rintro e w' ⟨rfl, rfl⟩) | (go_at_call 8; with_reducible refine (same_n RF RG i3.out).mono ?_; rintro e w' ⟨rfl, rfl⟩))
    go_ret
    exact ⟨rfl, BL.out⟩
  · have e9 := eq_len_ge RA i4.out hle
    go_wp2_with (first | (go_at_call 8; with_reducible refine (same_n RA RB i1.out).mono ?_; rintro e w' ⟨rfl, rfl⟩) | (go_at_call 8; with_reducible refine (same_n RC RE i2.out).mono ?_; rintro e w' ⟨rfl, rfl⟩) | (go_at_call 8; with_reducible refine (same_n RF RG i3.out).mono ?_; rintro e w' ⟨rfl, rfl⟩))
    go_ret
    exact ⟨rfl, BL.out⟩
end Go.Proofs.Ytgfleebnddjhgab
