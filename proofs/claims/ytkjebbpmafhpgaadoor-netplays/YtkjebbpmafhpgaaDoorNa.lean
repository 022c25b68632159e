/- Letters that wait, with rising numbers; slices.BinarySearchFunc (f34). -/
import Derived.Test.YtkjebbpmafhpgaaDoorRb
namespace Go.Proofs.YtkjebbpmafhpgaaDoor
open Go.ChangeShapes Go.WideShapes Go.ChangeAt Go.RowKit
set_option maxRecDepth 20000
set_option linter.unusedVariables false
set_option linter.unusedSimpArgs false
structure Lt where
  no : Int
  fm : Int
  tt : Int
  bs : ByteArray
def encL (x : Lt) : List Value := [.int .i64 x.no, .int .i64 x.fm, .int .i64 x.tt, .string x.bs]
def EL : Enc Lt := ⟨encL, 4, fun _ => rfl, by intro x v hv; simp [encL] at hv; rcases hv with rfl | rfl | rfl | rfl <;> rfl⟩
theorem inf71 : (Tryd.prog.info? 71).map (fun i => (i.zero, i.size, i.bytes)) = some (some (.agg #[.int .i64 0, .int .i64 0, .int .i64 0, .string ⟨#[]⟩]), 4, 40) := by kernel_rfl
theorem inz71 : (Tryd.prog.info? 71).map (·.size) = some 4 := by kernel_rfl
/- letters whose numbers rise, from 1 to g -/
structure Ris (X : List Lt) (g : Int) : Prop where
  pw : X.Pairwise (fun x y => x.no < y.no)
  bd : ∀ x ∈ X, 1 ≤ x.no ∧ x.no ≤ g
  sz : ∀ x ∈ X, x.bs.size ≤ 140737488351232
/- the first whose number is not below k -/
def pl (k : Int) (X : List Lt) : Nat := X.findIdx (fun x => decide (k ≤ x.no))
def isL (k : Int) (X : List Lt) : Bool := (X[pl k X]?).any (fun x => x.no == k)
theorem pl_le (k : Int) (X : List Lt) : pl k X ≤ X.length := List.findIdx_le_length
theorem pl_lt {k : Int} {X : List Lt} {i : Nat} {x : Lt} (hx : X[i]? = some x) (hi : i < pl k X) : x.no < k := by
  obtain ⟨h1, rfl⟩ := List.getElem?_eq_some_iff.1 hx
  have := List.not_of_lt_findIdx hi
  simpa using this
theorem pl_ge {k : Int} {X : List Lt} {i : Nat} {x : Lt} (hp : X.Pairwise (fun x y => x.no < y.no)) (hx : X[i]? = some x) (hi : pl k X ≤ i) : k ≤ x.no := by
  obtain ⟨h1, rfl⟩ := List.getElem?_eq_some_iff.1 hx
  have hlt : pl k X < X.length := by omega
  have h2 : k ≤ (X[pl k X]).no := by
    have h4 := List.findIdx_getElem (xs := X) (p := fun x : Lt => decide (k ≤ x.no)) (w := hlt)
    exact of_decide_eq_true h4
  rcases Nat.lt_or_ge (pl k X) i with h3 | h3
  · have := List.pairwise_iff_getElem.1 hp _ _ hlt h1 h3
    omega
  · have : pl k X = i := by omega
    subst this
    exact h2
theorem pl_at {k : Int} {X : List Lt} {i : Nat} {x : Lt} (hp : X.Pairwise (fun x y => x.no < y.no)) (hx : X[i]? = some x) (hk : x.no = k) : pl k X = i ∧ isL k X = true := by
  have h1 : pl k X = i := by
    rcases Nat.lt_trichotomy (pl k X) i with h | h | h
    · have hlt : pl k X < X.length := by have := (List.getElem?_eq_some_iff.1 hx).1; omega
      have h2 := pl_ge hp (List.getElem?_eq_getElem hlt) (Nat.le_refl _)
      have h3 := List.pairwise_iff_getElem.1 hp _ _ hlt (List.getElem?_eq_some_iff.1 hx).1 h
      rw [(List.getElem?_eq_some_iff.1 hx).2] at h3
      omega
    · exact h
    · have := pl_lt hx h; omega
  refine ⟨h1, ?_⟩
  unfold isL
  rw [h1, hx]
  simp [hk]
theorem isL_no {k : Int} {X : List Lt} (h : ∀ x ∈ X, x.no ≠ k) : isL k X = false := by
  unfold isL
  rcases hx : X[pl k X]? with _ | x
  · rfl
  · simpa using h x (List.mem_of_getElem? hx)
theorem isL_yes {k : Int} {X : List Lt} (h : isL k X = true) : ∃ x, X[pl k X]? = some x ∧ x.no = k := by
  unfold isL at h
  rcases hx : X[pl k X]? with _ | x
  · rw [hx] at h; cases h
  · rw [hx] at h
    exact ⟨x, rfl, by simpa using h⟩
def cmpI (x y : Int) : Int := if x < y then -1 else if y < x then 1 else 0
theorem cmpI_neg {a b : Int} (h : cmpI a b < 0) : a < b := by
  unfold cmpI at h
  split at h
  · assumption
  · split at h <;> omega
theorem cmpI_of {a b : Int} (h : a < b) : cmpI a b < 0 := by unfold cmpI; rw [if_pos h]; omega
theorem cmpI_zero (x : Lt) (k : Int) : (some x).any (fun x => x.no == k) = decide (cmpI x.no k = 0) := by
  have e : (some x).any (fun x => x.no == k) = (x.no == k) := rfl
  rw [e]
  unfold cmpI
  by_cases h : x.no < k
  · rw [if_pos h]
    have : ¬ x.no = k := by omega
    simp [this]
  · rw [if_neg h]
    by_cases h2 : k < x.no
    · rw [if_pos h2]
      have : ¬ x.no = k := by omega
      simp [this]
    · rw [if_neg h2]
      have : x.no = k := by omega
      simp [this]
theorem isnan_n (x : Int) (w : World) : Calls Tryd.prog 39 #[.int .i64 x] w fun e w' => e = .returned (.bool false) ∧ w' = w := by
  go_enter Tryd.func39, Tryd.ntmps39
  go_wp2
  go_ret
  exact ⟨by simp, rfl⟩
theorem compare_n (x y : Int) (w : World) : Calls Tryd.prog 36 #[.int .i64 x, .int .i64 y] w fun e w' => e = .returned (.int .i64 (cmpI x y)) ∧ w' = w := by
  go_enter Tryd.func36, Tryd.ntmps36
  by_cases h1 : x < y
  · have e1 : cmpI x y = -1 := by unfold cmpI; rw [if_pos h1]
    go_wp2_with (first
      | (go_at_call 39; refine (isnan_n x _).mono ?_; rintro e w0 ⟨rfl, h00⟩; rw [h00]; clear h00)
      | (go_at_call 39; refine (isnan_n y _).mono ?_; rintro e w0 ⟨rfl, h00⟩; rw [h00]; clear h00))
    go_ret
    exact ⟨by first | rfl | (rw [e1]; rfl), rfl⟩
  · by_cases h2 : y < x
    · have e1 : cmpI x y = 1 := by unfold cmpI; rw [if_neg h1, if_pos h2]
      go_wp2_with (first
        | (go_at_call 39; refine (isnan_n x _).mono ?_; rintro e w0 ⟨rfl, h00⟩; rw [h00]; clear h00)
        | (go_at_call 39; refine (isnan_n y _).mono ?_; rintro e w0 ⟨rfl, h00⟩; rw [h00]; clear h00))
      go_ret
      exact ⟨by first | rfl | (rw [e1]; rfl), rfl⟩
    · have e1 : cmpI x y = 0 := by unfold cmpI; rw [if_neg h1, if_neg h2]
      go_wp2_with (first
        | (go_at_call 39; refine (isnan_n x _).mono ?_; rintro e w0 ⟨rfl, h00⟩; rw [h00]; clear h00)
        | (go_at_call 39; refine (isnan_n y _).mono ?_; rintro e w0 ⟨rfl, h00⟩; rw [h00]; clear h00))
      go_ret
      exact ⟨by first | rfl | (rw [e1]; rfl), rfl⟩
theorem clo35 {w : World} {A : Array Value} {x : Lt} (hA : Hid (A = (EL.e x).toArray)) (k : Int) : Calls Tryd.prog 35 #[.agg A, .int .i64 k] w fun e w' => e = .returned (.int .i64 (cmpI x.no k)) ∧ Hid (Below w.heap.size w w') := by
  have e : A = #[.int .i64 x.no, .int .i64 x.fm, .int .i64 x.tt, .string x.bs] := hA.out
  subst e
  go_enter Tryd.func35, Tryd.ntmps35
  go_wp2_with (go_at_call 36; refine (compare_n _ _ _).mono ?_; rintro e w0 ⟨rfl, h00⟩; rw [h00]; clear h00)
  go_ret
  exact ⟨rfl, alloc1 w _⟩
set_option maxHeartbeats 8000000 in
theorem bsf_n {w : World} {lo : Nat} {a : Option Addr} {n c : Nat} {X : List Lt} (k : Int) (hA : Hid (Rw w lo 71 EL a n c X)) (hn : n ≤ 4096) (hP : Hid (X.Pairwise (fun x y => x.no < y.no))) :
    Calls Tryd.prog 34 #[.slice a n c, .int .i64 k, .func (.func 35) #[] #[]] w fun e w' => e = .returned (.tuple #[.int .i64 (pl k X : Nat), .bool (isL k X)]) ∧ Hid (Below w.heap.size w w') := by
  have LX : Hid (n = X.length) := hA.out.len
  have PLE : Hid (pl k X ≤ n) := by show _ ≤ _; rw [LX.out]; exact pl_le _ _
  obtain ⟨P, HP⟩ : ∃ P, Hid (pl k X = P) := ⟨_, rfl⟩
  have PL2 : P ≤ n := by rw [← HP.out]; exact PLE.out
  rw [HP.out]
  clear PLE
  go_enter Tryd.func34, Tryd.ntmps34
  go_wp2
  go_loopw [9, 10] (fun t9 t10 wr => ∃ (i j : Nat), i ≤ j ∧ j ≤ n ∧ t9 = .int .i64 i ∧ t10 = .int .i64 j ∧ i ≤ P ∧ P ≤ j ∧ Hid (Below w.heap.size w wr)) (fun t9 t10 _ => (intOf t10).toNat - (intOf t9).toNat)
  case atStart => exact ⟨0, n, by omega, by omega, rfl, rfl, by omega, by omega, Below.refl _ _⟩
  case round =>
    obtain ⟨i, j, hij, hjn, rfl, rfl, hiP, hPj, HB⟩ := hrel
    by_cases hlt : i < j
    · have i3 : (i : Int) < (j : Int) := by omega
      obtain ⟨h, Hh⟩ : ∃ h, Hid ((i + j) / 2 = h) := ⟨_, rfl⟩
      have hh : ((i : Int) + (j : Int)) / 2 = (h : Int) := by have := Hh.out; omega
      have hi2 : i ≤ h ∧ h < j := by have := Hh.out; omega
      have hhn : h < n := by omega
      have kx : h < X.length := by rw [← LX.out]; exact hhn
      obtain ⟨b1, rfl, _, _, e1⟩ := (hA.out.below HB.out).at_ kx
      obtain ⟨x, Hx⟩ : ∃ x, Hid (X[h] = x) := ⟨X[h], (rfl : X[h] = X[h])⟩
      rw [Hx.out] at e1
      have EX : Hid (X[h]? = some x) := by show _ = _; rw [← Hx.out]; exact List.getElem?_eq_getElem kx
      obtain ⟨A, HA⟩ : ∃ A, Hid (A = (EL.e x).toArray) := ⟨_, rfl⟩
      have E1 : Hid (wr.rangeAt b1 (h * 4) (EL.e x)) := e1
      clear e1 Hx kx
      obtain ⟨v, Hv⟩ : ∃ v, Hid (cmpI x.no k = v) := ⟨_, rfl⟩
      by_cases hv : v < 0
      · have HN : h + 1 ≤ P := by
          rcases Nat.lt_or_ge h P with q | q
          · exact q
          · have q2 := pl_ge hP.out EX.out (by rw [HP.out]; exact q)
            have q3 := cmpI_neg (by rw [Hv.out]; exact hv)
            omega
        go_wp2_with (first
          | (refine wpList_load_mid (by rfl) 71 (.tmp 27) (by rfl) b1 (h * 4) (by rfl) (EL.e x) _ E1.out Tryd.underlying71 rfl (by rw [EL.len]; exact inz71) ?_; rw [← HA.out])
          | (go_at_call 35; refine (clo35 HA k).mono ?_; rintro e w3 ⟨rfl, H3⟩; rw [Hv.out]))
        go_roundw
        case rel => exact ⟨h + 1, j, by omega, hjn, by go_num, rfl, HN, hPj, HB.out.trans (H3.out.mono HB.out.size)⟩
        case measure => simp [intOf]; omega
      · have hv2 : ¬ (v < 0) := hv
        have HN : P ≤ h := by
          rcases Nat.lt_or_ge h P with q | q
          · have q2 := pl_lt EX.out (by rw [HP.out]; exact q)
            exact absurd (cmpI_of q2) (by rw [Hv.out]; exact hv2)
          · exact q
        go_wp2_with (first
          | (refine wpList_load_mid (by rfl) 71 (.tmp 27) (by rfl) b1 (h * 4) (by rfl) (EL.e x) _ E1.out Tryd.underlying71 rfl (by rw [EL.len]; exact inz71) ?_; rw [← HA.out])
          | (go_at_call 35; refine (clo35 HA k).mono ?_; rintro e w3 ⟨rfl, H3⟩; rw [Hv.out]))
        go_roundw
        case rel => exact ⟨i, h, by omega, by omega, rfl, rfl, hiP, HN, HB.out.trans (H3.out.mono HB.out.size)⟩
        case measure => simp [intOf]; omega
    · obtain rfl : i = j := by omega
      have hPi : P = i := by omega
      by_cases hin : i < n
      · have i3 : (i : Int) < (n : Int) := by omega
        have kx : i < X.length := by rw [← LX.out]; exact hin
        obtain ⟨b1, rfl, _, _, e1⟩ := (hA.out.below HB.out).at_ kx
        obtain ⟨x, Hx⟩ : ∃ x, Hid (X[i] = x) := ⟨X[i], (rfl : X[i] = X[i])⟩
        rw [Hx.out] at e1
        have EX : Hid (X[i]? = some x) := by show _ = _; rw [← Hx.out]; exact List.getElem?_eq_getElem kx
        have ce0 : wr.cell? ⟨b1, i * 4, none⟩ = some (.int .i64 x.no) := e1 0 _ rfl
        have ce1 : wr.cell? ⟨b1, i * 4 + 1, none⟩ = some (.int .i64 x.fm) := e1 1 _ rfl
        have ce2 : wr.cell? ⟨b1, i * 4 + 2, none⟩ = some (.int .i64 x.tt) := e1 2 _ rfl
        have ce3 : wr.cell? ⟨b1, i * 4 + 3, none⟩ = some (.string x.bs) := e1 3 _ rfl
        clear e1 Hx kx
        obtain ⟨v, Hv⟩ : ∃ v, Hid (cmpI x.no k = v) := ⟨_, rfl⟩
        have HIS : Hid (isL k X = decide (v = 0)) := by
          show _ = _
          unfold isL
          rw [HP.out, hPi, EX.out, ← Hv.out]
          exact cmpI_zero _ _
        go_wp2_with (go_at_call 35; refine (clo35 (x := x) (show Hid _ from rfl) k).mono ?_; rintro e w3 ⟨rfl, H3⟩; rw [Hv.out])
        go_ret2
        refine ⟨?_, HB.out.trans (H3.out.mono HB.out.size)⟩
        first | rw [hPi, HIS.out] | rw [HIS.out]
        by_cases h0 : v = 0 <;> simp [h0]
      · have i4 : ¬ ((i : Int) < (n : Int)) := by omega
        have HIS : Hid (isL k X = false) := by
          show _ = _
          unfold isL
          rw [HP.out, hPi, List.getElem?_eq_none (by rw [← LX.out]; omega)]
          rfl
        go_wp2
        go_ret2
        refine ⟨?_, HB.out⟩
        first | rw [hPi, HIS.out] | rw [HIS.out]
        first | rfl | simp
end Go.Proofs.YtkjebbpmafhpgaaDoor
