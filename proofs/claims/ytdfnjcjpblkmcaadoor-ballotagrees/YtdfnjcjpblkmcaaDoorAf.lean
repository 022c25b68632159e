/- The program's own copy of a ledger. -/
import Derived.Test.YtdfnjcjpblkmcaaDoorAe
namespace Go.Proofs.YtdfnjcjpblkmcaaDoor
open Go.ChangeShapes Go.WideShapes Go.ChangeAt Go.RowKit
set_option maxRecDepth 20000
set_option linter.unusedVariables false
set_option linter.unusedSimpArgs false
theorem row_enc {w : World} {B q n c i : Nat} {Y : List Cx} {y : Cx} (h : w.ownsRow B 81 18 (.slice (some ⟨q, 0, none⟩) n c) n (flat Y)) (hi : Y[i]? = some y) {j : Nat} (hj : j < 18) : w.cell? ⟨q, i * 18 + j, none⟩ = (encX y)[j]? := by
  obtain ⟨h1, h2⟩ := List.getElem?_eq_some_iff.1 hi
  have hl : n = Y.length := by have := h.1; rw [flat_len] at this; omega
  rw [h.cellAt _ (by omega), flat_at Y h1 hj, h2]
theorem row_set1 {w : World} {B q n c i : Nat} {Y : List Cx} {y z : Cx} (h : w.ownsRow B 81 18 (.slice (some ⟨q, 0, none⟩) n c) n (flat Y)) (hi : Y[i]? = some y) {j : Nat} (hj : j < 18) {v : Value} (hv : (encX y).set j v = encX z) : (w.setCell ⟨q, i * 18 + j, none⟩ v).ownsRow B 81 18 (.slice (some ⟨q, 0, none⟩) n c) n (flat (Y.set i z)) := by
  obtain ⟨h1, h2⟩ := List.getElem?_eq_some_iff.1 hi
  have h3 := row_set h (i * 18 + j) v
  rw [flat_set Y h1 z hj (by rw [h2]; exact hv)] at h3
  exact h3
theorem row_same {w : World} {B q n c i : Nat} {Y : List Cx} {y : Cx} (h : w.ownsRow B 81 18 (.slice (some ⟨q, 0, none⟩) n c) n (flat Y)) (hn : i < n) (hi : Y[i]? = some y) {j : Nat} (hj : j < 18) {v : Value} (hv : (encX y)[j]? = some v) : (w.setCell ⟨q, i * 18 + j, none⟩ v).ownsRow B 81 18 (.slice (some ⟨q, 0, none⟩) n c) n (flat Y) := by
  have h1 := row_set1 h hi hj (set_same hv)
  obtain ⟨h2, h3⟩ := List.getElem?_eq_some_iff.1 hi
  rw [← h3, List.set_getElem_self] at h1
  exact h1
/- what the first statement of the loop reads -/
structure Kc (W : World) (q i : Nat) (s t : ByteArray) : Prop where
  p : W.cell? ⟨q, i * 18 + 4, none⟩ = some (.string s)
  q : W.cell? ⟨q, i * 18 + 5, none⟩ = some (.string t)
theorem kc_of {w : World} {B q n c i : Nat} {Y : List Cx} {y : Cx} (h : w.ownsRow B 81 18 (.slice (some ⟨q, 0, none⟩) n c) n (flat Y)) (hn : i < n) (hi : Y[i]? = some y) : Kc w q i y.cm.bu y.cm.ke := ⟨row_enc h hi (by omega), row_enc h hi (by omega)⟩
/- the state of the copy behind i commands -/
structure Cpy (w wr : World) (q n c2 i : Nat) (X Y : List Cx) : Prop where
  bel : Below w.heap.size w wr
  row : wr.ownsRow w.heap.size 81 18 (.slice (some ⟨q, 0, none⟩) n c2) n (flat Y)
  led : led Y = led X
  rest : ∀ j, i ≤ j → Y[j]? = X[j]?
  ps : ∀ j y, j < i → Y[j]? = some y → wr.ownsRow w.heap.size 3 1 (.slice y.pa y.pn y.pc) y.pn (y.cm.ps.map iv) ∧ y.pn ≤ 17592186043904
theorem led_set {X Y : List Cx} {i : Nat} {x z : Cx} (h : led Y = led X) (hi : Y[i]? = some x) (hz : z.cm = x.cm) : led (Y.set i z) = led X := by
  unfold led at *
  rw [List.map_set, hz, ← h]
  obtain ⟨h1, h2⟩ := List.getElem?_eq_some_iff.1 hi
  apply List.ext_getElem?
  intro j
  rw [List.getElem?_set]
  split
  · rename_i e
    subst e
    simp [h1, h2]
  · rfl
set_option maxHeartbeats 4000000 in
theorem copied_n {w : World} {lo : Nat} {a : Option Addr} {n c : Nat} {X : List Cx} (hA : Hid (Cms w lo a n X)) (hz : Hid (a = none → c = 0)) :
    Calls Tryd.prog 31 #[.slice a n c] w fun e w' => ∃ a' c', e = .returned (.slice a' n c') ∧ Hid (∃ Y, led Y = led X ∧ Oc w' w.heap.size a' n c' Y ∧ Below w.heap.size w w') := by
  have hn : n ≤ 764877654082 := hA.out.sz
  obtain ⟨a2, c2, w1, AP0, OW0, GR0⟩ := app_cm (v := .slice none 0 0) (m := 0) (X0 := []) (World.ownsRow_nil w w.heap.size 81 18) hA.out.len (hA.out.row.imp id (fun ⟨b, off, h1, h2, h3, h4⟩ => ⟨b, off, h1, h4⟩)) hz.out (by omega) (Nat.le_refl _)
  rw [Nat.zero_add] at AP0 OW0
  rw [List.nil_append] at OW0
  have AP : Hid ((Builtin.append_ #[35, 35] 35 #[.slice none 0 0, .slice a n c]).run Tryd.prog w = .ok (.slice a2 n c2) w1) := AP0
  have B1 : Hid (Below w.heap.size w w1) := grown_below GR0 (Nat.le_refl _) (fun q e => by cases e)
  have OW : Hid (w1.ownsRow w.heap.size 81 18 (.slice a2 n c2) n (flat X)) := OW0
  have LX : Hid (n = X.length) := hA.out.len
  clear AP0 OW0 GR0
  go_enter Tryd.func31, Tryd.ntmps31
  go_wp2_with (at_builtin; refine wpList_app (by rfl) (.const (.slice none 0 0)) (.tmp 6) (by rfl) (by rfl) (by rfl) (by rfl) AP ?_)
  clear AP
  rcases Nat.eq_zero_or_pos n with h0 | hpos
  · subst h0
    go_loopw [10] (fun ti wr => ti = .int .i64 0 ∧ wr = w1) (fun ti _ => 0)
    case atStart => exact ⟨rfl, rfl⟩
    case round =>
      obtain ⟨rfl, rfl⟩ := hrel
      go_wp2
      go_ret
      have hX : X = [] := List.length_eq_zero_iff.1 (by have := LX.out; omega)
      subst hX
      exact ⟨a2, c2, rfl, [], rfl, ⟨OW.out, by omega, fun x hx => (by cases hx), fun x hx => (by cases hx)⟩, B1.out⟩
  · obtain ⟨q, rfl, hq1, hq2, _⟩ := rown_at OW.out hpos
    have QB : Hid (w.heap.size ≤ q) := hq1
    clear hq1 hq2
    go_loopw [10] (fun ti wr => ∃ i : Nat, i ≤ n ∧ ti = .int .i64 i ∧ Hid (∃ Y, Cpy w wr q n c2 i X Y)) (fun ti _ => n - (intOf ti).toNat)
    case atStart => exact ⟨0, by omega, rfl, X, B1.out, OW.out, rfl, fun _ _ => rfl, fun j y hj => by omega⟩
    case round =>
      obtain ⟨i, hi, rfl, HC⟩ := hrel
      by_cases hlt : i < n
      · obtain ⟨Y, HY0⟩ := HC.out
        clear HC
        have HY : Hid (Cpy w wr q n c2 i X Y) := HY0
        clear HY0
        have i3 : (i : Int) < (n : Int) := by omega
        have KN : i < n := hlt
        have iX : i < X.length := by rw [← LX.out]; exact hlt
        obtain ⟨x, Hx⟩ : ∃ x, Hid (X[i]? = some x) := ⟨X[i], List.getElem?_eq_getElem iX⟩
        have EY : Hid (Y[i]? = some x) := (HY.out.rest i (Nat.le_refl _)).trans Hx.out
        have MX : x ∈ X := List.mem_of_getElem? Hx.out
        have ST : Hid (x.cm.bu.size ≤ 281474976710656 ∧ x.cm.ke.size ≤ 281474976710656 ∧ x.cm.et.size ≤ 281474976710656) := hA.out.st x MX
        have PX : Hid (Irow w lo x.pa x.pn x.cm.ps ∧ (x.pa = none → x.pc = 0)) := hA.out.ps x MX
        clear MX iX hlt
        have R0 : Hid (wr.drew.ownsRow w.heap.size 81 18 (.slice (some ⟨q, 0, none⟩) n c2) n (flat Y)) := HY.out.row
        have K0 : Kc wr.drew q i x.cm.bu x.cm.ke := kc_of R0.out KN EY.out
        have B0 : Hid (Below w.heap.size w wr.drew) := HY.out.bel.drew
        go_upto_region 6 with (fail)
        refine wp_region_till (S := fun L W => Kc W q i x.cm.bu x.cm.ke) (by kernel_rfl) K0 (fun hS => ?_)
        clear K0
        refine till_take (i := 0) (v := .pointer (some ⟨q, i * 18, none⟩)) rfl (by kernel_rfl) (by kernel_rfl) (by kernel_rfl) (fun _ _ _ h => h) (fun L w => Iff.rfl) (Or.inl ⟨by rfl, fun w => by go_simp⟩) hS (fun hSb => ?_)
        simp only [List.getElem_toArray, List.getElem_cons_zero, List.getElem_cons_succ, Act.put, List.setIfInBounds_toArray, List.set_cons_zero, List.set_cons_succ]
        clear hS
        refine till_take (i := 1) (v := .pointer (some ⟨q, i * 18, none⟩)) rfl (by kernel_rfl) (by kernel_rfl) (by kernel_rfl) (fun _ _ _ h => h) (fun L w => Iff.rfl) (Or.inl ⟨by rfl, fun w => by go_simp⟩) hSb (fun hS => ?_)
        simp only [List.getElem_toArray, List.getElem_cons_zero, List.getElem_cons_succ, Act.put, List.setIfInBounds_toArray, List.set_cons_zero, List.set_cons_succ]
        clear hSb
        refine till_take (i := 2) (v := .pointer (some ⟨q, i * 18, none⟩)) rfl (by kernel_rfl) (by kernel_rfl) (by kernel_rfl) (fun _ _ _ h => h) (fun L w => Iff.rfl) (Or.inl ⟨by rfl, fun w => by go_simp⟩) hS (fun hSb => ?_)
        simp only [List.getElem_toArray, List.getElem_cons_zero, List.getElem_cons_succ, Act.put, List.setIfInBounds_toArray, List.set_cons_zero, List.set_cons_succ]
        clear hS
        refine till_take (i := 3) (v := .pointer (some ⟨q, i * 18, none⟩)) rfl (by kernel_rfl) (by kernel_rfl) (by kernel_rfl) (fun _ _ _ h => h) (fun L w => Iff.rfl) (Or.inl ⟨by rfl, fun w => by go_simp⟩) hSb (fun hS => ?_)
        simp only [List.getElem_toArray, List.getElem_cons_zero, List.getElem_cons_succ, Act.put, List.setIfInBounds_toArray, List.set_cons_zero, List.set_cons_succ]
        clear hSb
        refine till_take (i := 4) (v := .pointer (some ⟨q, i * 18 + 4, none⟩)) rfl (by kernel_rfl) (by kernel_rfl) (by kernel_rfl) (fun _ _ _ h => h) (fun L w => Iff.rfl) (Or.inl ⟨by rfl, fun w => by go_simp⟩) hS (fun hSb => ?_)
        simp only [List.getElem_toArray, List.getElem_cons_zero, List.getElem_cons_succ, Act.put, List.setIfInBounds_toArray, List.set_cons_zero, List.set_cons_succ]
        clear hS
        refine till_read (i := 5) (c := 6) (v := .string x.cm.bu) (T := fun W => Kc W q i x.cm.bu x.cm.ke) rfl rfl (by kernel_rfl) (by kernel_rfl) (by kernel_rfl) (by kernel_rfl) (by kernel_rfl) (fun _ _ _ h => h) (fun L w => Iff.rfl) (fun L w h1 h2 => h2) (Or.inl ⟨by rfl, fun w h => by have q9 := h.p; go_simp⟩) hSb (fun hS => ?_)
        simp only [List.getElem_toArray, List.getElem_cons_zero, List.getElem_cons_succ, Act.put, List.setIfInBounds_toArray, List.set_cons_zero, List.set_cons_succ]
        clear hSb
        refine till_take (i := 7) (v := .pointer (some ⟨q, i * 18, none⟩)) rfl (by kernel_rfl) (by kernel_rfl) (by kernel_rfl) (fun _ _ _ h => h) (fun L w => Iff.rfl) (Or.inl ⟨by rfl, fun w => by go_simp⟩) hS (fun hSb => ?_)
        simp only [List.getElem_toArray, List.getElem_cons_zero, List.getElem_cons_succ, Act.put, List.setIfInBounds_toArray, List.set_cons_zero, List.set_cons_succ]
        clear hS
        refine till_take (i := 8) (v := .pointer (some ⟨q, i * 18, none⟩)) rfl (by kernel_rfl) (by kernel_rfl) (by kernel_rfl) (fun _ _ _ h => h) (fun L w => Iff.rfl) (Or.inl ⟨by rfl, fun w => by go_simp⟩) hSb (fun hS => ?_)
        simp only [List.getElem_toArray, List.getElem_cons_zero, List.getElem_cons_succ, Act.put, List.setIfInBounds_toArray, List.set_cons_zero, List.set_cons_succ]
        clear hSb
        refine till_take (i := 9) (v := .pointer (some ⟨q, i * 18 + 5, none⟩)) rfl (by kernel_rfl) (by kernel_rfl) (by kernel_rfl) (fun _ _ _ h => h) (fun L w => Iff.rfl) (Or.inl ⟨by rfl, fun w => by go_simp⟩) hS (fun hSb => ?_)
        simp only [List.getElem_toArray, List.getElem_cons_zero, List.getElem_cons_succ, Act.put, List.setIfInBounds_toArray, List.set_cons_zero, List.set_cons_succ]
        clear hS
        refine till_read (i := 10) (c := 11) (v := .string x.cm.ke) (T := fun W => Kc W q i x.cm.bu x.cm.ke) rfl rfl (by kernel_rfl) (by kernel_rfl) (by kernel_rfl) (by kernel_rfl) (by kernel_rfl) (fun _ _ _ h => h) (fun L w => Iff.rfl) (fun L w h1 h2 => h2) (Or.inl ⟨by rfl, fun w h => by have q9 := h.q; go_simp⟩) hSb (fun hS => ?_)
        simp only [List.getElem_toArray, List.getElem_cons_zero, List.getElem_cons_succ, Act.put, List.setIfInBounds_toArray, List.set_cons_zero, List.set_cons_succ]
        clear hSb
        refine till_one (i := 6) (by kernel_rfl) rfl (fun K hK => ?_)
        simp only [List.getElem_toArray, List.getElem_cons_zero, List.getElem_cons_succ]
        rw [if_pos (by rfl)]
        go_simp
        go_wp2_with (go_at_call 35; refine (clone_n x.cm.bu _ ST.out.1).mono ?_; rintro e w1 ⟨rfl, H1⟩)
        have R1 : w1.ownsRow w.heap.size 81 18 (.slice (some ⟨q, 0, none⟩) n c2) n (flat Y) := rown_bel R0.out (fun k e => H1.out.block k (R0.out.lt k e).2)
        have Z1 : Kc w1 q i x.cm.bu x.cm.ke := kc_of R1 KN EY.out
        refine hK.out _ _ (Z1) (fun hSb => ?_)
        clear hK K
        try simp only [List.getElem_toArray, List.getElem_cons_zero, List.getElem_cons_succ, Act.put, List.setIfInBounds_toArray, List.set_cons_zero, List.set_cons_succ]
        clear hS
        refine till_one (i := 11) (by kernel_rfl) rfl (fun K hK => ?_)
        simp only [List.getElem_toArray, List.getElem_cons_zero, List.getElem_cons_succ]
        rw [if_pos (by rfl)]
        go_simp
        go_wp2_with (go_at_call 35; refine (clone_n x.cm.ke _ ST.out.2.1).mono ?_; rintro e w2 ⟨rfl, H2⟩)
        have R2 : w2.ownsRow w.heap.size 81 18 (.slice (some ⟨q, 0, none⟩) n c2) n (flat Y) := rown_bel R1 (fun k e => H2.out.block k (R1.lt k e).2)
        have Z2 : Kc w2 q i x.cm.bu x.cm.ke := kc_of R2 KN EY.out
        have R3 := row_same R2 KN EY.out (j := 4) (by omega) (v := .string x.cm.bu) rfl
        have R4 := row_same R3 KN EY.out (j := 5) (by omega) (v := .string x.cm.ke) rfl
        have Z3 := kc_of R3 KN EY.out
        have Z4 := kc_of R4 KN EY.out
        have f3 := R2.frozenAt (i * 18 + 4)
        have f4 := R3.frozenAt (i * 18 + 5)
        have HR2 : Hid (w2.ownsRow w.heap.size 81 18 (.slice (some ⟨q, 0, none⟩) n c2) n (flat Y)) := R2
        have HR4 : Hid (((w2.setCell ⟨q, i * 18 + 4, none⟩ (.string x.cm.bu)).setCell ⟨q, i * 18 + 5, none⟩ (.string x.cm.ke)).ownsRow w.heap.size 81 18 (.slice (some ⟨q, 0, none⟩) n c2) n (flat Y)) := R4
        clear R1 R2 R3 R4
        refine hK.out _ _ (Z2) (fun hS => ?_)
        clear hK K
        try simp only [List.getElem_toArray, List.getElem_cons_zero, List.getElem_cons_succ, Act.put, List.setIfInBounds_toArray, List.set_cons_zero, List.set_cons_succ]
        clear hSb
        refine till_take (i := 12) (v := .pointer (some ⟨q, i * 18, none⟩)) rfl (by kernel_rfl) (by kernel_rfl) (by kernel_rfl) (fun _ _ _ h => h) (fun L w => Iff.rfl) (Or.inl ⟨by rfl, fun w => by go_simp⟩) hS (fun hSb => ?_)
        simp only [List.getElem_toArray, List.getElem_cons_zero, List.getElem_cons_succ, Act.put, List.setIfInBounds_toArray, List.set_cons_zero, List.set_cons_succ]
        clear hS
        refine till_take (i := 13) (v := .pointer (some ⟨q, i * 18 + 4, none⟩)) rfl (by kernel_rfl) (by kernel_rfl) (by kernel_rfl) (fun _ _ _ h => h) (fun L w => Iff.rfl) (Or.inl ⟨by rfl, fun w => by go_simp⟩) hSb (fun hS => ?_)
        simp only [List.getElem_toArray, List.getElem_cons_zero, List.getElem_cons_succ, Act.put, List.setIfInBounds_toArray, List.set_cons_zero, List.set_cons_succ]
        clear hSb
        refine till_one (i := 14) (by kernel_rfl) rfl (fun K hK => ?_)
        simp only [List.getElem_toArray, List.getElem_cons_zero, List.getElem_cons_succ]
        rw [if_pos (by rfl)]
        have q9 := Z2.p
        go_simp
        refine hK.out _ _ (Z3) (fun hSb => ?_)
        clear hK K
        try simp only [List.getElem_toArray, List.getElem_cons_zero, List.getElem_cons_succ, Act.put, List.setIfInBounds_toArray, List.set_cons_zero, List.set_cons_succ]
        clear hS
        refine till_take (i := 15) (v := .pointer (some ⟨q, i * 18, none⟩)) rfl (by kernel_rfl) (by kernel_rfl) (by kernel_rfl) (fun _ _ _ h => h) (fun L w => Iff.rfl) (Or.inl ⟨by rfl, fun w => by go_simp⟩) hSb (fun hS => ?_)
        simp only [List.getElem_toArray, List.getElem_cons_zero, List.getElem_cons_succ, Act.put, List.setIfInBounds_toArray, List.set_cons_zero, List.set_cons_succ]
        clear hSb
        refine till_take (i := 16) (v := .pointer (some ⟨q, i * 18 + 5, none⟩)) rfl (by kernel_rfl) (by kernel_rfl) (by kernel_rfl) (fun _ _ _ h => h) (fun L w => Iff.rfl) (Or.inl ⟨by rfl, fun w => by go_simp⟩) hS (fun hSb => ?_)
        simp only [List.getElem_toArray, List.getElem_cons_zero, List.getElem_cons_succ, Act.put, List.setIfInBounds_toArray, List.set_cons_zero, List.set_cons_succ]
        clear hS
        refine till_one (i := 17) (by kernel_rfl) rfl (fun K hK => ?_)
        simp only [List.getElem_toArray, List.getElem_cons_zero, List.getElem_cons_succ]
        rw [if_pos (by rfl)]
        have q9 := Z3.q
        go_simp
        refine hK.out _ _ (Z4) (fun hS => ?_)
        clear hK K
        try simp only [List.getElem_toArray, List.getElem_cons_zero, List.getElem_cons_succ, Act.put, List.setIfInBounds_toArray, List.set_cons_zero, List.set_cons_succ]
        clear hSb
        refine till_done (by kernel_rfl) ?_ _
        clear hS
        clear f3 f4 Z1 Z2 Z3 Z4
        obtain ⟨V2, HV2⟩ : ∃ V2, Hid ((w2.setCell ⟨q, i * 18 + 4, none⟩ (.string x.cm.bu)).setCell ⟨q, i * 18 + 5, none⟩ (.string x.cm.ke) = V2) := ⟨_, rfl⟩
        rw [HV2.out] at HR4 ⊢
        have C2 : Hid (Ch wr.drew V2 (fun k => k = q)) := by
          rw [← HV2.out]
          exact (((Ch.below H1.out).trans (Ch.below H2.out)).trans (Ch.set w2 q (i * 18 + 4) (.string x.cm.bu))).trans (Ch.set _ q (i * 18 + 5) (.string x.cm.ke))
        clear HV2 H1 H2 HR2
        have e13 := row_enc HR4.out EY.out (j := 13) (by omega)
        have e13' : V2.cell? ⟨q, i * 18 + 13, none⟩ = some (.string x.cm.et) := e13
        clear e13
        go_upto_region 8 with (go_at_call 35; refine (clone_n x.cm.et _ ST.out.2.2).mono ?_; rintro e w3 ⟨rfl, H3⟩
                               have R5 : w3.ownsRow w.heap.size 81 18 (.slice (some ⟨q, 0, none⟩) n c2) n (flat Y) := rown_bel HR4.out (fun k e => H3.out.block k (HR4.out.lt k e).2)
                               have e14 : w3.cell? ⟨q, i * 18 + 13, none⟩ = some (.string x.cm.et) := row_enc R5 EY.out (j := 13) (by omega)
                               have f5 := R5.frozenAt (i * 18 + 13)
                               have HR6 : Hid ((w3.setCell ⟨q, i * 18 + 13, none⟩ (.string x.cm.et)).ownsRow w.heap.size 81 18 (.slice (some ⟨q, 0, none⟩) n c2) n (flat Y)) := row_same R5 KN EY.out (by omega) rfl
                               clear R5)
        obtain ⟨V3, HV3⟩ : ∃ V3, Hid (w3.setCell ⟨q, i * 18 + 13, none⟩ (.string x.cm.et) = V3) := ⟨_, rfl⟩
        rw [HV3.out] at HR6 ⊢
        have C3 : Hid (Ch wr.drew V3 (fun k => k = q)) := by
          rw [← HV3.out]
          exact (C2.out.trans (Ch.below H3.out)).trans (Ch.set w3 q (i * 18 + 13) (.string x.cm.et))
        clear HV3 H3 C2 HR4 e13' e14 f5
        have B3 : Hid (Below w.heap.size w V3) := B0.out.trans (C3.out.toBelow (B0.out.size) (fun k hk e => by have := QB.out; omega))
        have P3 : Irow V3 lo x.pa x.pn x.cm.ps := PX.out.1.below B3.out
        obtain ⟨pa', pc', w4, AQ0, OQ0, GQ0⟩ := app_int (v := .slice none 0 0) (m := 0) (l0 := []) (World.ownsRow_nil V3 w.heap.size 3 1) P3 PX.out.2 (by have := P3.sz; omega) B3.out.size
        rw [Nat.zero_add] at AQ0 OQ0
        rw [List.nil_append] at OQ0
        have AQ : Hid ((Builtin.append_ #[61, 61] 61 #[.slice none 0 0, .slice x.pa x.pn x.pc]).run Tryd.prog V3 = .ok (.slice pa' x.pn pc') w4) := AQ0
        have B4 : Hid (Below V3.heap.size V3 w4) := grown_below GQ0 (Nat.le_refl _) (fun q e => by cases e)
        have R7 : w4.ownsRow w.heap.size 81 18 (.slice (some ⟨q, 0, none⟩) n c2) n (flat Y) := rown_bel HR6.out (fun k e => B4.out.block k (HR6.out.lt k e).2)
        have e15 : V3.cell? ⟨q, i * 18 + 15, none⟩ = some (.slice x.pa x.pn x.pc) := row_enc HR6.out EY.out (j := 15) (by omega)
        have e16 : w4.cell? ⟨q, i * 18 + 15, none⟩ = some (.slice x.pa x.pn x.pc) := row_enc R7 EY.out (j := 15) (by omega)
        have f6 := R7.frozenAt (i * 18 + 15)
        have FIN : Hid (Cpy w (w4.setCell ⟨q, i * 18 + 15, none⟩ (.slice pa' x.pn pc')) q n c2 (i + 1) X (Y.set i { x with pa := pa', pc := pc' })) := by
          have hl : n = Y.length := by have := R7.1; rw [flat_len] at this; omega
          have Bw : Below w.heap.size w w4 := B3.out.trans (B4.out.mono B3.out.size)
          have C5 := Ch.set w4 q (i * 18 + 15) (.slice pa' x.pn pc')
          have qlt := (HR6.out.lt q rfl).2
          refine ⟨Bw.trans (C5.toBelow Bw.size (fun k hk e => by have := QB.out; omega)), row_set1 R7 EY.out (by omega) rfl, led_set HY.out.led EY.out rfl, fun j hj => ?_, fun j y hj hy => ?_⟩
          · rw [List.getElem?_set_ne (by omega)]; exact HY.out.rest j (by omega)
          · by_cases hji : j = i
            · subst hji
              rw [List.getElem?_set_self (by omega)] at hy
              cases hy
              refine ⟨rown_bel OQ0 (fun k e => Below.heap_setCell _ _ _ _ (fun e2 => ?_)), P3.sz⟩
              have e3 : k = q := e2
              subst e3
              have hk := OQ0.2
              rcases hk with ⟨h1, _⟩ | ⟨g, cap, cur, h1, h2, h3, _⟩
              · rw [h1] at e; cases e
              · cases h1
                cases e
                rcases R7.2 with ⟨h5, _⟩ | ⟨g2, cap2, cur2, h5, h6, h7, _⟩
                · cases h5
                · cases h5
                  rw [h3] at h7
                  cases h7
            · rw [List.getElem?_set_ne (by omega)] at hy
              obtain ⟨o1, o2⟩ := HY.out.ps j y (by omega) hy
              refine ⟨rown_bel o1 (fun k e => ?_), o2⟩
              have hkl := o1.lt k e
              have hkq : k ≠ q := fun e2 => by
                subst e2
                rcases o1.2 with ⟨h1, _⟩ | ⟨g, cap, cur, h1, h2, h3, _⟩
                · rw [h1] at e; cases e
                · rw [h1] at e
                  cases e
                  rcases R0.out.2 with ⟨h5, _⟩ | ⟨g2, cap2, cur2, h5, h6, h7, _⟩
                  · cases h5
                  · cases h5
                    have h8 := h3.symm.trans h7
                    cases h8
              have l3 : k < V3.heap.size := Nat.lt_of_lt_of_le hkl.2 C3.out.size
              rw [Below.heap_setCell _ _ _ _ hkq, B4.out.block k l3, C3.out.block k hkl.2 hkq]
              rfl
        clear AQ0 OQ0 GQ0 R7 P3
        go_wp2_with (at_builtin; refine wpList_app (by rfl) (.const (.slice none 0 0)) (.tmp 46) (by rfl) (by rfl) (by rfl) (by rfl) AQ ?_)
        go_roundw
        case rel => exact ⟨i + 1, by omega, by go_num, _, FIN.out⟩
        case measure => simp [intOf]; omega
      · have ein : i = n := by omega
        subst ein
        clear hlt
        go_wp2
        go_ret
        obtain ⟨Y, HY⟩ := HC.out
        have hl : i = Y.length := by have := HY.row.1; rw [flat_len] at this; omega
        refine ⟨_, c2, rfl, Y, HY.led, ⟨HY.row, hn, fun y hy => ?_, fun y hy => ?_⟩, HY.bel⟩
        · obtain ⟨j, hj, e⟩ := List.mem_iff_getElem.1 hy
          exact HY.ps j y (by omega) (by rw [← e]; exact List.getElem?_eq_getElem hj)
        · have hm : y.cm ∈ led X := by rw [← HY.led]; exact List.mem_map.2 ⟨y, hy, rfl⟩
          obtain ⟨x, hx, e⟩ := List.mem_map.1 hm
          rw [← e]
          exact hA.out.st x hx
end Go.Proofs.YtdfnjcjpblkmcaaDoor
