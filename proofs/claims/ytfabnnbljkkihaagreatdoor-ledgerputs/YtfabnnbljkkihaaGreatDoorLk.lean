/- change (f47), Apply (f25), At (f40), Fold (f34) of one command that makes a bucket; alive (f9). -/
import Derived.Test.YtfabnnbljkkihaaGreatDoorKk
import Derived.Test.YtfabnnbljkkihaaGreatDoorLg
namespace Go.Proofs.YtfabnnbljkkihaaGreatDoor
open Go.ChangeShapes Go.WideShapes Go.ChangeAt Go.RowKit
set_option maxRecDepth 20000
set_option linter.unusedVariables false
set_option linter.unusedSimpArgs false
set_option maxHeartbeats 2000000 in
theorem change0 {w : World} {A : Array Value} {x : Cx} {gc gl B : Nat} {fl : Value} (hX : Hid (A = (encX x).toArray)) (h1 : Hid (x.cm.k = 1)) (hk : Hid (w.heap[gc]? = some (.cells #[.slice (some ⟨gl, 0, none⟩) 0 0, fl] 58 (0, 0)))) (own : Hid (w.ownsRow B 65 5 (.slice (some ⟨gl, 0, none⟩) 0 0) 0 [])) (hB : B ≤ w.heap.size) :
    Calls Tryz.prog 47 #[.pointer (some ⟨gc, 0, none⟩), .agg A] w fun e w' => e = .returned (.agg #[.int .i64 0, .string ⟨#[]⟩]) ∧ Hid (∃ a' c', w'.heap[gc]? = some (.cells #[.slice a' 1 c', fl] 58 (0, 0)) ∧ Ch w w' (fun q => q = gc ∨ q = gl)) := by
  have a18 : A.size = 18 := encX_sz hX.out
  obtain ⟨w1, Hw1⟩ : ∃ w1, Hid ((w.alloc (.cells A 29)).alloc (.cells #[.int .i64 0, .string ⟨#[]⟩] 51) = w1) := ⟨_, rfl⟩
  obtain ⟨g, Hg⟩ : ∃ g, Hid (w.heap.size = g) := ⟨_, rfl⟩
  have B1 : Hid (Below w.heap.size w w1) := by rw [← Hw1.out]; exact alloc2 w _ _
  have k1 : Hid (w1.heap[g]? = some (.cells A 29 (0, 0))) := by
    rw [← Hw1.out, ← Hg.out]
    exact ((alloc1 (w.alloc (.cells A 29)) _).block w.heap.size (by simp)).trans (heap_alloc_new w _)
  have r1 : Hid (w1.heap[g + 1]? = some (.cells #[.int .i64 0, .string ⟨#[]⟩] 51 (0, 0))) := by
    rw [← Hw1.out, ← Hg.out]
    have e : (w.alloc (.cells A 29)).heap.size = w.heap.size + 1 := by simp
    rw [← e]
    exact heap_alloc_new _ _
  have kc : Hid (w1.heap[gc]? = some (.cells #[.slice (some ⟨gl, 0, none⟩) 0 0, fl] 58 (0, 0))) := (B1.out.block gc (Array.getElem?_eq_some_iff.1 hk.out).1).trans hk.out
  have OW1 : Hid (w1.ownsRow B 65 5 (.slice (some ⟨gl, 0, none⟩) 0 0) 0 []) := rown_bel own.out (fun q e => B1.out.block q (own.out.lt q e).2)
  have hB1 : B ≤ w1.heap.size := Nat.le_trans hB B1.out.size
  have c0 : w1.cell? ⟨g, 0, none⟩ = some (.int .i64 1) := cell_arr k1.out (by rw [hX.out, ← h1.out]; rfl)
  obtain ⟨R, HR⟩ : ∃ A, Hid ((#[.int .i64 0, .string ⟨#[]⟩] : Array Value) = A) := ⟨_, rfl⟩
  have a5' : (Tryz.prog.info? 51).map (·.size) = some R.size := by rw [← HR.out]; exact outZ
  have AA : Hid (R.all (·.oneCell') = true) := (show R.all (·.oneCell') = true by rw [← HR.out]; kernel_rfl)
  have a6' : Hid (R.size = 2) := (show R.size = 2 by rw [← HR.out]; rfl)
  obtain ⟨cur, hcur⟩ := own_ty own.out
  have nl : Hid (g + 1 ≠ gl ∧ g + 1 ≠ gc) := ⟨fun e => by have h2 := r1.out; rw [e, B1.out.block gl (Array.getElem?_eq_some_iff.1 hcur).1, hcur] at h2; simp at h2, fun e => by have h2 := r1.out; rw [e, kc.out] at h2; simp at h2⟩
  clear hcur
  go_enter Tryz.func47, Tryz.ntmps47
  go_upto_region 1 with (fail)
  rw [Hw1.out, Hg.out]
  clear Hw1
  go_upto_region 3 with (fail)
  go_wp2_with (first
    | (refine wpList_load_row (by rfl) 29 (.tmp 3) (by rfl) g (by rfl) 29 A (0, 0) _ k1.out Tryz.underlying29 rfl (info29 a18) ?_)
    | (go_at_call 65; refine (make0 hX kc OW1 hB1).mono ?_; rintro e w2 ⟨rfl, H2⟩; rw [HR.out]
       obtain ⟨a', c', kc2, f2⟩ := H2.out
       have K2 : Hid (w2.heap[gc]? = some (.cells #[.slice a' 1 c', fl] 58 (0, 0))) := kc2
       have F2 : Hid (Ch w1 w2 (fun q => q = gc ∨ q = gl)) := f2
       have r2 : Hid (w2.heap[g + 1]? = some (.cells #[.int .i64 0, .string ⟨#[]⟩] 51 (0, 0))) := (f2.block (g + 1) (Array.getElem?_eq_some_iff.1 r1.out).1 (fun h => h.elim nl.out.2 nl.out.1)).trans r1.out
       clear kc2 f2 H2)
    | (refine wpList_store_row (by rfl) 51 (.tmp 4) (.tmp 11) (by rfl) (g + 1) R (by rfl) (by rfl) 51 _ r2.out a5' (by rw [a6'.out]; rfl) AA.out ?_))
  refine bodyPost_ret (results_cell_row Tryz.results47 _ _ (g + 1) 51 R (0, 0) _ (by rfl) (setRow_heap _ _ _ _ _ _ r2.out) Tryz.underlying51 rfl a5') rfl ?_
  refine ⟨by rw [HR.out], a', c', ?_, ?_⟩
  · rw [setRow_other _ _ _ _ (fun e => nl.out.2 e.symm)]
    exact K2.out
  · exact Ch.then (T := fun q => q = g + 1) ((Ch.below B1.out).trans F2.out) ⟨rfl, rfl, rfl, by rw [setRow_size]; exact Nat.le_refl _, fun k hk2 hn => setRow_other _ _ _ _ hn⟩ (fun q _ h => h) (fun q hq e => by have := Hg.out; omega)
/- Apply of a bucket's making to the empty catalog -/
def Q0 (C : Array Value) : Prop := ∃ a' c', C = #[.slice a' 1 c', .slice none 0 0]
theorem apply0 {w : World} {A : Array Value} {x : Cx} (hX : Hid (A = (encX x).toArray)) (h1 : Hid (x.cm.k = 1)) (hT : Hid (x.cm.bu.size ≤ 281474976710656 ∧ x.cm.ke.size ≤ 281474976710656 ∧ x.cm.et.size ≤ 281474976710656)) :
    Calls Tryz.prog 25 #[.agg #[.slice none 0 0, .slice none 0 0], .agg A] w fun e w' => ∃ C R, e = .returned (.tuple #[.agg C, .agg R]) ∧ Hid (Q0 C ∧ Below w.heap.size w w') := by
  refine apply_shell (x := x) (P := fun W C => ∃ gl, C = #[.slice (some ⟨gl, 0, none⟩) 0 0, .slice none 0 0] ∧ W.ownsRow (w.heap.size + 4) 65 5 (.slice (some ⟨gl, 0, none⟩) 0 0) 0 []) (Q := fun _ C _ => Q0 C) hX hT ⟨rfl, by kernel_rfl⟩ ?_ (fun _ _ _ _ h _ _ => h) ?_ ?_
  · rintro W W' C ⟨gl, rfl, h2⟩ hb
    exact ⟨gl, rfl, rown_bel h2 (fun q e => hb.block q (h2.lt q e).2)⟩
  · intro W hW hz
    refine (copyCat0 W).mono ?_
    rintro e w' ⟨g, rfl, H⟩
    exact ⟨_, rfl, ⟨rfl, by kernel_rfl⟩, ⟨g, rfl, by rw [← hz]; exact H.out.1⟩, H.out.2⟩
  · intro W gc C1 hgc hk hP hW hs
    obtain ⟨gl, rfl, own⟩ := hP.out
    refine (change0 hX h1 hk (show Hid _ from own) hs).mono ?_
    rintro e w' ⟨rfl, H⟩
    obtain ⟨a', c', k2, f2⟩ := H.out
    refine ⟨_, rfl, ⟨rfl, by kernel_rfl⟩, _, k2, ⟨rfl, by kernel_rfl⟩, ⟨a', c', rfl⟩, f2.toBelow hs ?_⟩
    rintro q hq (rfl | rfl)
    · omega
    · have := (own.lt q rfl).1; omega
theorem fold1 {w : World} {lo c : Nat} {a : Option Addr} {x : Cx} (hA : Hid (Cms w lo a 1 [x])) (hc : 1 ≤ c) (h1 : Hid (x.cm.k = 1)) :
    Calls Tryz.prog 34 #[.slice a 1 c] w fun e w' => ∃ C, e = .returned (.agg C) ∧ Hid (Q0 C ∧ Arr 2 C ∧ Below w.heap.size w w') := by
  refine fold_shell (Q := fun _ C => Q0 C) (fun _ _ _ h _ _ => h) ?_
  intro W hW hz
  have A1 : Hid (Cms W lo a 1 [x]) := hA.out.below hW
  refine (at_shell (m := 1) (k := 1) (I := fun _ i C => (i = 0 ∧ C = #[.slice none 0 0, .slice none 0 0]) ∨ (i = 1 ∧ Q0 C)) A1 hc (show Hid _ from fun e => by obtain ⟨b, o, h, _⟩ := A1.out.at_ (i := 0) (by simp); rw [e] at h; cases h) (by show _ = _; decide) (fun _ _ _ _ h _ _ => h) (fun _ _ _ => .inl ⟨rfl, rfl⟩) ?_).mono ?_
  · intro V i C y B hy hi HB hC hI hAr hV hs
    obtain rfl : i = 0 := by omega
    obtain rfl : x = y := by simpa using hy
    rcases hI.out with ⟨_, rfl⟩ | ⟨h, _⟩
    · refine (apply0 HB h1 (show Hid _ from A1.out.st x (by simp))).mono ?_
      rintro e w' ⟨C, R, rfl, H⟩
      refine ⟨C, R, rfl, ?_, .inr ⟨rfl, H.out.1⟩, H.out.2⟩
      obtain ⟨a', c', rfl⟩ := H.out.1
      exact ⟨rfl, by kernel_rfl⟩
    · omega
  · rintro e w' ⟨C, rfl, H⟩
    refine ⟨C, rfl, ?_, H.out.2⟩
    rcases H.out.1 with ⟨h, _⟩ | ⟨_, h⟩
    · omega
    · exact h
theorem fld58 (x y : Value) (w : World) : (Instr.field 58 (.agg #[x, y]) 0).run Tryz.prog w = .ok x w := by
  simp [Instr.field, run_underlying Tryz.underlying58, go_sem, asAgg]
/- alive -/
def xa : Cx := ⟨⟨1, 0, 0, 1, ⟨#[97, 97, 97]⟩, ⟨#[]⟩, 0, 0, 0, 0, 0, 0, 0, ⟨#[]⟩, 0, [], 0, 0⟩, none, 0, 0⟩
set_option maxHeartbeats 4000000 in
theorem alive_n (w : World) : Calls Tryz.prog 9 #[] w fun e w' => e = .returned (.bool true) ∧ Hid (Below w.heap.size w w') := by
  obtain ⟨A, HA⟩ : ∃ A, Hid (A = (encX xa).toArray) := ⟨_, rfl⟩
  have HL : Hid (#[.int .i64 1, .int .i64 0, .int .i64 0, .int .i64 1, .string ⟨#[97, 97, 97]⟩, .string ⟨#[]⟩, .int .i64 0, .int .i64 0, .int .i64 0, .int .i64 0, .int .i64 0, .int .i64 0, .int .i64 0, .string ⟨#[]⟩, .int .i64 0, .slice none 0 0, .int .i64 0, .int .i64 0] = A) := (by rw [HA.out]; rfl : #[.int .i64 1, .int .i64 0, .int .i64 0, .int .i64 1, .string ⟨#[97, 97, 97]⟩, .string ⟨#[]⟩, .int .i64 0, .int .i64 0, .int .i64 0, .int .i64 0, .int .i64 0, .int .i64 0, .int .i64 0, .string ⟨#[]⟩, .int .i64 0, .slice none 0 0, .int .i64 0, .int .i64 0] = A)
  have a18 : A.size = 18 := encX_sz HA.out
  have AA : Hid (A.all (·.oneCell') = true) := encX_all HA.out
  obtain ⟨w1, Hw1⟩ : ∃ W, Hid (w.alloc (.cells #[.int .i64 1, .int .i64 0, .int .i64 0, .int .i64 1, .string ⟨#[97, 97, 97]⟩, .string ⟨#[]⟩, .int .i64 0, .int .i64 0, .int .i64 0, .int .i64 0, .int .i64 0, .int .i64 0, .int .i64 0, .string ⟨#[]⟩, .int .i64 0, .slice none 0 0, .int .i64 0, .int .i64 0] 29) = W) := ⟨_, rfl⟩
  obtain ⟨g, Hg⟩ : ∃ g, Hid (w.heap.size = g) := ⟨_, rfl⟩
  have N1 : Hid (Cms w1 0 none 0 []) := Cms.nil _ _ _
  have P1 : Hid (Irow w1 0 xa.pa xa.pn xa.cm.ps) := ⟨rfl, by show 0 ≤ _; omega, .inl rfl⟩
  have T0 : Hid (xa.cm.bu.size ≤ 281474976710656 ∧ xa.cm.ke.size ≤ 281474976710656 ∧ xa.cm.et.size ≤ 281474976710656) := (by decide : _ ∧ _ ∧ _)
  have Z0 : Hid (xa.pa = none → xa.pc = 0) := fun _ => rfl
  have p0 : Hid (plc (led []) xa.cm.i0 xa.cm.i1 xa.cm.i2 = 0) := rfl
  go_enter Tryz.func9, Tryz.ntmps9
  go_upto_region 2 with (fail)
  rw [Hw1.out, Hg.out]
  have k1 : Hid (w1.heap[g]? = some (.cells A 29 (0, 0))) := by rw [← Hg.out, ← Hw1.out, ← HL.out]; exact heap_alloc_new w _
  have B1 : Hid (Below w.heap.size w w1) := by rw [← Hw1.out]; exact alloc1 w _
  clear Hw1 Hg
  go_upto_region 3 with (first
    | (refine wpList_load_row (by rfl) 29 (.tmp 1) (by rfl) g (by rfl) 29 A (0, 0) _ k1.out Tryz.underlying29 rfl (info29 a18) ?_)
    | (go_at_call 11; refine (put_new (c := 0) N1 HA P1 Z0 T0 p0 (by omega)).mono ?_; rintro e w2 ⟨a2, c2, rfl, H2⟩))
  obtain ⟨Y, HY⟩ : ∃ Y, Hid (led Y = [xa.cm] ∧ Oc w2 w1.heap.size a2 1 c2 Y ∧ Below w1.heap.size w1 w2) := by
    obtain ⟨Y, h1, h2, h3⟩ := H2.out
    exact ⟨Y, by simpa [led] using h1, h2, h3⟩
  clear H2
  have k2 : Hid (w2.heap[g]? = some (.cells A 29 (0, 0))) := (HY.out.2.2.block g (Array.getElem?_eq_some_iff.1 k1.out).1).trans k1.out
  have M2 : Hid (Cms w2 w1.heap.size a2 1 Y) := HY.out.2.1.cms
  have p2 : Hid (plc (led Y) xa.cm.i0 xa.cm.i1 xa.cm.i2 = 0) := (by rw [HY.out.1]; rfl : plc (led Y) xa.cm.i0 xa.cm.i1 xa.cm.i2 = 0)
  have B2 : Hid (Below w.heap.size w w2) := B1.out.trans (HY.out.2.2.mono B1.out.size)
  have hc2 : 1 ≤ c2 := HY.out.2.1.cap
  obtain ⟨y, Hy⟩ : ∃ y, Hid (Y = [y] ∧ y.cm = xa.cm) := by
    have h := HY.out.1
    rcases Y with _ | ⟨y, _ | ⟨z, r⟩⟩
    · simp [led] at h
    · exact ⟨y, rfl, by simpa [led] using h⟩
    · simp [led] at h
  have hk : Hid (y.cm.k = 1) := (by rw [Hy.out.2]; rfl : y.cm.k = 1)
  go_upto_region 4 with (first
    | (refine wpList_load_row (by rfl) 29 (.tmp 1) (by rfl) g (by rfl) 29 A (0, 0) _ k2.out Tryz.underlying29 rfl (info29 a18) ?_)
    | (go_at_call 11; refine (put_there M2 HA p2 (by omega)).mono ?_; rintro e w3 ⟨a3, c3, rfl, H3⟩
       have B3 : Hid (Below w2.heap.size w2 w3) := H3.out.choose_spec.2.2))
  have M3 : Hid (Cms w3 w1.heap.size a2 1 [y]) := by rw [← Hy.out.1]; exact M2.out.below B3.out
  go_wp2_with (go_at_call 34; refine (fold1 M3 hc2 hk).mono ?_; rintro e w4 ⟨C, rfl, H4⟩
               obtain ⟨a5, c5, rfl⟩ := H4.out.1
               have fq := fld58 (.slice a5 1 c5) (.slice none 0 0) w4)
  go_ret
  exact ⟨rfl, (B2.out.trans (B3.out.mono B2.out.size)).trans (H4.out.2.2.mono (Nat.le_trans B2.out.size B3.out.size))⟩
end Go.Proofs.YtfabnnbljkkihaaGreatDoor
