/- A bucket made in the empty catalog. -/
import Derived.Test.YtfabnnbljkkihaaGreatDoorLh
namespace Go.Proofs.YtfabnnbljkkihaaGreatDoor
open Go.ChangeShapes Go.WideShapes Go.ChangeAt Go.RowKit
set_option maxRecDepth 20000
set_option linter.unusedVariables false
set_option linter.unusedSimpArgs false
theorem info24 : (Tryz.prog.info? 24).map (fun i => (i.zero, i.size, i.bytes)) = some (some (.agg #[.int .i64 0, .int .i64 0, .int .i64 0]), 3, 24) := by kernel_rfl
theorem catZ : (Tryz.prog.info? 58).map (·.size) = some 2 := by kernel_rfl
theorem app_nil24 (w : World) : (Builtin.append_ #[49, 49] 49 #[.slice none 0 0, .slice none 0 0]).run Tryz.prog w = .ok (.slice none 0 0) w := by
  obtain ⟨i, hi, hz0, hz1, hz2⟩ := info_parts info24
  exact run_append_owned_none (P := Tryz.prog) w w.heap.size 49 49 24 i 3 Tryz.underlying49 hi (.slice none 0 0) 0 [] (World.ownsRow_nil w w.heap.size 24 3)
set_option maxHeartbeats 1000000 in
theorem copyCat0 (w : World) : Calls Tryz.prog 46 #[.agg #[.slice none 0 0, .slice none 0 0]] w fun e w' => ∃ g, e = .returned (.agg #[.slice (some ⟨g, 0, none⟩) 0 0, .slice none 0 0]) ∧ Hid (w'.ownsRow w.heap.size 65 5 (.slice (some ⟨g, 0, none⟩) 0 0) 0 [] ∧ Below w.heap.size w w') := by
  obtain ⟨w1, Hw1⟩ : ∃ w1, Hid ((w.alloc (.cells #[.slice none 0 0, .slice none 0 0] 58)).alloc (.cells #[.slice none 0 0, .slice none 0 0] 58) = w1) := ⟨_, rfl⟩
  obtain ⟨g, Hg⟩ : ∃ g, Hid (w.heap.size = g) := ⟨_, rfl⟩
  have S1 : Hid (Bz 58 #[.slice none 0 0, .slice none 0 0] w w1 g #[.slice none 0 0, .slice none 0 0]) := by rw [← Hw1.out, ← Hg.out]; exact Bz.new _ _ _ _
  have q1 : w1.cell? ⟨g, 0, none⟩ = some (.slice none 0 0) := S1.out.cell rfl
  go_enter Tryz.func46, Tryz.ntmps46
  go_upto_region 1 with (fail)
  rw [Hw1.out, Hg.out]
  clear Hw1
  obtain ⟨g2, Hg2⟩ : ∃ g, Hid (w1.heap.size = g) := ⟨_, rfl⟩
  go_upto_region 2 with (go_at_call 64; refine (copyAll0 w1).mono ?_; rintro e w2 ⟨rfl, H2⟩; rw [Hg2.out]; have q2 : w2.cell? ⟨g, 0, none⟩ = some (.slice none 0 0) := (S1.out.below H2.out.2).cell rfl; have q3 := (S1.out.below H2.out.2).frz 0)
  have O2 : Hid (w2.ownsRow w1.heap.size 65 5 (.slice (some ⟨g2, 0, none⟩) 0 0) 0 []) := by have h := H2.out.1; rw [Hg2.out] at h ⊢; exact h
  have S3 : Hid (Bz 58 #[.slice none 0 0, .slice none 0 0] w (w2.setCell ⟨g, 0, none⟩ (.slice (some ⟨g2, 0, none⟩) 0 0)) g #[.slice (some ⟨g2, 0, none⟩) 0 0, .slice none 0 0]) := (S1.out.below H2.out.2).put 0 _
  have LG : Hid (g + 2 ≤ w1.heap.size) := (Array.getElem?_eq_some_iff.1 S1.out.z).1
  have O3 : Hid ((w2.setCell ⟨g, 0, none⟩ (.slice (some ⟨g2, 0, none⟩) 0 0)).ownsRow w1.heap.size 65 5 (.slice (some ⟨g2, 0, none⟩) 0 0) 0 []) := rown_bel O2.out (fun q e => Below.heap_setCell _ _ _ _ (show q ≠ g by have := (O2.out.lt q e).1; have := LG.out; omega))
  obtain ⟨V3, HV3⟩ : ∃ V, Hid (w2.setCell ⟨g, 0, none⟩ (.slice (some ⟨g2, 0, none⟩) 0 0) = V) := ⟨_, rfl⟩
  rw [HV3.out] at S3 O3 ⊢
  clear HV3 q1 q2 q3 H2 O2 Hg2
  have q4 : V3.cell? ⟨g, 1, none⟩ = some (.slice none 0 0) := S3.out.cell rfl
  have q5 := S3.out.frz 1
  have AP : Hid ((Builtin.append_ #[49, 49] 49 #[.slice none 0 0, .slice none 0 0]).run Tryz.prog V3 = .ok (.slice none 0 0) V3) := app_nil24 V3
  go_upto_region 3 with (at_builtin; refine wpList_appt (by rfl) (.const (.slice none 0 0)) (.tmp 8) (by rfl) (by rfl) (by rfl) (by rfl) AP ?_)
  have S4 : Hid (Bz 58 #[.slice none 0 0, .slice none 0 0] w (V3.setCell ⟨g, 1, none⟩ (.slice none 0 0)) g #[.slice (some ⟨g2, 0, none⟩) 0 0, .slice none 0 0]) := S3.out.set rfl
  have O4 : Hid ((V3.setCell ⟨g, 1, none⟩ (.slice none 0 0)).ownsRow w1.heap.size 65 5 (.slice (some ⟨g2, 0, none⟩) 0 0) 0 []) := rown_bel O3.out (fun q e => Below.heap_setCell _ _ _ _ (show q ≠ g by have := (O3.out.lt q e).1; have := LG.out; omega))
  obtain ⟨V4, HV4⟩ : ∃ V, Hid (V3.setCell ⟨g, 1, none⟩ (.slice none 0 0) = V) := ⟨_, rfl⟩
  rw [HV4.out] at S4 O4 ⊢
  clear HV4 q4 q5 AP S3 O3
  obtain ⟨A, HA⟩ : ∃ A, Hid ((#[.slice (some ⟨g2, 0, none⟩) 0 0, .slice none 0 0] : Array Value) = A) := ⟨_, rfl⟩
  have a5 : (Tryz.prog.info? 58).map (·.size) = some A.size := by rw [← HA.out]; exact catZ
  have AA : Hid (A.all (·.oneCell') = true) := (show A.all (·.oneCell') = true by rw [← HA.out]; kernel_rfl)
  have a6 : Hid (A.size = 2) := (show A.size = 2 by rw [← HA.out]; rfl)
  rw [HA.out] at S4
  go_wp2_with (first
    | (refine wpList_load_row (by rfl) 58 (.tmp 1) (by rfl) g (by rfl) 58 A (0, 0) _ S4.out.b Tryz.underlying58 rfl a5 ?_)
    | (refine wpList_store_row (by rfl) 58 (.tmp 2) (.tmp 11) (by rfl) (g + 1) A (by rfl) (by rfl) 58 _ S4.out.z a5 (by rw [a6.out]; rfl) AA.out ?_))
  refine bodyPost_ret (results_cell_row Tryz.results46 _ _ (g + 1) 58 A (0, 0) _ (by rfl) (setRow_heap _ _ _ _ _ _ S4.out.z) Tryz.underlying58 rfl a5) rfl ?_
  refine ⟨g2, by rw [← HA.out], ?_, below_setRow S4.out.f (by have := S4.out.e; omega) _⟩
  exact rown_mono (rown_bel O4.out (fun q e => setRow_other _ _ _ _ (by have := (O4.out.lt q e).1; have := LG.out; omega))) (by have := S1.out.f.size; exact this)
theorem search0 (a : Option Addr) (c : Nat) (s : ByteArray) (w : World) : Calls Tryz.prog 81 #[.slice a 0 c, .string s, .func (.func 50) #[] #[]] w fun e w' => e = .returned (.tuple #[.int .i64 0, .bool false]) ∧ Hid (Below w.heap.size w w') := by
  go_enter Tryz.func81, Tryz.ntmps81
  go_wp2
  go_loopw [9, 10] (fun ta tb wr => ta = .int .i64 0 ∧ tb = .int .i64 0 ∧ Hid (wr = w)) (fun _ _ _ => 0)
  case atStart => exact ⟨rfl, rfl, rfl⟩
  case round =>
    obtain ⟨rfl, rfl, HW⟩ := hrel
    go_wp2
    go_ret2
    exact ⟨rfl, by rw [HW.out]; exact Below.refl _ _⟩
theorem find0 (a : Option Addr) (c : Nat) (s : ByteArray) (w : World) : Calls Tryz.prog 49 #[.slice a 0 c, .string s, .func (.func 50) #[] #[]] w fun e w' => e = .returned (.tuple #[.int .i64 0, .bool false]) ∧ Hid (Below w.heap.size w w') := by
  go_enter Tryz.func49, Tryz.ntmps49
  go_wp2_with (go_at_call 81; refine (search0 a c s _).mono ?_; rintro e w1 ⟨rfl, H1⟩)
  go_ret2
  exact ⟨rfl, H1.out⟩
theorem insert0 {w : World} {B g h c : Nat} {vs : List Value} (hl : vs.length = 5) (hone : ∀ v ∈ vs, v.oneCell' = true) (own : Hid (w.ownsRow B 65 5 (.slice (some ⟨g, 0, none⟩) 0 c) 0 [])) (hh : Hid (w.heap[h]? = some (.cells vs.toArray 65 (0, 0)))) (hB : B ≤ w.heap.size) :
    Calls Tryz.prog 116 #[.slice (some ⟨g, 0, none⟩) 0 c, .int .i64 0, .slice (some ⟨h, 0, none⟩) 1 1] w fun e w' => ∃ a' c', e = .returned (.slice a' 1 c') ∧ Hid (w'.ownsRow B 65 5 (.slice a' 1 c') 1 vs ∧ Ch w w' (fun q => q = g)) := by
  obtain ⟨i, hi, hz0, hz1, hz2⟩ := info_parts info65
  obtain ⟨v', w', hrun, hown, hgr, _⟩ := run_append_own (P := Tryz.prog) w B 56 56 65 i _ 5 80 Tryz.underlying56 hi hz0 hz1 hz2 rfl (by decide) (.slice (some ⟨g, 0, none⟩) 0 c) 0 [] own.out ⟨h, 0, none⟩ 1 1 vs (by rw [hl]) (fun j u hu => by
    rw [Addr.add_mid, Nat.zero_add]
    have h1 := hh.out
    simp [World.cell?, h1, hu]) hone (by unfold maxLen; omega) (by omega) hB
  obtain ⟨a', c', rfl⟩ := rown_slice hown
  have AP : Hid ((Builtin.append_ #[56, 56] 56 #[.slice (some ⟨g, 0, none⟩) 0 c, .slice (some ⟨h, 0, none⟩) 1 1]).run Tryz.prog w = .ok (.slice a' 1 c') w') := hrun
  have FIN : Hid (w'.ownsRow B 65 5 (.slice a' 1 c') 1 vs ∧ Ch w w' (fun q => q = g)) := ⟨hown, (grown_below hgr (Nat.zero_le _) (fun q _ => Nat.zero_le _)).os, (grown_below hgr (Nat.zero_le _) (fun q _ => Nat.zero_le _)).tape, (grown_below hgr (Nat.zero_le _) (fun q _ => Nat.zero_le _)).output, (grown_below hgr (Nat.zero_le _) (fun q _ => Nat.zero_le _)).size, fun k hk hn => hgr.block k hk (fun e => hn (by cases e; rfl))⟩
  clear hrun hown hgr hi hz0 hz1 hz2
  go_enter Tryz.func116, Tryz.ntmps116
  go_wp2_with (at_builtin; refine wpList_appt (by rfl) (.tmp 23) (.tmp 24) (by rfl) (by rfl) (by rfl) (by rfl) AP ?_)
  go_ret
  exact ⟨a', c', rfl, FIN.out⟩
theorem set0 {w : World} {B g c : Nat} {s : ByteArray} {tm : Int} (own : Hid (w.ownsRow B 65 5 (.slice (some ⟨g, 0, none⟩) 0 c) 0 [])) (hB : B ≤ w.heap.size) :
    Calls Tryz.prog 91 #[.slice (some ⟨g, 0, none⟩) 0 c, .string s, .func (.func 50) #[] #[], .agg #[.string s, .int .i64 tm, .int .i64 0, .slice none 0 0, .slice none 0 0]] w fun e w' => ∃ a' c', e = .returned (.slice a' 1 c') ∧ Hid (w'.ownsRow B 65 5 (.slice a' 1 c') 1 [.string s, .int .i64 tm, .int .i64 0, .slice none 0 0, .slice none 0 0] ∧ Ch w w' (fun q => q = g)) := by
  obtain ⟨w1, Hw1⟩ : ∃ w1, Hid (w.alloc (.cells #[.string s, .int .i64 tm, .int .i64 0, .slice none 0 0, .slice none 0 0] 65) = w1) := ⟨_, rfl⟩
  obtain ⟨g1, Hg1⟩ : ∃ g, Hid (w.heap.size = g) := ⟨_, rfl⟩
  have B1 : Hid (Below w.heap.size w w1) := by rw [← Hw1.out]; exact alloc1 w _
  have k1 : Hid (w1.heap[g1]? = some (.cells #[.string s, .int .i64 tm, .int .i64 0, .slice none 0 0, .slice none 0 0] 65 (0, 0))) := by rw [← Hw1.out, ← Hg1.out]; exact heap_alloc_new w _
  go_enter Tryz.func91, Tryz.ntmps91
  go_upto_region 1 with (fail)
  rw [Hw1.out, Hg1.out]
  go_upto_region 3 with (go_at_call 49; refine (find0 _ c s _).mono ?_; rintro e w2 ⟨rfl, H2⟩)
  have k2 : Hid (w2.heap[g1]? = some (.cells #[.string s, .int .i64 tm, .int .i64 0, .slice none 0 0, .slice none 0 0] 65 (0, 0))) := (H2.out.block g1 (Array.getElem?_eq_some_iff.1 k1.out).1).trans k1.out
  have B2 : Hid (Below w.heap.size w w2) := B1.out.trans (H2.out.mono B1.out.size)
  obtain ⟨w3, Hw3⟩ : ∃ w3, Hid (w2.alloc (.cells #[.string s, .int .i64 tm, .int .i64 0, .slice none 0 0, .slice none 0 0] 65) = w3) := ⟨_, rfl⟩
  obtain ⟨g3, Hg3⟩ : ∃ g, Hid (w2.heap.size = g) := ⟨_, rfl⟩
  have B3 : Hid (Below w.heap.size w w3) := by rw [← Hw3.out]; exact B2.out.alloc B2.out.size _
  have k3 : Hid (w3.heap[g3]? = some (.cells ([.string s, .int .i64 tm, .int .i64 0, .slice none 0 0, .slice none 0 0] : List Value).toArray 65 (0, 0))) := by rw [← Hw3.out, ← Hg3.out]; exact heap_alloc_new w2 _
  have O3 : Hid (w3.ownsRow B 65 5 (.slice (some ⟨g, 0, none⟩) 0 c) 0 []) := rown_bel own.out (fun q e => B3.out.block q (own.out.lt q e).2)
  have hB3 : B ≤ w3.heap.size := Nat.le_trans hB B3.out.size
  have c0 : w2.cell? ⟨g1, 0, none⟩ = some (.string s) := by have h := k2.out; simp [World.cell?, h]
  have c1 : w2.cell? ⟨g1, 1, none⟩ = some (.int .i64 tm) := by have h := k2.out; simp [World.cell?, h]
  have c2 : w2.cell? ⟨g1, 2, none⟩ = some (.int .i64 0) := by have h := k2.out; simp [World.cell?, h]
  have c3 : w2.cell? ⟨g1, 3, none⟩ = some (.slice none 0 0) := by have h := k2.out; simp [World.cell?, h]
  have c4 : w2.cell? ⟨g1, 4, none⟩ = some (.slice none 0 0) := by have h := k2.out; simp [World.cell?, h]
  go_wp2_with (go_at_call 116; rw [Hw3.out, Hg3.out]; refine (insert0 (by rfl) (by intro v hv; simp at hv; rcases hv with rfl | rfl | rfl | rfl <;> rfl) O3 k3 hB3).mono ?_; rintro e w4 ⟨a', c', rfl, H4⟩)
  go_ret
  exact ⟨a', c', rfl, H4.out.1, (Ch.below B3.out).trans H4.out.2⟩
/- what makeBucket looks at: the catalog at gc, the command at g -/
structure Mb (W : World) (gc g : Nat) (A : Array Value) (a : Option Addr) (n c : Nat) (fl : Value) : Prop where
  k : W.heap[gc]? = some (.cells #[.slice a n c, fl] 58 (0, 0))
  x : W.heap[g]? = some (.cells A 29 (0, 0))
section
variable {W W' : World} {gc g : Nat} {A : Array Value} {a : Option Addr} {n c : Nat} {fl : Value}
theorem Mb.c0 (h : Mb W gc g A a n c fl) : W.cell? ⟨gc, 0, none⟩ = some (.slice a n c) := by have h1 := h.k; simp [World.cell?, h1]
theorem Mb.c1 (h : Mb W gc g A a n c fl) : W.cell? ⟨gc, 1, none⟩ = some fl := by have h1 := h.k; simp [World.cell?, h1]
theorem Mb.ca (h : Mb W gc g A a n c fl) {i : Nat} {v : Value} (hv : A[i]? = some v) : W.cell? ⟨g, i, none⟩ = some v := by have h1 := h.x; simp [World.cell?, h1, hv]
theorem Mb.fz (h : Mb W gc g A a n c fl) (i : Nat) : W.frozen? ⟨gc, i, none⟩ = false := by have h1 := h.k; simp [World.frozen?, h1]
theorem Mb.below (h : Mb W gc g A a n c fl) (hb : Below W.heap.size W W') : Mb W' gc g A a n c fl := ⟨(hb.block gc (Array.getElem?_eq_some_iff.1 h.k).1).trans h.k, (hb.block g (Array.getElem?_eq_some_iff.1 h.x).1).trans h.x⟩
end
end Go.Proofs.YtfabnnbljkkihaaGreatDoor
